/-
  No cell of these rows narrows 'for every input' (looked for: loops, veiled, ifaces, maps, wideKeys, modest, calm, conditions, laid).
  DERIVED. THE GIVEN ROWS OF THIS SEAT. 3 by the template 'for every input the law returns true; each argument reads behind the call as it read before'; 0 by the template 'total and deterministic' (their statements: YtbjffmhdjbdpcaaTotals.lean).
  GIVEN WITH THE SEED: the statements are not yours to turn. If you find one false, say at which input.
  Laid BY PROGRAM, IN A SANDBOX (cutbox-rows.mjs): the forced cells as the released guide's own fill.sh prints them over the translation df38884015140151… (all of the seat's roots in one cut). By AI agents, Wed Nov 11 2026. No macro, syntax, notation, axiom, sorry.
-/
import Derived.Test.YtbjffmhdjbdpcaaChecked
import GoSem.Claim
import GoSem.ClaimJoined
import GoSem.ClaimMapViews
import Derived.JoinedTies
import Derived.KernelRfl
namespace Go.Proofs.Ytbjffmhdjbdpcaa
/- THE CELL 'sum', in the pinned program and in every row, IS THE sha256 OF THE DUMP (.gsa) THAT YtbjffmhdjbdpcaaProg.lean LOADS. Nothing in Lean hashes anything: it is a label: what it is worth is what the hold of that sum in a sandbox is worth. -/
noncomputable def Try.pinned : Pinned := { name := "ytbjffmhdjbdpcaa", sum := "df388840151401514c39a1a5d746a7d2f8b7a935f763ddf7060c80dfce5c6bc3", checked := Try.checked }
namespace Rows
def none {H : Type} : Left H := { results := [], args := [] }

/-- 'laws.FnCastNew': WHATEVER THE INPUT: true; the input reads as it did. -/
def fnCastNewSpec : ChangeSpec := { name := "fnCastNew", fn := fun _ => fun
  | [d] => { results := [.lit (.bool true)], args := [d] }
  | _ => none }
def fnCastNewRow : OpenClaim := { program := "ytbjffmhdjbdpcaa", sum := "df388840151401514c39a1a5d746a7d2f8b7a935f763ddf7060c80dfce5c6bc3", func := "loop.example/lightship/laws.FnCastNew", spec := "fnCastNew", inPlace := ["internal/reflectlite.ValueOf", "internal/reflectlite.Swapper", "(internal/reflectlite.Value).Len"], unfollowed := true, recurses := true, apart := false }
def FnCastNewSaid : Prop := fnCastNewRow.holds Try.pinned (OpenSpec.ofChange fnCastNewSpec)

/-- ITS FALSE NEIGHBOUR: 'it returns false'. Refute it at one input. -/
def fnCastNewWrong : ChangeSpec := { name := "fnCastNew", fn := fun _ => fun
  | [d] => { results := [.lit (.bool false)], args := [d] }
  | _ => none }
def FnCastNewWrongFalsely : Prop := fnCastNewRow.holds Try.pinned (OpenSpec.ofChange fnCastNewWrong)

/-- 'laws.FnCastKeep': WHATEVER THE INPUT: true; the input reads as it did. -/
def fnCastKeepSpec : ChangeSpec := { name := "fnCastKeep", fn := fun _ => fun
  | [d] => { results := [.lit (.bool true)], args := [d] }
  | _ => none }
def fnCastKeepRow : OpenClaim := { program := "ytbjffmhdjbdpcaa", sum := "df388840151401514c39a1a5d746a7d2f8b7a935f763ddf7060c80dfce5c6bc3", func := "loop.example/lightship/laws.FnCastKeep", spec := "fnCastKeep", inPlace := ["internal/reflectlite.ValueOf", "internal/reflectlite.Swapper", "(internal/reflectlite.Value).Len"], unfollowed := true, recurses := true, apart := false }
def FnCastKeepSaid : Prop := fnCastKeepRow.holds Try.pinned (OpenSpec.ofChange fnCastKeepSpec)

/-- ITS FALSE NEIGHBOUR: 'it returns false'. Refute it at one input. -/
def fnCastKeepWrong : ChangeSpec := { name := "fnCastKeep", fn := fun _ => fun
  | [d] => { results := [.lit (.bool false)], args := [d] }
  | _ => none }
def FnCastKeepWrongFalsely : Prop := fnCastKeepRow.holds Try.pinned (OpenSpec.ofChange fnCastKeepWrong)

/-- 'laws.FnExactCastPut': WHATEVER THE INPUT: true; the input reads as it did. -/
def fnExactCastPutSpec : ChangeSpec := { name := "fnExactCastPut", fn := fun _ => fun
  | [d1, d2] => { results := [.lit (.bool true)], args := [d1, d2] }
  | _ => none }
def fnExactCastPutRow : OpenClaim := { program := "ytbjffmhdjbdpcaa", sum := "df388840151401514c39a1a5d746a7d2f8b7a935f763ddf7060c80dfce5c6bc3", func := "loop.example/lightship/laws.FnExactCastPut", spec := "fnExactCastPut", inPlace := ["internal/reflectlite.ValueOf", "internal/reflectlite.Swapper", "(internal/reflectlite.Value).Len"], unfollowed := true, recurses := true, apart := false }
def FnExactCastPutSaid : Prop := fnExactCastPutRow.holds Try.pinned (OpenSpec.ofChange fnExactCastPutSpec)

/-- ITS FALSE NEIGHBOUR: 'it returns false'. Refute it at one input. -/
def fnExactCastPutWrong : ChangeSpec := { name := "fnExactCastPut", fn := fun _ => fun
  | [d1, d2] => { results := [.lit (.bool false)], args := [d1, d2] }
  | _ => none }
def FnExactCastPutWrongFalsely : Prop := fnExactCastPutRow.holds Try.pinned (OpenSpec.ofChange fnExactCastPutWrong)

/- THE SECOND FORM. 'bulk': how many values and letters a reading holds, each counted each time it is reached (what is shared counts as often as it is met; a slice's spare places count too). A statement '..UptoSaid' is the law's where the arguments, and the package variables that the reading takes, are together of bulk at most 1048576: NARROWER than '..Said'. Prove '..Said' where nothing that the law and all that it calls make is longer than what came in: it says more and counts as full. Else prove '..UptoSaid'. A law counts once. -/
mutual
def uptoBulk {H : Type} : DataW H → Nat
  | .lit (.string bytes) => bytes.length + 1
  | .lit _ => 1
  | .nil => 1
  | .ptr d => uptoBulk d + 1
  | .slice elems spare => uptoBulkAll elems + uptoBulkAll spare + 1
  | .agg parts => uptoBulkAll parts + 1
  | .iface _ d => uptoBulk d + 1
  | .map entries => uptoBulkEntries entries + 1
  | .held _ => 1
def uptoBulkAll {H : Type} : List (DataW H) → Nat
  | [] => 0
  | d :: r => uptoBulk d + uptoBulkAll r
def uptoBulkEntries {H : Type} : List (Lit × DataW H) → Nat
  | [] => 0
  | x :: r => uptoBulkEntry x + uptoBulkEntries r
def uptoBulkEntry {H : Type} : Lit × DataW H → Nat
  | (.string bytes, d) => bytes.length + uptoBulk d + 1
  | (_, d) => uptoBulk d + 1
 end
def uptoSmall : (H : Type) → List (DataW H) → Bool := fun _ ds => decide (uptoBulkAll ds ≤ 1048576)
def OpenSpec.upto (s : _root_.Go.ChangeSpec) : _root_.Go.OpenSpec := { _root_.Go.OpenSpec.ofChange s with cond := some uptoSmall }

/-- 'laws.FnCastNew', WHERE WHAT IT READS IS OF BULK AT MOST 1048576: true; the input reads as it did. -/
def fnCastNewUptoRow : OpenClaim := { program := "ytbjffmhdjbdpcaa", sum := "df388840151401514c39a1a5d746a7d2f8b7a935f763ddf7060c80dfce5c6bc3", func := "loop.example/lightship/laws.FnCastNew", spec := "fnCastNew", inPlace := ["internal/reflectlite.ValueOf", "internal/reflectlite.Swapper", "(internal/reflectlite.Value).Len"], unfollowed := true, recurses := true, apart := false, narrowed := true }
def FnCastNewUptoSaid : Prop := fnCastNewUptoRow.holds Try.pinned (OpenSpec.upto fnCastNewSpec)

/-- 'laws.FnCastKeep', WHERE WHAT IT READS IS OF BULK AT MOST 1048576: true; the input reads as it did. -/
def fnCastKeepUptoRow : OpenClaim := { program := "ytbjffmhdjbdpcaa", sum := "df388840151401514c39a1a5d746a7d2f8b7a935f763ddf7060c80dfce5c6bc3", func := "loop.example/lightship/laws.FnCastKeep", spec := "fnCastKeep", inPlace := ["internal/reflectlite.ValueOf", "internal/reflectlite.Swapper", "(internal/reflectlite.Value).Len"], unfollowed := true, recurses := true, apart := false, narrowed := true }
def FnCastKeepUptoSaid : Prop := fnCastKeepUptoRow.holds Try.pinned (OpenSpec.upto fnCastKeepSpec)

/-- 'laws.FnExactCastPut', WHERE WHAT IT READS IS OF BULK AT MOST 1048576: true; the input reads as it did. -/
def fnExactCastPutUptoRow : OpenClaim := { program := "ytbjffmhdjbdpcaa", sum := "df388840151401514c39a1a5d746a7d2f8b7a935f763ddf7060c80dfce5c6bc3", func := "loop.example/lightship/laws.FnExactCastPut", spec := "fnExactCastPut", inPlace := ["internal/reflectlite.ValueOf", "internal/reflectlite.Swapper", "(internal/reflectlite.Value).Len"], unfollowed := true, recurses := true, apart := false, narrowed := true }
def FnExactCastPutUptoSaid : Prop := fnExactCastPutUptoRow.holds Try.pinned (OpenSpec.upto fnExactCastPutSpec)

end Rows
end Go.Proofs.Ytbjffmhdjbdpcaa
