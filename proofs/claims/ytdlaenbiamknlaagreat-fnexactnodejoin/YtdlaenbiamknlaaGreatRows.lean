/-
  No cell of these rows narrows 'for every input' (looked for: loops, veiled, ifaces, maps, wideKeys, modest, calm, conditions, laid).
  DERIVED. THE GIVEN ROWS OF THIS SEAT. 3 by the template 'for every input the law returns true; each argument reads behind the call as it read before'; 0 by the template 'total and deterministic' (their statements: YtdlaenbiamknlaaGreatTotals.lean).
  GIVEN WITH THE SEED: the statements are not yours to turn. If you find one false, say at which input.
  Laid BY PROGRAM, IN A SANDBOX (cutbox-rows.mjs): the forced cells as the released guide's own fill.sh prints them over the translation fd7c53f047844d80… (all of the seat's roots in one cut). By AI agents, Wed Nov 11 2026. No macro, syntax, notation, axiom, sorry.
-/
import Derived.Test.YtdlaenbiamknlaaGreatChecked
import GoSem.Claim
import GoSem.ClaimJoined
import GoSem.ClaimMapViews
import Derived.JoinedTies
import Derived.KernelRfl
namespace Go.Proofs.YtdlaenbiamknlaaGreat
/- THE CELL 'sum', in the pinned program and in every row, IS THE sha256 OF THE DUMP (.gsa) THAT YtdlaenbiamknlaaGreatProg.lean LOADS. Nothing in Lean hashes anything: it is a label: what it is worth is what the hold of that sum in a sandbox is worth. -/
noncomputable def Tryz.pinned : Pinned := { name := "ytdlaenbiamknlaagreat", sum := "fd7c53f047844d80106fe8def70eee12200e640eb7a74940f5e16c1b2f64a48f", checked := Tryz.checked }
namespace Rows
def none {H : Type} : Left H := { results := [], args := [] }

/-- 'laws.FnExactNodeJoin': WHATEVER THE INPUT: true; the input reads as it did. -/
def fnExactNodeJoinSpec : ChangeSpec := { name := "fnExactNodeJoin", fn := fun _ => fun
  | [d1, d2] => { results := [.lit (.bool true)], args := [d1, d2] }
  | _ => none }
def fnExactNodeJoinRow : OpenClaim := { program := "ytdlaenbiamknlaagreat", sum := "fd7c53f047844d80106fe8def70eee12200e640eb7a74940f5e16c1b2f64a48f", func := "loop.example/lightship/laws.FnExactNodeJoin", spec := "fnExactNodeJoin", unfollowed := true, recurses := true, apart := false }
def FnExactNodeJoinSaid : Prop := fnExactNodeJoinRow.holds Tryz.pinned (OpenSpec.ofChange fnExactNodeJoinSpec)

/-- ITS FALSE NEIGHBOUR: 'it returns false'. Refute it at one input. -/
def fnExactNodeJoinWrong : ChangeSpec := { name := "fnExactNodeJoin", fn := fun _ => fun
  | [d1, d2] => { results := [.lit (.bool false)], args := [d1, d2] }
  | _ => none }
def FnExactNodeJoinWrongFalsely : Prop := fnExactNodeJoinRow.holds Tryz.pinned (OpenSpec.ofChange fnExactNodeJoinWrong)

/-- 'laws.FnExactNodeLeave': WHATEVER THE INPUT: true; the input reads as it did. -/
def fnExactNodeLeaveSpec : ChangeSpec := { name := "fnExactNodeLeave", fn := fun _ => fun
  | [d] => { results := [.lit (.bool true)], args := [d] }
  | _ => none }
def fnExactNodeLeaveRow : OpenClaim := { program := "ytdlaenbiamknlaagreat", sum := "fd7c53f047844d80106fe8def70eee12200e640eb7a74940f5e16c1b2f64a48f", func := "loop.example/lightship/laws.FnExactNodeLeave", spec := "fnExactNodeLeave", inPlace := ["internal/reflectlite.ValueOf", "internal/reflectlite.Swapper", "(internal/reflectlite.Value).Len"], unfollowed := true, recurses := true, apart := false }
def FnExactNodeLeaveSaid : Prop := fnExactNodeLeaveRow.holds Tryz.pinned (OpenSpec.ofChange fnExactNodeLeaveSpec)

/-- ITS FALSE NEIGHBOUR: 'it returns false'. Refute it at one input. -/
def fnExactNodeLeaveWrong : ChangeSpec := { name := "fnExactNodeLeave", fn := fun _ => fun
  | [d] => { results := [.lit (.bool false)], args := [d] }
  | _ => none }
def FnExactNodeLeaveWrongFalsely : Prop := fnExactNodeLeaveRow.holds Tryz.pinned (OpenSpec.ofChange fnExactNodeLeaveWrong)

/-- 'laws.FnExactNodeView': WHATEVER THE INPUT: true; the input reads as it did. -/
def fnExactNodeViewSpec : ChangeSpec := { name := "fnExactNodeView", fn := fun _ => fun
  | [d] => { results := [.lit (.bool true)], args := [d] }
  | _ => none }
def fnExactNodeViewRow : OpenClaim := { program := "ytdlaenbiamknlaagreat", sum := "fd7c53f047844d80106fe8def70eee12200e640eb7a74940f5e16c1b2f64a48f", func := "loop.example/lightship/laws.FnExactNodeView", spec := "fnExactNodeView", inPlace := ["internal/reflectlite.ValueOf", "internal/reflectlite.Swapper", "(internal/reflectlite.Value).Len"], unfollowed := true, recurses := true, apart := false }
def FnExactNodeViewSaid : Prop := fnExactNodeViewRow.holds Tryz.pinned (OpenSpec.ofChange fnExactNodeViewSpec)

/-- ITS FALSE NEIGHBOUR: 'it returns false'. Refute it at one input. -/
def fnExactNodeViewWrong : ChangeSpec := { name := "fnExactNodeView", fn := fun _ => fun
  | [d] => { results := [.lit (.bool false)], args := [d] }
  | _ => none }
def FnExactNodeViewWrongFalsely : Prop := fnExactNodeViewRow.holds Tryz.pinned (OpenSpec.ofChange fnExactNodeViewWrong)

/- THE SECOND FORM. 'bulk': how many values and letters a reading holds, each counted each time it is reached (what is shared counts as often as it is met; a slice's spare places count too). A statement '..UptoSaid' is the law's where the arguments, and the package variables that the reading takes, are together of bulk at most 1048576: NARROWER than '..Said'. Prove '..Said' where nothing that the law and all that it calls make is longer than what came in: it says more and counts as full. Else prove '..UptoSaid'. A law counts once. -/
mutual
def uptoBulk {H : Type} : DataW H → Nat
  | .lit (.string bytes) => bytes.length + 1
  | .lit _ => 1
  | .nil => 1
  | .ptr d => uptoBulk d + 1
  | .slice elems spare => uptoBulkAll elems + uptoBulkAll spare + 1
  | .agg parts => uptoBulkAll parts + 1
  | .iface _ d => uptoBulk d + 1
  | .map entries => uptoBulkEntries entries + 1
  | .held _ => 1
def uptoBulkAll {H : Type} : List (DataW H) → Nat
  | [] => 0
  | d :: r => uptoBulk d + uptoBulkAll r
def uptoBulkEntries {H : Type} : List (Lit × DataW H) → Nat
  | [] => 0
  | x :: r => uptoBulkEntry x + uptoBulkEntries r
def uptoBulkEntry {H : Type} : Lit × DataW H → Nat
  | (.string bytes, d) => bytes.length + uptoBulk d + 1
  | (_, d) => uptoBulk d + 1
 end
def uptoSmall : (H : Type) → List (DataW H) → Bool := fun _ ds => decide (uptoBulkAll ds ≤ 1048576)
def OpenSpec.upto (s : _root_.Go.ChangeSpec) : _root_.Go.OpenSpec := { _root_.Go.OpenSpec.ofChange s with cond := some uptoSmall }

/-- 'laws.FnExactNodeJoin', WHERE WHAT IT READS IS OF BULK AT MOST 1048576: true; the input reads as it did. -/
def fnExactNodeJoinUptoRow : OpenClaim := { program := "ytdlaenbiamknlaagreat", sum := "fd7c53f047844d80106fe8def70eee12200e640eb7a74940f5e16c1b2f64a48f", func := "loop.example/lightship/laws.FnExactNodeJoin", spec := "fnExactNodeJoin", unfollowed := true, recurses := true, apart := false, narrowed := true }
def FnExactNodeJoinUptoSaid : Prop := fnExactNodeJoinUptoRow.holds Tryz.pinned (OpenSpec.upto fnExactNodeJoinSpec)

/-- 'laws.FnExactNodeLeave', WHERE WHAT IT READS IS OF BULK AT MOST 1048576: true; the input reads as it did. -/
def fnExactNodeLeaveUptoRow : OpenClaim := { program := "ytdlaenbiamknlaagreat", sum := "fd7c53f047844d80106fe8def70eee12200e640eb7a74940f5e16c1b2f64a48f", func := "loop.example/lightship/laws.FnExactNodeLeave", spec := "fnExactNodeLeave", inPlace := ["internal/reflectlite.ValueOf", "internal/reflectlite.Swapper", "(internal/reflectlite.Value).Len"], unfollowed := true, recurses := true, apart := false, narrowed := true }
def FnExactNodeLeaveUptoSaid : Prop := fnExactNodeLeaveUptoRow.holds Tryz.pinned (OpenSpec.upto fnExactNodeLeaveSpec)

/-- 'laws.FnExactNodeView', WHERE WHAT IT READS IS OF BULK AT MOST 1048576: true; the input reads as it did. -/
def fnExactNodeViewUptoRow : OpenClaim := { program := "ytdlaenbiamknlaagreat", sum := "fd7c53f047844d80106fe8def70eee12200e640eb7a74940f5e16c1b2f64a48f", func := "loop.example/lightship/laws.FnExactNodeView", spec := "fnExactNodeView", inPlace := ["internal/reflectlite.ValueOf", "internal/reflectlite.Swapper", "(internal/reflectlite.Value).Len"], unfollowed := true, recurses := true, apart := false, narrowed := true }
def FnExactNodeViewUptoSaid : Prop := fnExactNodeViewUptoRow.holds Tryz.pinned (OpenSpec.upto fnExactNodeViewSpec)

end Rows
end Go.Proofs.YtdlaenbiamknlaaGreat
