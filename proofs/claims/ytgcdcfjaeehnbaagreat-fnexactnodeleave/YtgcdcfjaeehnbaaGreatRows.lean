/-
  No cell of these rows narrows 'for every input' (looked for: loops, veiled, ifaces, maps, wideKeys, modest, calm, conditions, laid).
  DERIVED. THE GIVEN ROWS OF THIS SEAT. 3 by the template 'for every input the law returns true; each argument reads behind the call as it read before'; 0 by the template 'total and deterministic' (their statements: YtgcdcfjaeehnbaaGreatTotals.lean).
  GIVEN WITH THE SEED: the statements are not yours to turn. If you find one false, say at which input.
  Laid BY PROGRAM, IN A SANDBOX (cutbox-rows.mjs): the forced cells as the released guide's own fill.sh prints them over the translation c148d5301d804708… (all of the seat's roots in one cut). By AI agents, Wed Nov 11 2026. No macro, syntax, notation, axiom, sorry.
-/
import Derived.Test.YtgcdcfjaeehnbaaGreatChecked
import GoSem.Claim
import GoSem.ClaimJoined
import GoSem.ClaimMapViews
import Derived.JoinedTies
import Derived.KernelRfl
namespace Go.Proofs.YtgcdcfjaeehnbaaGreat
/- THE CELL 'sum', in the pinned program and in every row, IS THE sha256 OF THE DUMP (.gsa) THAT YtgcdcfjaeehnbaaGreatProg.lean LOADS. Nothing in Lean hashes anything: it is a label: what it is worth is what the hold of that sum in a sandbox is worth. -/
noncomputable def Tryz.pinned : Pinned := { name := "ytgcdcfjaeehnbaagreat", sum := "c148d5301d8047084d1a057749b2254d2051565377f6d6f047b784a9f5e2eedf", checked := Tryz.checked }
namespace Rows
def none {H : Type} : Left H := { results := [], args := [] }

/-- 'laws.FnExactNodeTick': WHATEVER THE INPUT: true; the input reads as it did. -/
def fnExactNodeTickSpec : ChangeSpec := { name := "fnExactNodeTick", fn := fun _ => fun
  | [d1, d2] => { results := [.lit (.bool true)], args := [d1, d2] }
  | _ => none }
def fnExactNodeTickRow : OpenClaim := { program := "ytgcdcfjaeehnbaagreat", sum := "c148d5301d8047084d1a057749b2254d2051565377f6d6f047b784a9f5e2eedf", func := "loop.example/lightship/laws.FnExactNodeTick", spec := "fnExactNodeTick", inPlace := ["internal/reflectlite.ValueOf", "internal/reflectlite.Swapper", "(internal/reflectlite.Value).Len"], unfollowed := true, recurses := true, apart := false }
def FnExactNodeTickSaid : Prop := fnExactNodeTickRow.holds Tryz.pinned (OpenSpec.ofChange fnExactNodeTickSpec)

/-- ITS FALSE NEIGHBOUR: 'it returns false'. Refute it at one input. -/
def fnExactNodeTickWrong : ChangeSpec := { name := "fnExactNodeTick", fn := fun _ => fun
  | [d1, d2] => { results := [.lit (.bool false)], args := [d1, d2] }
  | _ => none }
def FnExactNodeTickWrongFalsely : Prop := fnExactNodeTickRow.holds Tryz.pinned (OpenSpec.ofChange fnExactNodeTickWrong)

/-- 'laws.FnExactNodeLeave': WHATEVER THE INPUT: true; the input reads as it did. -/
def fnExactNodeLeaveSpec : ChangeSpec := { name := "fnExactNodeLeave", fn := fun _ => fun
  | [d] => { results := [.lit (.bool true)], args := [d] }
  | _ => none }
def fnExactNodeLeaveRow : OpenClaim := { program := "ytgcdcfjaeehnbaagreat", sum := "c148d5301d8047084d1a057749b2254d2051565377f6d6f047b784a9f5e2eedf", func := "loop.example/lightship/laws.FnExactNodeLeave", spec := "fnExactNodeLeave", inPlace := ["internal/reflectlite.ValueOf", "internal/reflectlite.Swapper", "(internal/reflectlite.Value).Len"], unfollowed := true, recurses := true, apart := false }
def FnExactNodeLeaveSaid : Prop := fnExactNodeLeaveRow.holds Tryz.pinned (OpenSpec.ofChange fnExactNodeLeaveSpec)

/-- ITS FALSE NEIGHBOUR: 'it returns false'. Refute it at one input. -/
def fnExactNodeLeaveWrong : ChangeSpec := { name := "fnExactNodeLeave", fn := fun _ => fun
  | [d] => { results := [.lit (.bool false)], args := [d] }
  | _ => none }
def FnExactNodeLeaveWrongFalsely : Prop := fnExactNodeLeaveRow.holds Tryz.pinned (OpenSpec.ofChange fnExactNodeLeaveWrong)

/-- 'laws.FnExactNodeNear': WHATEVER THE INPUT: true; the input reads as it did. -/
def fnExactNodeNearSpec : ChangeSpec := { name := "fnExactNodeNear", fn := fun _ => fun
  | [d1, d2] => { results := [.lit (.bool true)], args := [d1, d2] }
  | _ => none }
def fnExactNodeNearRow : OpenClaim := { program := "ytgcdcfjaeehnbaagreat", sum := "c148d5301d8047084d1a057749b2254d2051565377f6d6f047b784a9f5e2eedf", func := "loop.example/lightship/laws.FnExactNodeNear", spec := "fnExactNodeNear", inPlace := ["internal/reflectlite.ValueOf", "internal/reflectlite.Swapper", "(internal/reflectlite.Value).Len"], unfollowed := true, recurses := true, apart := false }
def FnExactNodeNearSaid : Prop := fnExactNodeNearRow.holds Tryz.pinned (OpenSpec.ofChange fnExactNodeNearSpec)

/-- ITS FALSE NEIGHBOUR: 'it returns false'. Refute it at one input. -/
def fnExactNodeNearWrong : ChangeSpec := { name := "fnExactNodeNear", fn := fun _ => fun
  | [d1, d2] => { results := [.lit (.bool false)], args := [d1, d2] }
  | _ => none }
def FnExactNodeNearWrongFalsely : Prop := fnExactNodeNearRow.holds Tryz.pinned (OpenSpec.ofChange fnExactNodeNearWrong)

/- THE SECOND FORM. 'bulk': how many values and letters a reading holds, each counted each time it is reached (what is shared counts as often as it is met; a slice's spare places count too). A statement '..UptoSaid' is the law's where the arguments, and the package variables that the reading takes, are together of bulk at most 1048576: NARROWER than '..Said'. Prove '..Said' where nothing that the law and all that it calls make is longer than what came in: it says more and counts as full. Else prove '..UptoSaid'. A law counts once. -/
mutual
def uptoBulk {H : Type} : DataW H → Nat
  | .lit (.string bytes) => bytes.length + 1
  | .lit _ => 1
  | .nil => 1
  | .ptr d => uptoBulk d + 1
  | .slice elems spare => uptoBulkAll elems + uptoBulkAll spare + 1
  | .agg parts => uptoBulkAll parts + 1
  | .iface _ d => uptoBulk d + 1
  | .map entries => uptoBulkEntries entries + 1
  | .held _ => 1
def uptoBulkAll {H : Type} : List (DataW H) → Nat
  | [] => 0
  | d :: r => uptoBulk d + uptoBulkAll r
def uptoBulkEntries {H : Type} : List (Lit × DataW H) → Nat
  | [] => 0
  | x :: r => uptoBulkEntry x + uptoBulkEntries r
def uptoBulkEntry {H : Type} : Lit × DataW H → Nat
  | (.string bytes, d) => bytes.length + uptoBulk d + 1
  | (_, d) => uptoBulk d + 1
 end
def uptoSmall : (H : Type) → List (DataW H) → Bool := fun _ ds => decide (uptoBulkAll ds ≤ 1048576)
def OpenSpec.upto (s : _root_.Go.ChangeSpec) : _root_.Go.OpenSpec := { _root_.Go.OpenSpec.ofChange s with cond := some uptoSmall }

/-- 'laws.FnExactNodeTick', WHERE WHAT IT READS IS OF BULK AT MOST 1048576: true; the input reads as it did. -/
def fnExactNodeTickUptoRow : OpenClaim := { program := "ytgcdcfjaeehnbaagreat", sum := "c148d5301d8047084d1a057749b2254d2051565377f6d6f047b784a9f5e2eedf", func := "loop.example/lightship/laws.FnExactNodeTick", spec := "fnExactNodeTick", inPlace := ["internal/reflectlite.ValueOf", "internal/reflectlite.Swapper", "(internal/reflectlite.Value).Len"], unfollowed := true, recurses := true, apart := false, narrowed := true }
def FnExactNodeTickUptoSaid : Prop := fnExactNodeTickUptoRow.holds Tryz.pinned (OpenSpec.upto fnExactNodeTickSpec)

/-- 'laws.FnExactNodeLeave', WHERE WHAT IT READS IS OF BULK AT MOST 1048576: true; the input reads as it did. -/
def fnExactNodeLeaveUptoRow : OpenClaim := { program := "ytgcdcfjaeehnbaagreat", sum := "c148d5301d8047084d1a057749b2254d2051565377f6d6f047b784a9f5e2eedf", func := "loop.example/lightship/laws.FnExactNodeLeave", spec := "fnExactNodeLeave", inPlace := ["internal/reflectlite.ValueOf", "internal/reflectlite.Swapper", "(internal/reflectlite.Value).Len"], unfollowed := true, recurses := true, apart := false, narrowed := true }
def FnExactNodeLeaveUptoSaid : Prop := fnExactNodeLeaveUptoRow.holds Tryz.pinned (OpenSpec.upto fnExactNodeLeaveSpec)

/-- 'laws.FnExactNodeNear', WHERE WHAT IT READS IS OF BULK AT MOST 1048576: true; the input reads as it did. -/
def fnExactNodeNearUptoRow : OpenClaim := { program := "ytgcdcfjaeehnbaagreat", sum := "c148d5301d8047084d1a057749b2254d2051565377f6d6f047b784a9f5e2eedf", func := "loop.example/lightship/laws.FnExactNodeNear", spec := "fnExactNodeNear", inPlace := ["internal/reflectlite.ValueOf", "internal/reflectlite.Swapper", "(internal/reflectlite.Value).Len"], unfollowed := true, recurses := true, apart := false, narrowed := true }
def FnExactNodeNearUptoSaid : Prop := fnExactNodeNearUptoRow.holds Tryz.pinned (OpenSpec.upto fnExactNodeNearSpec)

end Rows
end Go.Proofs.YtgcdcfjaeehnbaaGreat
