/-
  No cell of these rows narrows 'for every input' (looked for: loops, veiled, ifaces, maps, wideKeys, modest, calm, conditions, laid).
  DERIVED. THE GIVEN ROWS OF THIS SEAT. 5 by the template 'for every input the law returns true; each argument reads behind the call as it read before'; 0 by the template 'total and deterministic' (their statements: YtnplhfgdbabmaaaGreatTotals.lean).
  GIVEN WITH THE SEED: the statements are not yours to turn. If you find one false, say at which input.
  Laid BY PROGRAM, IN A SANDBOX (cutbox-rows.mjs): the forced cells as the released guide's own fill.sh prints them over the translation ff2dd1cfa15df6b2… (all of the seat's roots in one cut). By AI agents, Wed Nov 11 2026. No macro, syntax, notation, axiom, sorry.
-/
import Derived.Test.YtnplhfgdbabmaaaGreatChecked
import GoSem.Claim
import GoSem.ClaimJoined
import GoSem.ClaimMapViews
import Derived.JoinedTies
import Derived.KernelRfl
namespace Go.Proofs.YtnplhfgdbabmaaaGreat
/- THE CELL 'sum', in the pinned program and in every row, IS THE sha256 OF THE DUMP (.gsa) THAT YtnplhfgdbabmaaaGreatProg.lean LOADS. Nothing in Lean hashes anything: it is a label: what it is worth is what the hold of that sum in a sandbox is worth. -/
noncomputable def Tryz.pinned : Pinned := { name := "ytnplhfgdbabmaaagreat", sum := "ff2dd1cfa15df6b2b036dbc9265a25b65ec3f3e425f4435cb69dafd0412bad51", checked := Tryz.checked }
namespace Rows
def none {H : Type} : Left H := { results := [], args := [] }

/-- 'laws.FnExactNodeOk': WHATEVER THE INPUT: true; the input reads as it did. -/
def fnExactNodeOkSpec : ChangeSpec := { name := "fnExactNodeOk", fn := fun _ => fun
  | [d] => { results := [.lit (.bool true)], args := [d] }
  | _ => none }
def fnExactNodeOkRow : OpenClaim := { program := "ytnplhfgdbabmaaagreat", sum := "ff2dd1cfa15df6b2b036dbc9265a25b65ec3f3e425f4435cb69dafd0412bad51", func := "loop.example/lightship/laws.FnExactNodeOk", spec := "fnExactNodeOk", unfollowed := true, recurses := true, apart := false }
def FnExactNodeOkSaid : Prop := fnExactNodeOkRow.holds Tryz.pinned (OpenSpec.ofChange fnExactNodeOkSpec)

/-- ITS FALSE NEIGHBOUR: 'it returns false'. Refute it at one input. -/
def fnExactNodeOkWrong : ChangeSpec := { name := "fnExactNodeOk", fn := fun _ => fun
  | [d] => { results := [.lit (.bool false)], args := [d] }
  | _ => none }
def FnExactNodeOkWrongFalsely : Prop := fnExactNodeOkRow.holds Tryz.pinned (OpenSpec.ofChange fnExactNodeOkWrong)

/-- 'laws.FnExactNodeTakes': WHATEVER THE INPUT: true; the input reads as it did. -/
def fnExactNodeTakesSpec : ChangeSpec := { name := "fnExactNodeTakes", fn := fun _ => fun
  | [d1, d2] => { results := [.lit (.bool true)], args := [d1, d2] }
  | _ => none }
def fnExactNodeTakesRow : OpenClaim := { program := "ytnplhfgdbabmaaagreat", sum := "ff2dd1cfa15df6b2b036dbc9265a25b65ec3f3e425f4435cb69dafd0412bad51", func := "loop.example/lightship/laws.FnExactNodeTakes", spec := "fnExactNodeTakes", unfollowed := true, recurses := true, apart := false }
def FnExactNodeTakesSaid : Prop := fnExactNodeTakesRow.holds Tryz.pinned (OpenSpec.ofChange fnExactNodeTakesSpec)

/-- ITS FALSE NEIGHBOUR: 'it returns false'. Refute it at one input. -/
def fnExactNodeTakesWrong : ChangeSpec := { name := "fnExactNodeTakes", fn := fun _ => fun
  | [d1, d2] => { results := [.lit (.bool false)], args := [d1, d2] }
  | _ => none }
def FnExactNodeTakesWrongFalsely : Prop := fnExactNodeTakesRow.holds Tryz.pinned (OpenSpec.ofChange fnExactNodeTakesWrong)

/-- 'laws.FnExactNodeTrip': WHATEVER THE INPUT: true; the input reads as it did. -/
def fnExactNodeTripSpec : ChangeSpec := { name := "fnExactNodeTrip", fn := fun _ => fun
  | [d1, d2] => { results := [.lit (.bool true)], args := [d1, d2] }
  | _ => none }
def fnExactNodeTripRow : OpenClaim := { program := "ytnplhfgdbabmaaagreat", sum := "ff2dd1cfa15df6b2b036dbc9265a25b65ec3f3e425f4435cb69dafd0412bad51", func := "loop.example/lightship/laws.FnExactNodeTrip", spec := "fnExactNodeTrip", unfollowed := true, recurses := true, apart := false }
def FnExactNodeTripSaid : Prop := fnExactNodeTripRow.holds Tryz.pinned (OpenSpec.ofChange fnExactNodeTripSpec)

/-- ITS FALSE NEIGHBOUR: 'it returns false'. Refute it at one input. -/
def fnExactNodeTripWrong : ChangeSpec := { name := "fnExactNodeTrip", fn := fun _ => fun
  | [d1, d2] => { results := [.lit (.bool false)], args := [d1, d2] }
  | _ => none }
def FnExactNodeTripWrongFalsely : Prop := fnExactNodeTripRow.holds Tryz.pinned (OpenSpec.ofChange fnExactNodeTripWrong)

/-- 'laws.FnExactNodeGates': WHATEVER THE INPUT: true; the input reads as it did. -/
def fnExactNodeGatesSpec : ChangeSpec := { name := "fnExactNodeGates", fn := fun _ => fun
  | [d1, d2] => { results := [.lit (.bool true)], args := [d1, d2] }
  | _ => none }
def fnExactNodeGatesRow : OpenClaim := { program := "ytnplhfgdbabmaaagreat", sum := "ff2dd1cfa15df6b2b036dbc9265a25b65ec3f3e425f4435cb69dafd0412bad51", func := "loop.example/lightship/laws.FnExactNodeGates", spec := "fnExactNodeGates", unfollowed := true, recurses := true, apart := false }
def FnExactNodeGatesSaid : Prop := fnExactNodeGatesRow.holds Tryz.pinned (OpenSpec.ofChange fnExactNodeGatesSpec)

/-- ITS FALSE NEIGHBOUR: 'it returns false'. Refute it at one input. -/
def fnExactNodeGatesWrong : ChangeSpec := { name := "fnExactNodeGates", fn := fun _ => fun
  | [d1, d2] => { results := [.lit (.bool false)], args := [d1, d2] }
  | _ => none }
def FnExactNodeGatesWrongFalsely : Prop := fnExactNodeGatesRow.holds Tryz.pinned (OpenSpec.ofChange fnExactNodeGatesWrong)

/-- 'laws.FnExactNodeSure': WHATEVER THE INPUT: true; the input reads as it did. -/
def fnExactNodeSureSpec : ChangeSpec := { name := "fnExactNodeSure", fn := fun _ => fun
  | [d1, d2] => { results := [.lit (.bool true)], args := [d1, d2] }
  | _ => none }
def fnExactNodeSureRow : OpenClaim := { program := "ytnplhfgdbabmaaagreat", sum := "ff2dd1cfa15df6b2b036dbc9265a25b65ec3f3e425f4435cb69dafd0412bad51", func := "loop.example/lightship/laws.FnExactNodeSure", spec := "fnExactNodeSure", unfollowed := true, recurses := true, apart := false }
def FnExactNodeSureSaid : Prop := fnExactNodeSureRow.holds Tryz.pinned (OpenSpec.ofChange fnExactNodeSureSpec)

/-- ITS FALSE NEIGHBOUR: 'it returns false'. Refute it at one input. -/
def fnExactNodeSureWrong : ChangeSpec := { name := "fnExactNodeSure", fn := fun _ => fun
  | [d1, d2] => { results := [.lit (.bool false)], args := [d1, d2] }
  | _ => none }
def FnExactNodeSureWrongFalsely : Prop := fnExactNodeSureRow.holds Tryz.pinned (OpenSpec.ofChange fnExactNodeSureWrong)

/- THE SECOND FORM. 'bulk': how many values and letters a reading holds, each counted each time it is reached (what is shared counts as often as it is met; a slice's spare places count too). A statement '..UptoSaid' is the law's where the arguments, and the package variables that the reading takes, are together of bulk at most 1048576: NARROWER than '..Said'. Prove '..Said' where nothing that the law and all that it calls make is longer than what came in: it says more and counts as full. Else prove '..UptoSaid'. A law counts once. -/
mutual
def uptoBulk {H : Type} : DataW H → Nat
  | .lit (.string bytes) => bytes.length + 1
  | .lit _ => 1
  | .nil => 1
  | .ptr d => uptoBulk d + 1
  | .slice elems spare => uptoBulkAll elems + uptoBulkAll spare + 1
  | .agg parts => uptoBulkAll parts + 1
  | .iface _ d => uptoBulk d + 1
  | .map entries => uptoBulkEntries entries + 1
  | .held _ => 1
def uptoBulkAll {H : Type} : List (DataW H) → Nat
  | [] => 0
  | d :: r => uptoBulk d + uptoBulkAll r
def uptoBulkEntries {H : Type} : List (Lit × DataW H) → Nat
  | [] => 0
  | x :: r => uptoBulkEntry x + uptoBulkEntries r
def uptoBulkEntry {H : Type} : Lit × DataW H → Nat
  | (.string bytes, d) => bytes.length + uptoBulk d + 1
  | (_, d) => uptoBulk d + 1
 end
def uptoSmall : (H : Type) → List (DataW H) → Bool := fun _ ds => decide (uptoBulkAll ds ≤ 1048576)
def OpenSpec.upto (s : _root_.Go.ChangeSpec) : _root_.Go.OpenSpec := { _root_.Go.OpenSpec.ofChange s with cond := some uptoSmall }

/-- 'laws.FnExactNodeOk', WHERE WHAT IT READS IS OF BULK AT MOST 1048576: true; the input reads as it did. -/
def fnExactNodeOkUptoRow : OpenClaim := { program := "ytnplhfgdbabmaaagreat", sum := "ff2dd1cfa15df6b2b036dbc9265a25b65ec3f3e425f4435cb69dafd0412bad51", func := "loop.example/lightship/laws.FnExactNodeOk", spec := "fnExactNodeOk", unfollowed := true, recurses := true, apart := false, narrowed := true }
def FnExactNodeOkUptoSaid : Prop := fnExactNodeOkUptoRow.holds Tryz.pinned (OpenSpec.upto fnExactNodeOkSpec)

/-- 'laws.FnExactNodeTakes', WHERE WHAT IT READS IS OF BULK AT MOST 1048576: true; the input reads as it did. -/
def fnExactNodeTakesUptoRow : OpenClaim := { program := "ytnplhfgdbabmaaagreat", sum := "ff2dd1cfa15df6b2b036dbc9265a25b65ec3f3e425f4435cb69dafd0412bad51", func := "loop.example/lightship/laws.FnExactNodeTakes", spec := "fnExactNodeTakes", unfollowed := true, recurses := true, apart := false, narrowed := true }
def FnExactNodeTakesUptoSaid : Prop := fnExactNodeTakesUptoRow.holds Tryz.pinned (OpenSpec.upto fnExactNodeTakesSpec)

/-- 'laws.FnExactNodeTrip', WHERE WHAT IT READS IS OF BULK AT MOST 1048576: true; the input reads as it did. -/
def fnExactNodeTripUptoRow : OpenClaim := { program := "ytnplhfgdbabmaaagreat", sum := "ff2dd1cfa15df6b2b036dbc9265a25b65ec3f3e425f4435cb69dafd0412bad51", func := "loop.example/lightship/laws.FnExactNodeTrip", spec := "fnExactNodeTrip", unfollowed := true, recurses := true, apart := false, narrowed := true }
def FnExactNodeTripUptoSaid : Prop := fnExactNodeTripUptoRow.holds Tryz.pinned (OpenSpec.upto fnExactNodeTripSpec)

/-- 'laws.FnExactNodeGates', WHERE WHAT IT READS IS OF BULK AT MOST 1048576: true; the input reads as it did. -/
def fnExactNodeGatesUptoRow : OpenClaim := { program := "ytnplhfgdbabmaaagreat", sum := "ff2dd1cfa15df6b2b036dbc9265a25b65ec3f3e425f4435cb69dafd0412bad51", func := "loop.example/lightship/laws.FnExactNodeGates", spec := "fnExactNodeGates", unfollowed := true, recurses := true, apart := false, narrowed := true }
def FnExactNodeGatesUptoSaid : Prop := fnExactNodeGatesUptoRow.holds Tryz.pinned (OpenSpec.upto fnExactNodeGatesSpec)

/-- 'laws.FnExactNodeSure', WHERE WHAT IT READS IS OF BULK AT MOST 1048576: true; the input reads as it did. -/
def fnExactNodeSureUptoRow : OpenClaim := { program := "ytnplhfgdbabmaaagreat", sum := "ff2dd1cfa15df6b2b036dbc9265a25b65ec3f3e425f4435cb69dafd0412bad51", func := "loop.example/lightship/laws.FnExactNodeSure", spec := "fnExactNodeSure", unfollowed := true, recurses := true, apart := false, narrowed := true }
def FnExactNodeSureUptoSaid : Prop := fnExactNodeSureUptoRow.holds Tryz.pinned (OpenSpec.upto fnExactNodeSureSpec)

end Rows
end Go.Proofs.YtnplhfgdbabmaaaGreat
