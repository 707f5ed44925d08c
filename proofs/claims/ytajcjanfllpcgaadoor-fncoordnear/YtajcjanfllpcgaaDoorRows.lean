/-
  NARROWER THAN 'FOR EVERY INPUT', by the rows' own cells (each row's printed sentence says how): FnCoordBox: laid · FnCoordBad: laid · FnCoordNear: laid · FnCoordTurn: laid · FnCoordStill: laid · FnExactCoordMove: laid.
  DERIVED. THE GIVEN ROWS OF THIS SEAT. 6 by the template 'for every input the law returns true; each argument reads behind the call as it read before'; 0 by the template 'total and deterministic' (their statements: YtajcjanfllpcgaaDoorTotals.lean).
  GIVEN WITH THE SEED: the statements are not yours to turn. If you find one false, say at which input.
  Laid BY PROGRAM, IN A SANDBOX (cutbox-rows.mjs): the forced cells as the released guide's own fill.sh prints them over the translation 2a8fd94c8b7bf041… (all of the seat's roots in one cut). By AI agents, Wed Nov 11 2026. No macro, syntax, notation, axiom, sorry.
-/
import Derived.Test.YtajcjanfllpcgaaDoorChecked
import GoSem.Claim
import GoSem.ClaimJoined
import GoSem.ClaimMapViews
import Derived.JoinedTies
import Derived.KernelRfl
namespace Go.Proofs.YtajcjanfllpcgaaDoor
/- THE CELL 'sum', in the pinned program and in every row, IS THE sha256 OF THE DUMP (.gsa) THAT YtajcjanfllpcgaaDoorProg.lean LOADS. Nothing in Lean hashes anything: it is a label: what it is worth is what the hold of that sum in a sandbox is worth. -/
noncomputable def Tryd.pinned : Pinned := { name := "ytajcjanfllpcgaadoor", sum := "2a8fd94c8b7bf04160937e7f0e021b528546b47864e4338673b62eb7747a6f10", checked := Tryd.checked }
namespace Rows
def none {H : Type} : Left H := { results := [], args := [] }

/- WHAT THE LISTED PACKAGE-LEVEL VARIABLES READ AS WHEN THE CALL BEGINS. Each datum BY PROGRAM (the guide's laid-datum.mjs) off the statement by which the dump's own 'gosem.cut.vars' lays the variable. In a bare row this is a premise. The card (YtajcjanfllpcgaaDoorCards.lean) ties it to the program's text. -/
def laid_loop_example_lightship_impl_coordTurns {H : Type} : DataW H := .agg [.agg [.lit (.int .i64 1), .lit (.int .i64 0)], .agg [.lit (.int .i64 0), .lit (.int .i64 1)], .agg [.lit (.int .i64 (-1)), .lit (.int .i64 0)], .agg [.lit (.int .i64 0), .lit (.int .i64 (-1))]]

/-- 'laws.FnCoordBox': WHATEVER THE INPUT: true; the input reads as it did. -/
def fnCoordBoxSpec : ChangeSpec := { name := "fnCoordBox", vars := ["loop.example/lightship/impl.coordTurns"], fn := fun _ => fun
  | [d, g1] => { results := [.lit (.bool true)], args := [d], vars := [g1] }
  | _ => none }
def fnCoordBoxRow : OpenClaim := { program := "ytajcjanfllpcgaadoor", sum := "2a8fd94c8b7bf04160937e7f0e021b528546b47864e4338673b62eb7747a6f10", func := "loop.example/lightship/laws.FnCoordBox", spec := "fnCoordBox", unfollowed := true, recurses := true, named := ["loop.example/lightship/impl.coordTurns"], apart := false, laid := [("loop.example/lightship/impl.coordTurns", laid_loop_example_lightship_impl_coordTurns)] }
def FnCoordBoxSaid : Prop := fnCoordBoxRow.holds Tryd.pinned (OpenSpec.ofChange fnCoordBoxSpec)

/-- ITS FALSE NEIGHBOUR: 'it returns false'. Refute it at one input. -/
def fnCoordBoxWrong : ChangeSpec := { name := "fnCoordBox", vars := ["loop.example/lightship/impl.coordTurns"], fn := fun _ => fun
  | [d, g1] => { results := [.lit (.bool false)], args := [d], vars := [g1] }
  | _ => none }
def FnCoordBoxWrongFalsely : Prop := fnCoordBoxRow.holds Tryd.pinned (OpenSpec.ofChange fnCoordBoxWrong)

/-- 'laws.FnCoordBad': WHATEVER THE INPUT: true; the input reads as it did. -/
def fnCoordBadSpec : ChangeSpec := { name := "fnCoordBad", vars := ["loop.example/lightship/impl.coordTurns"], fn := fun _ => fun
  | [d, g1] => { results := [.lit (.bool true)], args := [d], vars := [g1] }
  | _ => none }
def fnCoordBadRow : OpenClaim := { program := "ytajcjanfllpcgaadoor", sum := "2a8fd94c8b7bf04160937e7f0e021b528546b47864e4338673b62eb7747a6f10", func := "loop.example/lightship/laws.FnCoordBad", spec := "fnCoordBad", unfollowed := true, recurses := true, named := ["loop.example/lightship/impl.coordTurns"], apart := false, laid := [("loop.example/lightship/impl.coordTurns", laid_loop_example_lightship_impl_coordTurns)] }
def FnCoordBadSaid : Prop := fnCoordBadRow.holds Tryd.pinned (OpenSpec.ofChange fnCoordBadSpec)

/-- ITS FALSE NEIGHBOUR: 'it returns false'. Refute it at one input. -/
def fnCoordBadWrong : ChangeSpec := { name := "fnCoordBad", vars := ["loop.example/lightship/impl.coordTurns"], fn := fun _ => fun
  | [d, g1] => { results := [.lit (.bool false)], args := [d], vars := [g1] }
  | _ => none }
def FnCoordBadWrongFalsely : Prop := fnCoordBadRow.holds Tryd.pinned (OpenSpec.ofChange fnCoordBadWrong)

/-- 'laws.FnCoordNear': WHATEVER THE INPUT: true; the input reads as it did. -/
def fnCoordNearSpec : ChangeSpec := { name := "fnCoordNear", vars := ["loop.example/lightship/impl.coordTurns"], fn := fun _ => fun
  | [d, g1] => { results := [.lit (.bool true)], args := [d], vars := [g1] }
  | _ => none }
def fnCoordNearRow : OpenClaim := { program := "ytajcjanfllpcgaadoor", sum := "2a8fd94c8b7bf04160937e7f0e021b528546b47864e4338673b62eb7747a6f10", func := "loop.example/lightship/laws.FnCoordNear", spec := "fnCoordNear", unfollowed := true, recurses := true, named := ["loop.example/lightship/impl.coordTurns"], apart := false, laid := [("loop.example/lightship/impl.coordTurns", laid_loop_example_lightship_impl_coordTurns)] }
def FnCoordNearSaid : Prop := fnCoordNearRow.holds Tryd.pinned (OpenSpec.ofChange fnCoordNearSpec)

/-- ITS FALSE NEIGHBOUR: 'it returns false'. Refute it at one input. -/
def fnCoordNearWrong : ChangeSpec := { name := "fnCoordNear", vars := ["loop.example/lightship/impl.coordTurns"], fn := fun _ => fun
  | [d, g1] => { results := [.lit (.bool false)], args := [d], vars := [g1] }
  | _ => none }
def FnCoordNearWrongFalsely : Prop := fnCoordNearRow.holds Tryd.pinned (OpenSpec.ofChange fnCoordNearWrong)

/-- 'laws.FnCoordTurn': WHATEVER THE INPUT: true; the input reads as it did. -/
def fnCoordTurnSpec : ChangeSpec := { name := "fnCoordTurn", vars := ["loop.example/lightship/impl.coordTurns"], fn := fun _ => fun
  | [d, g1] => { results := [.lit (.bool true)], args := [d], vars := [g1] }
  | _ => none }
def fnCoordTurnRow : OpenClaim := { program := "ytajcjanfllpcgaadoor", sum := "2a8fd94c8b7bf04160937e7f0e021b528546b47864e4338673b62eb7747a6f10", func := "loop.example/lightship/laws.FnCoordTurn", spec := "fnCoordTurn", unfollowed := true, recurses := true, named := ["loop.example/lightship/impl.coordTurns"], apart := false, laid := [("loop.example/lightship/impl.coordTurns", laid_loop_example_lightship_impl_coordTurns)] }
def FnCoordTurnSaid : Prop := fnCoordTurnRow.holds Tryd.pinned (OpenSpec.ofChange fnCoordTurnSpec)

/-- ITS FALSE NEIGHBOUR: 'it returns false'. Refute it at one input. -/
def fnCoordTurnWrong : ChangeSpec := { name := "fnCoordTurn", vars := ["loop.example/lightship/impl.coordTurns"], fn := fun _ => fun
  | [d, g1] => { results := [.lit (.bool false)], args := [d], vars := [g1] }
  | _ => none }
def FnCoordTurnWrongFalsely : Prop := fnCoordTurnRow.holds Tryd.pinned (OpenSpec.ofChange fnCoordTurnWrong)

/-- 'laws.FnCoordStill': WHATEVER THE INPUT: true; the input reads as it did. -/
def fnCoordStillSpec : ChangeSpec := { name := "fnCoordStill", vars := ["loop.example/lightship/impl.coordTurns"], fn := fun _ => fun
  | [d, g1] => { results := [.lit (.bool true)], args := [d], vars := [g1] }
  | _ => none }
def fnCoordStillRow : OpenClaim := { program := "ytajcjanfllpcgaadoor", sum := "2a8fd94c8b7bf04160937e7f0e021b528546b47864e4338673b62eb7747a6f10", func := "loop.example/lightship/laws.FnCoordStill", spec := "fnCoordStill", unfollowed := true, recurses := true, named := ["loop.example/lightship/impl.coordTurns"], apart := false, laid := [("loop.example/lightship/impl.coordTurns", laid_loop_example_lightship_impl_coordTurns)] }
def FnCoordStillSaid : Prop := fnCoordStillRow.holds Tryd.pinned (OpenSpec.ofChange fnCoordStillSpec)

/-- ITS FALSE NEIGHBOUR: 'it returns false'. Refute it at one input. -/
def fnCoordStillWrong : ChangeSpec := { name := "fnCoordStill", vars := ["loop.example/lightship/impl.coordTurns"], fn := fun _ => fun
  | [d, g1] => { results := [.lit (.bool false)], args := [d], vars := [g1] }
  | _ => none }
def FnCoordStillWrongFalsely : Prop := fnCoordStillRow.holds Tryd.pinned (OpenSpec.ofChange fnCoordStillWrong)

/-- 'laws.FnExactCoordMove': WHATEVER THE INPUT: true; the input reads as it did. -/
def fnExactCoordMoveSpec : ChangeSpec := { name := "fnExactCoordMove", vars := ["loop.example/lightship/impl.coordTurns"], fn := fun _ => fun
  | [d1, d2, d3, d4, g1] => { results := [.lit (.bool true)], args := [d1, d2, d3, d4], vars := [g1] }
  | _ => none }
def fnExactCoordMoveRow : OpenClaim := { program := "ytajcjanfllpcgaadoor", sum := "2a8fd94c8b7bf04160937e7f0e021b528546b47864e4338673b62eb7747a6f10", func := "loop.example/lightship/laws.FnExactCoordMove", spec := "fnExactCoordMove", unfollowed := true, recurses := true, named := ["loop.example/lightship/impl.coordTurns"], apart := false, laid := [("loop.example/lightship/impl.coordTurns", laid_loop_example_lightship_impl_coordTurns)] }
def FnExactCoordMoveSaid : Prop := fnExactCoordMoveRow.holds Tryd.pinned (OpenSpec.ofChange fnExactCoordMoveSpec)

/-- ITS FALSE NEIGHBOUR: 'it returns false'. Refute it at one input. -/
def fnExactCoordMoveWrong : ChangeSpec := { name := "fnExactCoordMove", vars := ["loop.example/lightship/impl.coordTurns"], fn := fun _ => fun
  | [d1, d2, d3, d4, g1] => { results := [.lit (.bool false)], args := [d1, d2, d3, d4], vars := [g1] }
  | _ => none }
def FnExactCoordMoveWrongFalsely : Prop := fnExactCoordMoveRow.holds Tryd.pinned (OpenSpec.ofChange fnExactCoordMoveWrong)

/- THE SECOND FORM. 'bulk': how many values and letters a reading holds, each counted each time it is reached (what is shared counts as often as it is met; a slice's spare places count too). A statement '..UptoSaid' is the law's where the arguments, and the package variables that the reading takes, are together of bulk at most 1048576: NARROWER than '..Said'. Prove '..Said' where nothing that the law and all that it calls make is longer than what came in: it says more and counts as full. Else prove '..UptoSaid'. A law counts once. -/
mutual
def uptoBulk {H : Type} : DataW H → Nat
  | .lit (.string bytes) => bytes.length + 1
  | .lit _ => 1
  | .nil => 1
  | .ptr d => uptoBulk d + 1
  | .slice elems spare => uptoBulkAll elems + uptoBulkAll spare + 1
  | .agg parts => uptoBulkAll parts + 1
  | .iface _ d => uptoBulk d + 1
  | .map entries => uptoBulkEntries entries + 1
  | .held _ => 1
def uptoBulkAll {H : Type} : List (DataW H) → Nat
  | [] => 0
  | d :: r => uptoBulk d + uptoBulkAll r
def uptoBulkEntries {H : Type} : List (Lit × DataW H) → Nat
  | [] => 0
  | x :: r => uptoBulkEntry x + uptoBulkEntries r
def uptoBulkEntry {H : Type} : Lit × DataW H → Nat
  | (.string bytes, d) => bytes.length + uptoBulk d + 1
  | (_, d) => uptoBulk d + 1
 end
def uptoSmall : (H : Type) → List (DataW H) → Bool := fun _ ds => decide (uptoBulkAll ds ≤ 1048576)
def OpenSpec.upto (s : _root_.Go.ChangeSpec) : _root_.Go.OpenSpec := { _root_.Go.OpenSpec.ofChange s with cond := some uptoSmall }

/-- 'laws.FnCoordBox', WHERE WHAT IT READS IS OF BULK AT MOST 1048576: true; the input reads as it did. -/
def fnCoordBoxUptoRow : OpenClaim := { program := "ytajcjanfllpcgaadoor", sum := "2a8fd94c8b7bf04160937e7f0e021b528546b47864e4338673b62eb7747a6f10", func := "loop.example/lightship/laws.FnCoordBox", spec := "fnCoordBox", unfollowed := true, recurses := true, named := ["loop.example/lightship/impl.coordTurns"], apart := false, laid := [("loop.example/lightship/impl.coordTurns", laid_loop_example_lightship_impl_coordTurns)], narrowed := true }
def FnCoordBoxUptoSaid : Prop := fnCoordBoxUptoRow.holds Tryd.pinned (OpenSpec.upto fnCoordBoxSpec)

/-- 'laws.FnCoordBad', WHERE WHAT IT READS IS OF BULK AT MOST 1048576: true; the input reads as it did. -/
def fnCoordBadUptoRow : OpenClaim := { program := "ytajcjanfllpcgaadoor", sum := "2a8fd94c8b7bf04160937e7f0e021b528546b47864e4338673b62eb7747a6f10", func := "loop.example/lightship/laws.FnCoordBad", spec := "fnCoordBad", unfollowed := true, recurses := true, named := ["loop.example/lightship/impl.coordTurns"], apart := false, laid := [("loop.example/lightship/impl.coordTurns", laid_loop_example_lightship_impl_coordTurns)], narrowed := true }
def FnCoordBadUptoSaid : Prop := fnCoordBadUptoRow.holds Tryd.pinned (OpenSpec.upto fnCoordBadSpec)

/-- 'laws.FnCoordNear', WHERE WHAT IT READS IS OF BULK AT MOST 1048576: true; the input reads as it did. -/
def fnCoordNearUptoRow : OpenClaim := { program := "ytajcjanfllpcgaadoor", sum := "2a8fd94c8b7bf04160937e7f0e021b528546b47864e4338673b62eb7747a6f10", func := "loop.example/lightship/laws.FnCoordNear", spec := "fnCoordNear", unfollowed := true, recurses := true, named := ["loop.example/lightship/impl.coordTurns"], apart := false, laid := [("loop.example/lightship/impl.coordTurns", laid_loop_example_lightship_impl_coordTurns)], narrowed := true }
def FnCoordNearUptoSaid : Prop := fnCoordNearUptoRow.holds Tryd.pinned (OpenSpec.upto fnCoordNearSpec)

/-- 'laws.FnCoordTurn', WHERE WHAT IT READS IS OF BULK AT MOST 1048576: true; the input reads as it did. -/
def fnCoordTurnUptoRow : OpenClaim := { program := "ytajcjanfllpcgaadoor", sum := "2a8fd94c8b7bf04160937e7f0e021b528546b47864e4338673b62eb7747a6f10", func := "loop.example/lightship/laws.FnCoordTurn", spec := "fnCoordTurn", unfollowed := true, recurses := true, named := ["loop.example/lightship/impl.coordTurns"], apart := false, laid := [("loop.example/lightship/impl.coordTurns", laid_loop_example_lightship_impl_coordTurns)], narrowed := true }
def FnCoordTurnUptoSaid : Prop := fnCoordTurnUptoRow.holds Tryd.pinned (OpenSpec.upto fnCoordTurnSpec)

/-- 'laws.FnCoordStill', WHERE WHAT IT READS IS OF BULK AT MOST 1048576: true; the input reads as it did. -/
def fnCoordStillUptoRow : OpenClaim := { program := "ytajcjanfllpcgaadoor", sum := "2a8fd94c8b7bf04160937e7f0e021b528546b47864e4338673b62eb7747a6f10", func := "loop.example/lightship/laws.FnCoordStill", spec := "fnCoordStill", unfollowed := true, recurses := true, named := ["loop.example/lightship/impl.coordTurns"], apart := false, laid := [("loop.example/lightship/impl.coordTurns", laid_loop_example_lightship_impl_coordTurns)], narrowed := true }
def FnCoordStillUptoSaid : Prop := fnCoordStillUptoRow.holds Tryd.pinned (OpenSpec.upto fnCoordStillSpec)

/-- 'laws.FnExactCoordMove', WHERE WHAT IT READS IS OF BULK AT MOST 1048576: true; the input reads as it did. -/
def fnExactCoordMoveUptoRow : OpenClaim := { program := "ytajcjanfllpcgaadoor", sum := "2a8fd94c8b7bf04160937e7f0e021b528546b47864e4338673b62eb7747a6f10", func := "loop.example/lightship/laws.FnExactCoordMove", spec := "fnExactCoordMove", unfollowed := true, recurses := true, named := ["loop.example/lightship/impl.coordTurns"], apart := false, laid := [("loop.example/lightship/impl.coordTurns", laid_loop_example_lightship_impl_coordTurns)], narrowed := true }
def FnExactCoordMoveUptoSaid : Prop := fnExactCoordMoveUptoRow.holds Tryd.pinned (OpenSpec.upto fnExactCoordMoveSpec)

end Rows
end Go.Proofs.YtajcjanfllpcgaaDoor
