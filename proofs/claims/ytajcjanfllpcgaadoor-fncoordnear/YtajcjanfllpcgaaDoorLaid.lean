/- The table coordTurns: what a row lists of it gives its eight cells; a witness; it reads on as it read. -/
import Derived.Test.YtajcjanfllpcgaaDoorExMove
import Derived.Test.YtajcjanfllpcgaaDoorRows
import Derived.WalkKit
import Derived.ProofKit
import Derived.OpenShut
import Derived.Lib.LaidTab
import Derived.WalkSmall
import Derived.Carry
import Derived.ChangeVars
import Derived.Deep.DeepHandedRow
namespace Go.Proofs.YtajcjanfllpcgaaDoor
open Go.ChangeShapes Go.WideShapes Go.ChangeAt Go.RowKit
theorem gTurns : Tryd.prog.globalNamed "loop.example/lightship/impl.coordTurns" = some 0 := by kernel_rfl
theorem tTurns : (Tryd.prog.globals[0]?).map (·.type) = some 66 := by kernel_rfl
theorem cells66 : Tryd.prog.cellsOf 66 = 8 := by kernel_rfl
theorem cells43 : Tryd.prog.cellsOf 43 = 2 := by kernel_rfl
theorem cells3 : Tryd.prog.cellsOf 3 = 1 := by kernel_rfl
section
variable {H : Type} {enc : TypeId × Value → H} {w : World} {base : Nat} {sp : Nat → Bool} {held : Bool} {n : Nat}
theorem pair {c0 c1 : Value} {x : DataW H × List MemPlace} (h : DataW.trod enc Tryd.prog w base sp held n 43 [c0, c1] = some x) :
    ∃ a b : Int, c0 = .int .i64 a ∧ c1 = .int .i64 b ∧ x = (.agg [.lit (.int .i64 a), .lit (.int .i64 b)], []) := by
  obtain ⟨y0, y1, m, rfl, _, h0, h1⟩ := trod_struct2 Tryd.underlying43 h
  obtain ⟨a, ea, ex, _⟩ := DataW.trod_int Tryd.underlying3 h0
  obtain ⟨b, eb, ey, _⟩ := DataW.trod_int Tryd.underlying3 h1
  subst ex ey
  rw [cells3] at ea eb
  simp at ea eb
  exact ⟨a, b, ea, eb, rfl⟩
theorem four {cs : List Value} {x : DataW H × List MemPlace} (h : DataW.trod enc Tryd.prog w base sp held n 66 cs = some x) :
    ∃ a b c d e f g k : Int, cs = [.int .i64 a, .int .i64 b, .int .i64 c, .int .i64 d, .int .i64 e, .int .i64 f, .int .i64 g, .int .i64 k] ∧
      x = (.agg [.agg [.lit (.int .i64 a), .lit (.int .i64 b)], .agg [.lit (.int .i64 c), .lit (.int .i64 d)], .agg [.lit (.int .i64 e), .lit (.int .i64 f)], .agg [.lit (.int .i64 g), .lit (.int .i64 k)]], []) := by
  obtain ⟨xs, m, rfl, rfl, hl, hn, hel⟩ := DataW.trod_array Tryd.underlying66 h
  rw [cells66] at hl
  rw [cells43] at hel
  match cs, hl, xs, hn, hel with
  | [c0, c1, c2, c3, c4, c5, c6, c7], _, [x0, x1, x2, x3], _, hel =>
    obtain ⟨a, b, rfl, rfl, rfl⟩ := pair (show DataW.trod enc Tryd.prog w base sp held m 43 [c0, c1] = some x0 from hel 0 (by decide))
    obtain ⟨c, d, rfl, rfl, rfl⟩ := pair (show DataW.trod enc Tryd.prog w base sp held m 43 [c2, c3] = some x1 from hel 1 (by decide))
    obtain ⟨e, f, rfl, rfl, rfl⟩ := pair (show DataW.trod enc Tryd.prog w base sp held m 43 [c4, c5] = some x2 from hel 2 (by decide))
    obtain ⟨g, k, rfl, rfl, rfl⟩ := pair (show DataW.trod enc Tryd.prog w base sp held m 43 [c6, c7] = some x3 from hel 3 (by decide))
    exact ⟨a, b, c, d, e, f, g, k, rfl, rfl⟩
theorem turns_mk : DataW.trod enc Tryd.prog w base sp held 8 66 [.int .i64 1, .int .i64 0, .int .i64 0, .int .i64 1, .int .i64 (-1), .int .i64 0, .int .i64 0, .int .i64 (-1)] = some (Rows.laid_loop_example_lightship_impl_coordTurns, []) := by
  kernel_rfl
end
/-- what the row's list gives: the variable's eight cells -/
theorem laid_var {W : World} (h : laidMetH Tryd.prog [("loop.example/lightship/impl.coordTurns", Rows.laid_loop_example_lightship_impl_coordTurns)] W) :
    W.var? Tryd.prog "loop.example/lightship/impl.coordTurns" = some #[.int .i64 1, .int .i64 0, .int .i64 0, .int .i64 1, .int .i64 (-1), .int .i64 0, .int .i64 0, .int .i64 (-1)] := by
  replace h : laidMet Tryd.prog [("loop.example/lightship/impl.coordTurns", Rows.laid_loop_example_lightship_impl_coordTurns)] W := h
  obtain ⟨ps, ⟨g0, t0, cs0, f0, p0, q0, hg0, ht0, hv0, hd0, _⟩, _⟩ := h
  obtain rfl := Option.some.inj (gTurns.symm.trans hg0)
  obtain rfl := Option.some.inj (tTurns.symm.trans ht0)
  obtain ⟨a, b, c, d, e, f, g, k, hcs, hx⟩ := four hd0
  simp [Rows.laid_loop_example_lightship_impl_coordTurns] at hx
  obtain ⟨⟨⟨rfl, rfl⟩, ⟨rfl, rfl⟩, ⟨rfl, rfl⟩, rfl, rfl⟩, -⟩ := hx
  rw [hv0]
  exact congrArg some (Array.ext' hcs)
theorem turns_of_var {W : World} (h : W.var? Tryd.prog "loop.example/lightship/impl.coordTurns" = some #[.int .i64 1, .int .i64 0, .int .i64 0, .int .i64 1, .int .i64 (-1), .int .i64 0, .int .i64 0, .int .i64 (-1)]) : Turns W :=
  ⟨World.var?_cell gTurns h 0, World.var?_cell gTurns h 1, World.var?_cell gTurns h 2, World.var?_cell gTurns h 3, World.var?_cell gTurns h 4, World.var?_cell gTurns h 5, World.var?_cell gTurns h 6, World.var?_cell gTurns h 7⟩

theorem own : ownKnob Tryd.prog.godebug = none := by kernel_rfl
theorem laidOut : laidOutB Tryd.prog = true := by kernel_rfl
theorem cells34 : Tryd.prog.cellsOf 34 = 4 := by kernel_rfl
/-- a world for the witness: the settled one, the table (block 0) holding what its initialiser lays -/
noncomputable def laidWorld (os : Os) : World :=
  { World.holding Tryd.prog os ⟨#[], #[], []⟩ with heap := (World.holding Tryd.prog os ⟨#[], #[], []⟩).heap.modify 0 fun
      | .cells _ t frozen => .cells #[.int .i64 1, .int .i64 0, .int .i64 0, .int .i64 1, .int .i64 (-1), .int .i64 0, .int .i64 0, .int .i64 (-1)] t frozen
      | o => o }
theorem laid_met (os : Os) (args : Array Value) : laidMet Tryd.prog [("loop.example/lightship/impl.coordTurns", Rows.laid_loop_example_lightship_impl_coordTurns)] ((laidWorld os).forCall (fun _ _ => 0) ⟨#[], args, []⟩).memory :=
  laidMet_of_run' 8 (by kernel_rfl) (by kernel_rfl)
/-- the variable reads on as it read -/
theorem turns_after {H : Type} {enc : TypeId × Value → H} {W W' : World} {sp sp' : Nat → Bool} {gs : List (DataW H)} {q : List MemPlace}
    (hv : W.var? Tryd.prog "loop.example/lightship/impl.coordTurns" = some #[.int .i64 1, .int .i64 0, .int .i64 0, .int .i64 1, .int .i64 (-1), .int .i64 0, .int .i64 0, .int .i64 (-1)])
    (h : DataW.TrodVars enc Tryd.prog W sp ["loop.example/lightship/impl.coordTurns"] gs q) (b : Below W.heap.size W W') :
    ∃ d, gs = [d] ∧ ∃ q', DataW.TrodVars enc Tryd.prog W' sp' ["loop.example/lightship/impl.coordTurns"] [d] q' := by
  obtain ⟨g, t, cs, fuel, d, p, rfl, hg, ht, hcs, htr, -⟩ := trodVars_one h
  obtain rfl := Option.some.inj (gTurns.symm.trans hg)
  obtain rfl := Option.some.inj (tTurns.symm.trans ht)
  obtain rfl := Option.some.inj (hv.symm.trans hcs)
  obtain ⟨_, _, _, _, _, _, _, _, e, hx⟩ := four htr
  simp only [List.cons.injEq, Value.int.injEq, true_and, and_true] at e
  obtain ⟨rfl, rfl, rfl, rfl, rfl, rfl, rfl, rfl⟩ := e
  cases hx
  exact ⟨_, rfl, _, trodVars_mk1 gTurns tTurns (var?_below b gTurns (World.block_lt_of_cell? W _ (turns_of_var hv).1) hv) turns_mk⟩
end Go.Proofs.YtajcjanfllpcgaaDoor
