/- Of the program's move and the model's: where it comes to, and that it is ok just if it was. -/
import Derived.Test.YtajcjanfllpcgaaDoorDrawMove
import Derived.Test.YtajcjanfllpcgaaDoorExMove
namespace Go.Proofs.YtajcjanfllpcgaaDoor
open Go.ChangeShapes Go.WideShapes Go.ChangeAt Go.RowKit
attribute [local go_sem ↓] Go.wp_at_zero Go.wp_at_succ
theorem inb_box (n lo hi : Int) (h : lo ≤ hi) : inb (M.box n lo hi) lo hi = true := by
  have := M.box_bd (n := n) h
  unfold inb
  simp [this.1, this.2]
theorem cok_moved (ax ay ah ae bx b_y bh be trip turn : Int) : cok (mX ax ay ah ae bx b_y bh be trip turn) (mY ax ay ah ae bx b_y bh be trip turn) (mH ax ay ah ae bx b_y bh be trip) (mE ax ay ah ae bx b_y bh be trip) = true := by
  unfold cok mX mY mH mE
  rw [inb_box _ _ _ (by omega), inb_box _ _ _ (by omega), inb_box _ _ _ (by omega), inb_box _ _ _ (by omega)]
  rfl
theorem moves2 (ax ay ah ae bx b_y bh be trip turn : Int) : ∃ X Y H E : Int, SMove ax ay ah ae bx b_y bh be trip turn X Y H E ∧ FMove ax ay ah ae bx b_y bh be trip turn X Y H E ∧ cok X Y H E = cok ax ay ah ae := by
  by_cases ka : cok ax ay ah ae = true
  · by_cases kb : (cok bx b_y bh be && inb trip 1 60000) = true
    · have k2 : cok bx b_y bh be = true ∧ inb trip 1 60000 = true := by simpa using kb
      exact ⟨_, _, _, _, fun w => smove_yes _ _ _ _ _ _ _ _ _ _ w ka k2.1 k2.2, fun w ht => fmove_yes _ _ _ _ _ _ _ _ _ _ w ht ka k2.1 k2.2, by rw [ka]; exact cok_moved _ _ _ _ _ _ _ _ _ _⟩
    · have k2 : (cok bx b_y bh be && inb trip 1 60000) = false := by simpa using kb
      exact ⟨ax, ay, ah, ae, fun w => smove_stay _ _ _ _ _ _ _ _ _ _ w ka k2, fun w _ => fmove_stay _ _ _ _ _ _ _ _ _ _ w ka k2, rfl⟩
  · have k2 : cok ax ay ah ae = false := by simpa using ka
    exact ⟨0, 0, 0, 0, fun w => smove_bad _ _ _ _ _ _ _ _ _ _ w k2, fun w _ => fmove_bad _ _ _ _ _ _ _ _ _ _ w k2, by rw [k2]; rfl⟩
theorem fok_lit (x y h e : Int) (b : Bool) (hb : cok x y h e = b) (w : World) :
    Calls Tryd.prog 12 #[.agg #[.int .i64 x, .int .i64 y, .int .i64 h, .int .i64 e]] w fun r w' => r = .returned (.bool b) ∧ Below w.heap.size w w' := hb ▸ fok_any x y h e w
theorem sok_lit (x y h e : Int) (b : Bool) (hb : cok x y h e = b) (w : World) :
    Calls Tryd.prog 13 #[.agg #[.int .i64 x, .int .i64 y, .int .i64 h, .int .i64 e]] w fun r w' => r = .returned (.bool b) ∧ Below w.heap.size w w' := hb ▸ sok_any x y h e w
theorem new_below (w : World) : Calls Tryd.prog 14 #[] w fun r w' => r = .returned (.agg #[.int .i64 0, .int .i64 0, .int .i64 0, .int .i64 1500]) ∧ Below w.heap.size w w' :=
  (new_any w).mono (by rintro r w' ⟨rfl, o, rfl⟩; exact ⟨rfl, balloc _ (Below.refl _ _)⟩)
end Go.Proofs.YtajcjanfllpcgaaDoor
