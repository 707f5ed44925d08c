/- Arguments of the exact laws, measured and copied. -/
import Derived.Test.YtibnojbhoepcdaaDoorSite
import Derived.Test.YtibnojbhoepcdaaDoorExTable
namespace Go.Proofs.YtibnojbhoepcdaaDoor
open Go.ChangeShapes Go.WideShapes Go.ChangeAt Go.RowKit
attribute [local go_sem ↓] Go.wp_at_zero Go.wp_at_succ
theorem toFact_any (n i s : Int) (g : Bool) (w : World) :
    Calls Tryd.prog 35 #[.agg #[.int .i64 n, .int .i64 i, .int .i64 s, .bool g]] w fun r w' => r = .returned (.agg #[.int .i64 n, .int .i64 i, .int .i64 s, .bool g]) ∧ ∃ o1 o2 o3, w' = ((w.alloc o1).alloc o2).alloc o3 := by
  go_enter Tryd.func35, Tryd.ntmps35
  go_wp2
  exact bodyPost_ret (v := .agg #[.int .i64 n, .int .i64 i, .int .i64 s, .bool g]) (by simp [results, Tryd.results35, go_sem]) rfl ⟨rfl, _, _, _, rfl⟩
theorem szFactS_any (a : Option Addr) (len cap : Nat) (left : Int) (w : World) (h0 : 0 ≤ left) (h1 : left ≤ 1048576) (hl : len ≤ maxLen) :
    Calls Tryd.prog 9 #[.slice a len cap, .int .i64 left] w fun e w' => e = .returned (.int .i64 (if left < (len : Int) then -1 else left - len)) ∧ w' = w := by
  unfold maxLen at hl
  go_enter Tryd.func9, Tryd.ntmps9
  go_wp2
  all_goals (go_ret; exact ⟨ret_int (by first | rfl | (split <;> omega)), rfl⟩)
theorem toFact_below (n i s : Int) (g : Bool) (w : World) :
    Calls Tryd.prog 35 #[.agg #[.int .i64 n, .int .i64 i, .int .i64 s, .bool g]] w fun r w' => r = .returned (.agg #[.int .i64 n, .int .i64 i, .int .i64 s, .bool g]) ∧ Below w.heap.size w w' :=
  (toFact_any n i s g w).mono (by rintro r w' ⟨rfl, o1, o2, o3, rfl⟩; exact ⟨rfl, balloc _ (balloc _ (balloc _ (Below.refl _ _)))⟩)
set_option maxHeartbeats 400000 in
theorem toFactS_any (a : Option Addr) (len cap : Nat) (F : Nat → Fc) (w : World) (h : FSl w a len F) (hl : len ≤ 1048576) (hc : len ≤ cap) :
    Calls Tryd.prog 15 #[.slice a len cap] w fun e w' => ∃ b, e = .returned (.slice (some ⟨b, 0, none⟩) len len) ∧ FSl w' (some ⟨b, 0, none⟩) len F ∧ b < w'.heap.size ∧ w.heap.size ≤ b ∧ Below w.heap.size w w' := by
  have hmk := run_make_facts len hl
  go_enter Tryd.func15, Tryd.ntmps15
  go_wp2
  go_loopw [4] (fun i wr => ∃ k : Nat, k ≤ len ∧ i = .int .i64 k ∧ Below w.heap.size w wr ∧ wr.rowIs w.heap.size 53 (len * 4) (fv fun j => if j < k then F j else Fc.zero)) (fun i _ => len - (intOf i).toNat)
  case atStart => exact ⟨0, Nat.zero_le _, rfl, balloc _ (Below.refl _ _), by simpa using row_made len w⟩
  case round =>
    obtain ⟨k, hk, rfl, hb, hr⟩ := hrel
    clear hmk
    by_cases hlt : k < len
    · obtain ⟨b, off, rfl, hbl, hf⟩ := h (by omega)
      obtain ⟨c0, c1, c2, c3⟩ := (hf.below hb hbl) k hlt
      go_wp2_with fail
      refine (toFact_below _ _ _ _ _).mono ?_
      rintro e w1 ⟨rfl, b1⟩
      have hr1 := row_below hr b1
      have hb1 := btrans hb b1
      have d0 := hr1.cell (i := k * 4) (by omega)
      have d1 := hr1.cell (i := k * 4 + 1) (by omega)
      have d2 := hr1.cell (i := k * 4 + 2) (by omega)
      have d3 := hr1.cell (i := k * 4 + 3) (by omega)
      have f0 := hr1.frozen (k * 4)
      have f1 := hr1.frozen (k * 4 + 1)
      have f2 := hr1.frozen (k * 4 + 2)
      have f3 := hr1.frozen (k * 4 + 3)
      clear hr b1 c0 c1 c2 c3 hb
      go_wp2
      go_roundw
      case rel =>
        refine ⟨k + 1, by omega, by go_num, below_set4 _ _ _ _ hb1 (Nat.le_refl _), (row_put hr1 (F k)).congr fun j _ => ?_⟩
        congr 1
        funext j
        by_cases e : j = k
        · subst e; simp
        · have : j < k + 1 ↔ j < k := by omega
          simp [e, this]
      case measure => simp [intOf]; omega
    · go_wp2
      go_ret
      have e : k = len := by omega
      subst e
      refine ⟨w.heap.size, rfl, fun _ => ⟨_, _, rfl, hr.lt, fun j hj => ?_⟩, hr.lt, Nat.le_refl _, hb⟩
      have := row_in hr j hj
      simpa [hj] using this
theorem szFactS_over (a : Option Addr) (len cap : Nat) (w : World) (h1 : 1048576 < len) (hl : len ≤ maxLen) :
    Calls Tryd.prog 9 #[.slice a len cap, .int .i64 1048576] w fun e w' => e = .returned (.int .i64 (-1)) ∧ w' = w :=
  (szFactS_any a len cap 1048576 w (by omega) (by omega) hl).mono (by rintro e w' ⟨rfl, rfl⟩; rw [if_pos (by omega)]; exact ⟨rfl, rfl⟩)
theorem szFactS_in (a : Option Addr) (len cap : Nat) (w : World) (h1 : len ≤ 1048576) :
    Calls Tryd.prog 9 #[.slice a len cap, .int .i64 1048576] w fun e w' => ∃ n : Nat, e = .returned (.int .i64 (n : Int)) ∧ w' = w :=
  (szFactS_any a len cap 1048576 w (by omega) (by omega) (by unfold maxLen; omega)).mono (by rintro e w' ⟨rfl, rfl⟩; rw [if_neg (by omega)]; exact ⟨1048576 - len, ret_int (by omega), rfl⟩)
theorem toCoord_any (x y h e : Int) (w : World) :
    Calls Tryd.prog 14 #[.agg #[.int .i64 x, .int .i64 y, .int .i64 h, .int .i64 e]] w fun r w' => r = .returned (.agg #[.int .i64 x, .int .i64 y, .int .i64 h, .int .i64 e]) ∧ ∃ o1 o2 o3, w' = ((w.alloc o1).alloc o2).alloc o3 := by
  go_enter Tryd.func14, Tryd.ntmps14
  go_wp2
  exact bodyPost_ret (v := .agg #[.int .i64 x, .int .i64 y, .int .i64 h, .int .i64 e]) (by simp [results, Tryd.results14, go_sem]) rfl ⟨rfl, _, _, _, rfl⟩
end Go.Proofs.YtibnojbhoepcdaaDoor
