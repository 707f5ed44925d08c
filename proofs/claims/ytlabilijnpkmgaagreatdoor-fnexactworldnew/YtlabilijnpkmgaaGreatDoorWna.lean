/- Marks in new nodes are held. -/
import Derived.Test.YtlabilijnpkmgaaGreatDoorWn9
namespace Go.Proofs.YtlabilijnpkmgaaGreatDoor
open Go.ChangeShapes Go.WideShapes Go.ChangeAt Go.RowKit
attribute [local go_sem ↓] Go.wp_at_zero Go.wp_at_succ
set_option maxRecDepth 20000 in
set_option maxHeartbeats 8000000 in
theorem heldNodeS_any (g c : Nat) (tb : Nat → Nat) (w : World) (h : ∀ i, i < 8 → Mkd w g tb i) :
    Calls Tryz.prog 24 #[.slice (some ⟨g, 0, none⟩) 8 c, .int .i64 1] w fun r w' => r = .returned (.int .i64 161) ∧ w' = w := by
  go_enter Tryz.func24, Tryz.ntmps24
  go_wp2
  go_loopw [1, 5] (fun x i wr => ∃ k : Nat, k ≤ 8 ∧ i = .int .i64 k ∧ x = .int .i64 (1 + 20 * (k : Int)) ∧ wr = w) (fun _ i _ => 8 - (intOf i).toNat)
  case atStart => exact ⟨0, Nat.zero_le _, rfl, rfl, rfl⟩
  case round =>
    obtain ⟨k, hk, rfl, rfl, rfl⟩ := hrel
    by_cases hlt : k < 8
    · have i0 : (0 : Int) ≤ (k : Int) := by omega
      have i1 : (k : Int) < (8 : Int) := by omega
      obtain ⟨q1, q2⟩ := h k hlt
      obtain ⟨K, hK⟩ : ∃ K, Hid (1 + 20 * (k : Int) = K) := ⟨_, rfl⟩
      have k0 : 0 ≤ K := by have := hK.out; omega
      have k1 : K ≤ 161 := by have := hK.out; omega
      rw [hK.out] at q1 q2 ⊢
      clear h
      have c0 : wr.cell? ⟨g, k * 21, none⟩ = some (.int .i64 (K)) := q1.c 0 _ rfl
      have c1 : wr.cell? ⟨g, k * 21 + 1, none⟩ = some (.bool (((K + 1) % 3) == 0)) := q1.c 1 _ rfl
      have c2 : wr.cell? ⟨g, k * 21 + 2, none⟩ = some (.bool (((K + 1 + 1) % 3) == 0)) := q1.c 2 _ rfl
      have c3 : wr.cell? ⟨g, k * 21 + 3, none⟩ = some (.bool (((K + 1 + 1 + 1) % 3) == 0)) := q1.c 3 _ rfl
      have c4 : wr.cell? ⟨g, k * 21 + 4, none⟩ = some (.int .i64 (K + 1 + 1 + 1 + 1)) := q1.c 4 _ rfl
      have c5 : wr.cell? ⟨g, k * 21 + 5, none⟩ = some (.int .i64 (K + 1 + 1 + 1 + 1 + 1)) := q1.c 5 _ rfl
      have c6 : wr.cell? ⟨g, k * 21 + 6, none⟩ = some (.int .i64 (K + 1 + 1 + 1 + 1 + 1 + 1)) := q1.c 6 _ rfl
      have c7 : wr.cell? ⟨g, k * 21 + 7, none⟩ = some (.int .i64 (K + 1 + 1 + 1 + 1 + 1 + 1 + 1)) := q1.c 7 _ rfl
      have c9 : wr.cell? ⟨g, k * 21 + 9, none⟩ = some (.slice none 0 0) := q1.c 9 _ rfl
      have c10 : wr.cell? ⟨g, k * 21 + 10, none⟩ = some (.int .i64 (K + 12)) := q1.c 10 _ rfl
      have c11 : wr.cell? ⟨g, k * 21 + 11, none⟩ = some (.int .i64 (K + 12 + 1)) := q1.c 11 _ rfl
      have c12 : wr.cell? ⟨g, k * 21 + 12, none⟩ = some (.int .i64 (K + 12 + 1 + 1)) := q1.c 12 _ rfl
      have c13 : wr.cell? ⟨g, k * 21 + 13, none⟩ = some (.bool (((K + 12 + 1 + 1 + 1) % 3) == 0)) := q1.c 13 _ rfl
      have c14 : wr.cell? ⟨g, k * 21 + 14, none⟩ = some (.slice none 0 0) := q1.c 14 _ rfl
      have c15 : wr.cell? ⟨g, k * 21 + 15, none⟩ = some (.int .i64 (K + 16)) := q1.c 15 _ rfl
      have c16 : wr.cell? ⟨g, k * 21 + 16, none⟩ = some (.int .i64 (K + 16 + 1)) := q1.c 16 _ rfl
      have c17 : wr.cell? ⟨g, k * 21 + 17, none⟩ = some (.int .i64 (K + 16 + 1 + 1)) := q1.c 17 _ rfl
      have c18 : wr.cell? ⟨g, k * 21 + 18, none⟩ = some (.int .i64 (K + 16 + 1 + 1 + 1)) := q1.c 18 _ rfl
      have c19 : wr.cell? ⟨g, k * 21 + 19, none⟩ = some (.slice none 0 0) := q1.c 19 _ rfl
      have c20 : wr.cell? ⟨g, k * 21 + 20, none⟩ = some (.slice none 0 0) := q1.c 20 _ rfl
      have c8 : wr.cell? ⟨g, k * 21 + 8, none⟩ = some (.slice (some ⟨tb k, 0, none⟩) 1 1) := q1.c 8 _ rfl
      have e0 : ((((K + 1) % 3) == 0) != (((K + 1) % 3) == 0)) = false := by simp
      have e1 : ((((K + 1 + 1) % 3) == 0) != (((K + 1 + 1) % 3) == 0)) = false := by simp
      have e2 : ((((K + 1 + 1 + 1) % 3) == 0) != (((K + 1 + 1 + 1) % 3) == 0)) = false := by simp
      have e3 : ((((K + 12 + 1 + 1 + 1) % 3) == 0) != (((K + 12 + 1 + 1 + 1) % 3) == 0)) = false := by simp
      clear q1
      go_wp2_with fail
      rw [show K + 1 + 1 + 1 + 1 + 1 + 1 + 1 + 1 = K + 8 by omega]
      refine (heldFact1K (tb k) (K + 8) _ q2 (by omega) (by omega)).mono ?_
      rintro r v0 ⟨rfl, hv⟩
      obtain rfl := hv.symm
      clear hv
      rw [show K + 8 + 4 = K + 12 by omega]
      go_wp2_with fail
      refine (heldItemS_nil (K + 12) _).mono ?_
      rintro r v0 ⟨rfl, hv⟩
      obtain rfl := hv.symm
      clear hv
      go_wp2_with fail
      rw [show K + 12 + 1 + 1 + 1 + 1 = K + 16 by omega]
      refine (heldDoubtS_nil (K + 16) _).mono ?_
      rintro r v0 ⟨rfl, hv⟩
      obtain rfl := hv.symm
      clear hv
      go_wp2_with fail
      rw [show K + 16 + 1 + 1 + 1 + 1 = K + 20 by omega]
      refine (heldPlaceS_nil (K + 20) _).mono ?_
      rintro r v0 ⟨rfl, hv⟩
      obtain rfl := hv.symm
      clear hv
      go_wp2_with fail
      refine (heldForeignS_nil (K + 20) _).mono ?_
      rintro r v0 ⟨rfl, hv⟩
      obtain rfl := hv.symm
      clear hv
      go_upto_region 3 with fail
      clear c0 c1 c2 c3 c4 c5 c6 c7 c8 c9 c10 c11 c12 c13 c14 c15 c16 c17 c18 c19 c20 e0 e1 e2 e3 q2
      go_step; go_step; go_big_move; go_step; go_step; go_big_op; go_step; go_step; go_big_move; go_step; go_step; go_big_open
      unfold Exit.then
      dsimp only
      go_big_round
      refine ⟨?rel, ?measure⟩
      case rel => exact ⟨k + 1, by omega, by go_num, by rw [← hK.out]; go_num, rfl⟩
      case measure => simp [intOf]; omega
    · go_wp2
      go_ret
      obtain rfl : k = 8 := by omega
      exact ⟨rfl, rfl⟩
end Go.Proofs.YtlabilijnpkmgaaGreatDoor
