/- Marks in rows of one's own: facts, numbers. -/
import Derived.Test.YtlabilijnpkmgaaGreatDoorGatesF
import Derived.Test.YtlabilijnpkmgaaGreatDoorMw
namespace Go.Proofs.YtlabilijnpkmgaaGreatDoor
open Go.ChangeShapes Go.WideShapes Go.ChangeAt Go.RowKit
attribute [local go_sem ↓] Go.wp_at_zero Go.wp_at_succ
/-- marks from a number on -/
def mkI (k0 i : Nat) : Value := .int .i64 ((k0 : Int) + (i : Int))
theorem mkI_0 (k0 k : Nat) : mkI k0 (k) = .int .i64 ((k0 : Int) + (k : Int)) := by
  rfl
set_option maxRecDepth 20000 in
set_option maxHeartbeats 4000000 in
theorem markI_at (base g n cap : Nat) (f : Nat → Value) (k0 : Nat) (w : World) (h : w.ownsRow base 3 1 (.slice (some ⟨g, 0, none⟩) n cap) n (rv f (n * 1))) (hl : n ≤ 1048576) (hk0 : k0 ≤ 1000000000000000) :
    Calls Tryz.prog 22 #[.slice (some ⟨g, 0, none⟩) n cap, .int .i64 (k0 : Int)] w fun e w' => e = .returned (.int .i64 ((k0 + n : Nat) : Int)) ∧ w'.ownsRow base 3 1 (.slice (some ⟨g, 0, none⟩) n cap) n (rv (mkI k0) (n * 1)) ∧ w.grownBy w' (some g) := by
  go_enter Tryz.func22, Tryz.ntmps22
  go_wp2
  go_loopw [1, 5] (fun x i wr => ∃ k : Nat, k ≤ n ∧ i = .int .i64 k ∧ x = .int .i64 ((k0 + k : Nat) : Int) ∧ w.grownBy wr (some g) ∧ wr.ownsRow base 3 1 (.slice (some ⟨g, 0, none⟩) n cap) n (rv (fun i => if i < k then mkI k0 i else f i) (n * 1))) (fun _ i _ => n - (intOf i).toNat)
  case atStart => exact ⟨0, Nat.zero_le _, rfl, by simp, World.grownBy.refl _ _, by simpa using h⟩
  case round =>
    obtain ⟨k, hk, rfl, rfl, hg, hr⟩ := hrel
    by_cases hlt : k < n
    · have i0 : (0 : Int) ≤ (k : Int) := by omega
      have i1 : (k : Int) < (n : Int) := by omega
      have c0 := own_at hr (j := k) (by omega)
      (try dsimp only at c0)
      rw [if_neg (by omega)] at c0
      have f0 := hr.frozenAt (k)
      have a0 := own_put hr (k) (.int .i64 ((k0 : Int) + (k : Int)))
      have gg := grown_trans (hg) (grown_set _ _ (k) (.int .i64 ((k0 : Int) + (k : Int))))
      rw [rv_congr (g := fun i => if i < (k + 1) then mkI k0 i else f i) (fun i _ => ?cg)] at a0
      case cg =>
        (try dsimp only)
        have hq : i < k ∨ i = k ∨ k + 1 ≤ i := by omega
        rcases hq with q | q | q
        · rw [if_neg (by omega), if_pos q, if_pos (by omega)]
        · subst q
          rw [if_pos rfl, if_pos (by omega), mkI_0]
        · rw [if_neg (by omega), if_neg (by omega), if_neg (by omega)]
      clear hr hg
      go_wp2
      go_roundw
      case rel => exact ⟨k + 1, by omega, by go_num, by go_num, gg, a0⟩
      case measure => simp [intOf]; omega
    · go_wp2
      go_ret
      have e : k = n := by omega
      subst e
      refine ⟨rfl, ?_, hg⟩
      rw [rv_congr (g := mkI k0) (fun i hi => if_pos (by omega))] at hr
      exact hr
theorem markI_nil (k0 : Nat) (w : World) :
    Calls Tryz.prog 22 #[.slice none 0 0, .int .i64 (k0 : Int)] w fun e w' => e = .returned (.int .i64 (k0 : Int)) ∧ w' = w := by
  go_enter Tryz.func22, Tryz.ntmps22
  go_wp2
  refine wp_loop_rounds 1 ?_
  rw [rounds_succ]
  go_wp2
  go_ret
  exact ⟨rfl, rfl⟩
theorem markI_own (base n : Nat) (v : Value) (f : Nat → Value) (k0 : Nat) (w : World) (h : w.ownsRow base 3 1 v n (rv f (n * 1))) (hl : n ≤ 1048576) (hk0 : k0 ≤ 1000000000000000) :
    Calls Tryz.prog 22 #[v, .int .i64 (k0 : Int)] w fun e w' => e = .returned (.int .i64 ((k0 + n : Nat) : Int)) ∧ w'.ownsRow base 3 1 v n (rv (mkI k0) (n * 1)) ∧ w.grownBy w' v.ownBlock := by
  rcases own_cases h with ⟨rfl, rfl⟩ | ⟨g, c, rfl, _⟩
  · exact (markI_nil k0 w).mono (by rintro r w' ⟨rfl, rfl⟩; exact ⟨by simp, World.ownsRow_nil w' base 3 1, World.grownBy.refl _ _⟩)
  · exact markI_at base g n c f k0 w h hl hk0
set_option maxRecDepth 20000 in
set_option maxHeartbeats 4000000 in
theorem heldI_own (base n : Nat) (v : Value) (k0 : Nat) (w : World) (h : w.ownsRow base 3 1 v n (rv (mkI k0) (n * 1))) (hl : n ≤ 1048576) (hk0 : k0 ≤ 1000000000000000) :
    Calls Tryz.prog 26 #[v, .int .i64 (k0 : Int)] w fun e w' => e = .returned (.int .i64 ((k0 + n : Nat) : Int)) ∧ w' = w := by
  obtain ⟨a, cap, rfl, _⟩ := own_slice h
  go_enter Tryz.func26, Tryz.ntmps26
  go_wp2
  go_loopw [1, 5] (fun x i wr => ∃ k : Nat, k ≤ n ∧ i = .int .i64 k ∧ x = .int .i64 ((k0 + k : Nat) : Int) ∧ wr = w) (fun _ i _ => n - (intOf i).toNat)
  case atStart => exact ⟨0, Nat.zero_le _, rfl, by simp, rfl⟩
  case round =>
    obtain ⟨k, hk, rfl, rfl, rfl⟩ := hrel
    by_cases hlt : k < n
    · have i0 : (0 : Int) ≤ (k : Int) := by omega
      have i1 : (k : Int) < (n : Int) := by omega
      rcases own_cases h with ⟨_, e⟩ | ⟨g, c, e, _⟩
      · omega
      obtain ⟨rfl, rfl⟩ : a = some ⟨g, 0, none⟩ ∧ cap = c := by simpa using e
      have d0 := own_at h (j := k) (by omega)
      rw [mkI_0] at d0
      clear h e
      go_wp2
      go_roundw
      case rel => exact ⟨k + 1, by omega, by go_num, by go_num, by simp⟩
      case measure => simp [intOf]; omega
    · go_wp2
      go_ret
      have e : k = n := by omega
      subst e
      exact ⟨rfl, rfl⟩
/-- marks from a number on -/
def mkF (k0 i : Nat) : Value := if i % 4 = 3 then .bool (((k0 : Int) + (i : Int)) % 3 == 0) else .int .i64 ((k0 : Int) + (i : Int))
theorem mkF_0 (k0 k : Nat) : mkF k0 (k * 4) = .int .i64 ((k0 : Int) + (k : Int) * 4) := by
  unfold mkF
  rw [if_neg (by omega), show (k0 : Int) + ((k * 4 : Nat) : Int) = (k0 : Int) + (k : Int) * 4 by omega]
theorem mkF_1 (k0 k : Nat) : mkF k0 (k * 4 + 1) = .int .i64 ((k0 : Int) + (k : Int) * 4 + 1) := by
  unfold mkF
  rw [if_neg (by omega), show (k0 : Int) + ((k * 4 + 1 : Nat) : Int) = (k0 : Int) + (k : Int) * 4 + 1 by omega]
theorem mkF_2 (k0 k : Nat) : mkF k0 (k * 4 + 2) = .int .i64 ((k0 : Int) + (k : Int) * 4 + 1 + 1) := by
  unfold mkF
  rw [if_neg (by omega), show (k0 : Int) + ((k * 4 + 2 : Nat) : Int) = (k0 : Int) + (k : Int) * 4 + 1 + 1 by omega]
theorem mkF_3 (k0 k : Nat) : mkF k0 (k * 4 + 3) = .bool (((k0 : Int) + (k : Int) * 4 + 1 + 1 + 1) % 3 == 0) := by
  unfold mkF
  rw [if_pos (by omega), show (k0 : Int) + ((k * 4 + 3 : Nat) : Int) = (k0 : Int) + (k : Int) * 4 + 1 + 1 + 1 by omega]
set_option maxRecDepth 20000 in
set_option maxHeartbeats 4000000 in
theorem markF_at (base g n cap : Nat) (f : Nat → Value) (k0 : Nat) (w : World) (h : w.ownsRow base 45 4 (.slice (some ⟨g, 0, none⟩) n cap) n (rv f (n * 4))) (hl : n ≤ 1048576) (hk0 : k0 ≤ 1000000000000000) :
    Calls Tryz.prog 23 #[.slice (some ⟨g, 0, none⟩) n cap, .int .i64 (k0 : Int)] w fun e w' => e = .returned (.int .i64 ((k0 + n * 4 : Nat) : Int)) ∧ w'.ownsRow base 45 4 (.slice (some ⟨g, 0, none⟩) n cap) n (rv (mkF k0) (n * 4)) ∧ w.grownBy w' (some g) := by
  go_enter Tryz.func23, Tryz.ntmps23
  go_wp2
  go_loopw [1, 5] (fun x i wr => ∃ k : Nat, k ≤ n ∧ i = .int .i64 k ∧ x = .int .i64 ((k0 + k * 4 : Nat) : Int) ∧ w.grownBy wr (some g) ∧ wr.ownsRow base 45 4 (.slice (some ⟨g, 0, none⟩) n cap) n (rv (fun i => if i < k * 4 then mkF k0 i else f i) (n * 4))) (fun _ i _ => n - (intOf i).toNat)
  case atStart => exact ⟨0, Nat.zero_le _, rfl, by simp, World.grownBy.refl _ _, by simpa using h⟩
  case round =>
    obtain ⟨k, hk, rfl, rfl, hg, hr⟩ := hrel
    by_cases hlt : k < n
    · have i0 : (0 : Int) ≤ (k : Int) := by omega
      have i1 : (k : Int) < (n : Int) := by omega
      have c0 := own_at hr (j := k * 4) (by omega)
      (try dsimp only at c0)
      rw [if_neg (by omega)] at c0
      have f0 := hr.frozenAt (k * 4)
      have c1 := own_at hr (j := k * 4 + 1) (by omega)
      (try dsimp only at c1)
      rw [if_neg (by omega)] at c1
      have f1 := hr.frozenAt (k * 4 + 1)
      have c2 := own_at hr (j := k * 4 + 2) (by omega)
      (try dsimp only at c2)
      rw [if_neg (by omega)] at c2
      have f2 := hr.frozenAt (k * 4 + 2)
      have c3 := own_at hr (j := k * 4 + 3) (by omega)
      (try dsimp only at c3)
      rw [if_neg (by omega)] at c3
      have f3 := hr.frozenAt (k * 4 + 3)
      have a0 := own_put hr (k * 4) (.int .i64 ((k0 : Int) + (k : Int) * 4))
      have a1 := own_put a0 (k * 4 + 1) (.int .i64 ((k0 : Int) + (k : Int) * 4 + 1))
      have a2 := own_put a1 (k * 4 + 2) (.int .i64 ((k0 : Int) + (k : Int) * 4 + 1 + 1))
      have a3 := own_put a2 (k * 4 + 3) (.bool (((k0 : Int) + (k : Int) * 4 + 1 + 1 + 1) % 3 == 0))
      have gg := grown_trans (grown_trans (grown_trans (grown_trans (hg) (grown_set _ _ (k * 4) (.int .i64 ((k0 : Int) + (k : Int) * 4)))) (grown_set _ _ (k * 4 + 1) (.int .i64 ((k0 : Int) + (k : Int) * 4 + 1)))) (grown_set _ _ (k * 4 + 2) (.int .i64 ((k0 : Int) + (k : Int) * 4 + 1 + 1)))) (grown_set _ _ (k * 4 + 3) (.bool (((k0 : Int) + (k : Int) * 4 + 1 + 1 + 1) % 3 == 0)))
      rw [rv_congr (g := fun i => if i < (k + 1) * 4 then mkF k0 i else f i) (fun i _ => ?cg)] at a3
      case cg =>
        (try dsimp only)
        have hq : i < k * 4 ∨ i = k * 4 ∨ i = k * 4 + 1 ∨ i = k * 4 + 2 ∨ i = k * 4 + 3 ∨ k * 4 + 4 ≤ i := by omega
        rcases hq with q | q | q | q | q | q
        · rw [if_neg (by omega), if_neg (by omega), if_neg (by omega), if_neg (by omega), if_pos q, if_pos (by omega)]
        · subst q
          rw [if_neg (by omega), if_neg (by omega), if_neg (by omega), if_pos rfl, if_pos (by omega), mkF_0]
        · subst q
          rw [if_neg (by omega), if_neg (by omega), if_pos rfl, if_pos (by omega), mkF_1]
        · subst q
          rw [if_neg (by omega), if_pos rfl, if_pos (by omega), mkF_2]
        · subst q
          rw [if_pos rfl, if_pos (by omega), mkF_3]
        · rw [if_neg (by omega), if_neg (by omega), if_neg (by omega), if_neg (by omega), if_neg (by omega), if_neg (by omega)]
      clear a0 a1 a2 hr hg
      go_wp2
      go_roundw
      case rel => exact ⟨k + 1, by omega, by go_num, by go_num, gg, a3⟩
      case measure => simp [intOf]; omega
    · go_wp2
      go_ret
      have e : k = n := by omega
      subst e
      refine ⟨rfl, ?_, hg⟩
      rw [rv_congr (g := mkF k0) (fun i hi => if_pos (by omega))] at hr
      exact hr
theorem markF_nil (k0 : Nat) (w : World) :
    Calls Tryz.prog 23 #[.slice none 0 0, .int .i64 (k0 : Int)] w fun e w' => e = .returned (.int .i64 (k0 : Int)) ∧ w' = w := by
  go_enter Tryz.func23, Tryz.ntmps23
  go_wp2
  refine wp_loop_rounds 1 ?_
  rw [rounds_succ]
  go_wp2
  go_ret
  exact ⟨rfl, rfl⟩
theorem markF_own (base n : Nat) (v : Value) (f : Nat → Value) (k0 : Nat) (w : World) (h : w.ownsRow base 45 4 v n (rv f (n * 4))) (hl : n ≤ 1048576) (hk0 : k0 ≤ 1000000000000000) :
    Calls Tryz.prog 23 #[v, .int .i64 (k0 : Int)] w fun e w' => e = .returned (.int .i64 ((k0 + n * 4 : Nat) : Int)) ∧ w'.ownsRow base 45 4 v n (rv (mkF k0) (n * 4)) ∧ w.grownBy w' v.ownBlock := by
  rcases own_cases h with ⟨rfl, rfl⟩ | ⟨g, c, rfl, _⟩
  · exact (markF_nil k0 w).mono (by rintro r w' ⟨rfl, rfl⟩; exact ⟨by simp, World.ownsRow_nil w' base 45 4, World.grownBy.refl _ _⟩)
  · exact markF_at base g n c f k0 w h hl hk0
set_option maxRecDepth 20000 in
set_option maxHeartbeats 4000000 in
theorem heldF_own (base n : Nat) (v : Value) (k0 : Nat) (w : World) (h : w.ownsRow base 45 4 v n (rv (mkF k0) (n * 4))) (hl : n ≤ 1048576) (hk0 : k0 ≤ 1000000000000000) :
    Calls Tryz.prog 27 #[v, .int .i64 (k0 : Int)] w fun e w' => e = .returned (.int .i64 ((k0 + n * 4 : Nat) : Int)) ∧ w' = w := by
  obtain ⟨a, cap, rfl, _⟩ := own_slice h
  go_enter Tryz.func27, Tryz.ntmps27
  go_wp2
  go_loopw [1, 5] (fun x i wr => ∃ k : Nat, k ≤ n ∧ i = .int .i64 k ∧ x = .int .i64 ((k0 + k * 4 : Nat) : Int) ∧ wr = w) (fun _ i _ => n - (intOf i).toNat)
  case atStart => exact ⟨0, Nat.zero_le _, rfl, by simp, rfl⟩
  case round =>
    obtain ⟨k, hk, rfl, rfl, rfl⟩ := hrel
    by_cases hlt : k < n
    · have i0 : (0 : Int) ≤ (k : Int) := by omega
      have i1 : (k : Int) < (n : Int) := by omega
      rcases own_cases h with ⟨_, e⟩ | ⟨g, c, e, _⟩
      · omega
      obtain ⟨rfl, rfl⟩ : a = some ⟨g, 0, none⟩ ∧ cap = c := by simpa using e
      have d0 := own_at h (j := k * 4) (by omega)
      rw [mkF_0] at d0
      have d1 := own_at h (j := k * 4 + 1) (by omega)
      rw [mkF_1] at d1
      have d2 := own_at h (j := k * 4 + 2) (by omega)
      rw [mkF_2] at d2
      have d3 := own_at h (j := k * 4 + 3) (by omega)
      rw [mkF_3] at d3
      have e0 : (((((k0 : Int) + (k : Int) * 4 + 1 + 1 + 1) % 3 == 0) != (((k0 : Int) + (k : Int) * 4 + 1 + 1 + 1) % 3 == 0))) = false := by simp
      clear h e
      go_wp2
      go_roundw
      case rel => exact ⟨k + 1, by omega, by go_num, by go_num, by simp⟩
      case measure => simp [intOf]; omega
    · go_wp2
      go_ret
      have e : k = n := by omega
      subst e
      exact ⟨rfl, rfl⟩
end Go.Proofs.YtlabilijnpkmgaaGreatDoor
