/- Roots and the length of a way: the program's and the model's come to the same whole root. -/
import Derived.Test.YtajcjanfllpcgaaDoorBase
import Derived.LoopTactic
import Derived.WalkKit
import Derived.ProofKit
import Derived.WalkLawsBesides
namespace Go.Proofs.YtajcjanfllpcgaaDoor
open Go.ChangeShapes Go.WideShapes Go.ChangeAt Go.RowKit
theorem fits_any (r f : Int) (ad : Addr) (w : World) (hc : w.cell? ad = some (.int .i64 f)) (h0 : 0 ≤ r) (h1 : r ≤ 1000000000) :
    Calls Tryd.prog 52 #[.int .i64 r, .pointer (some ad)] w fun e w' => e = .returned (.bool (decide (r * r ≤ f))) ∧ w' = w := by
  have hb : 0 ≤ r * r ∧ r * r ≤ 1000000000000000000 := ⟨M.sq_nonneg r, by have := M.sq_le h0 h1; omega⟩
  go_enter Tryd.func52, Tryd.ntmps52
  go_wp2
  go_ret
  exact ⟨rfl, rfl⟩
theorem root_end {f l m B : Int} (h0 : 0 ≤ l) (h2 : l = 0 ∨ l * l ≤ f) (h3 : m = B ∨ f < (m + 1) * (m + 1)) (h : m ≤ l) (hlm : l ≤ m) (hB : m ≤ B) : l = min (M.isq f) B := by
  have e : l = m := by omega
  subst e
  rcases h3 with h3 | h3
  · rcases h2 with h2 | h2
    · have := M.isq_nonneg f; omega
    · have := M.le_isq h2 h0; omega
  · rcases h2 with h2 | h2
    · subst h2
      have := M.isq_bd (b := 0) (by omega) h3
      have := M.isq_nonneg f
      omega
    · have := M.isq_eq h0 h2 h3; omega
theorem up_rel {f l m B mid : Int} (h0 : 0 ≤ l) (hm : m ≤ B) (h4 : m = B ∨ f < (m + 1) * (m + 1)) (hm1 : l < mid) (hm2 : mid ≤ m) (hf : mid * mid ≤ f) :
    0 ≤ mid ∧ mid ≤ m ∧ m ≤ B ∧ (mid = 0 ∨ mid * mid ≤ f) ∧ (m = B ∨ f < (m + 1) * (m + 1)) :=
  ⟨by omega, by omega, hm, .inr hf, h4⟩
theorem down_rel {f l m B mid : Int} (h0 : 0 ≤ l) (hm : m ≤ B) (h3 : l = 0 ∨ l * l ≤ f) (hm1 : l < mid) (hm2 : mid ≤ m) (hf : f < mid * mid) :
    0 ≤ l ∧ l ≤ mid - 1 ∧ mid - 1 ≤ B ∧ (l = 0 ∨ l * l ≤ f) ∧ (mid - 1 = B ∨ f < (mid - 1 + 1) * (mid - 1 + 1)) :=
  ⟨h0, by omega, by omega, h3, .inr (by rw [show mid - 1 + 1 = mid from by omega]; exact hf)⟩
theorem greatest_any (f : Int) (ad : Addr) (w : World) (hc : w.cell? ad = some (.int .i64 f)) :
    Calls Tryd.prog 51 #[.func (.func 52) #[] #[.pointer (some ad)]] w fun e w' => e = .returned (.int .i64 (min (M.isq f) 1000000000)) ∧ w' = w := by
  go_enter Tryd.func51, Tryd.ntmps51
  go_wp2
  go_loop [3, 4] (fun a b => ∃ l m : Int, a = .int .i64 l ∧ b = .int .i64 m ∧ 0 ≤ l ∧ l ≤ m ∧ m ≤ 1000000000 ∧ (l = 0 ∨ l * l ≤ f) ∧ (m = 1000000000 ∨ f < (m + 1) * (m + 1))) (fun a b => (intOf b - intOf a).toNat)
  case atStart => exact ⟨0, 1000000000, rfl, rfl, by omega, by omega, by omega, .inl rfl, .inl rfl⟩
  case round =>
    obtain ⟨l, m, rfl, rfl, h0, h1, h2, h3, h4⟩ := hrel
    have H3 : Hid (l = 0 ∨ l * l ≤ f) := h3
    have H4 : Hid (m = 1000000000 ∨ f < (m + 1) * (m + 1)) := h4
    clear h3 h4
    by_cases hlt : l < m
    · go_wp2_with (go_at_call 52; refine (fits_any _ _ _ _ hc (by omega) (by omega)).mono ?_; rintro e w' ⟨rfl, rfl⟩)
      · go_round
        case rel => exact ⟨_, _, rfl, rfl, up_rel h0 h2 H4.out (by omega) (by omega) (by assumption)⟩
        case measure => simp [intOf]; omega
      · go_round
        case rel => exact ⟨_, _, rfl, rfl, down_rel h0 h2 H3.out (by omega) (by omega) (by assumption)⟩
        case measure => simp [intOf]; omega
    · go_wp2
      go_ret
      exact ⟨ret_int (root_end h0 H3.out H4.out hlt h1 h2), rfl⟩
theorem whole_any (f : Int) (w : World) :
    Calls Tryd.prog 50 #[.int .i64 f] w fun e w' => e = .returned (.int .i64 (min (M.isq f) 1000000000)) ∧ w' = w.alloc (.cells #[.int .i64 f] 70) := by
  have hmf : ∀ (fn : Fn) (first cap : Array Value) (w : World), (Instr.makeFunc fn first cap).run Tryd.prog w = .ok (.func fn first cap) w := fun _ _ _ _ => rfl
  go_enter Tryd.func50, Tryd.ntmps50
  go_wp2_with fail
  refine (greatest_any f _ _ ?_).mono ?_
  · simp
  rintro e w' ⟨rfl, rfl⟩
  go_wp2
  go_ret
  exact ⟨rfl, rfl⟩
theorem sroot_any (n : Int) (w : World) (h0 : 0 ≤ n) (h9 : n ≤ 2000000000000000000) :
    Calls Tryd.prog 43 #[.int .i64 n] w fun e w' => e = .returned (.int .i64 (M.isq n)) ∧ w' = w := by
  have hfin : Hid (min (M.isq n) 1500000000 = M.isq n) := by
    have := M.isq_bd (n := n) (b := 1500000000) (by omega) (by omega)
    show min (M.isq n) 1500000000 = M.isq n
    omega
  go_enter Tryd.func43, Tryd.ntmps43
  go_wp2
  go_loop [3, 4] (fun a b => ∃ l m : Int, a = .int .i64 l ∧ b = .int .i64 m ∧ 0 ≤ l ∧ l ≤ m ∧ m ≤ 1500000000 ∧ (l = 0 ∨ l * l ≤ n) ∧ (m = 1500000000 ∨ n < (m + 1) * (m + 1))) (fun a b => (intOf b - intOf a).toNat)
  case atStart => exact ⟨0, 1500000000, rfl, rfl, by omega, by omega, by omega, .inl rfl, .inl rfl⟩
  case round =>
    obtain ⟨l, m, rfl, rfl, h0', h1, h2, h3, h4⟩ := hrel
    have H3 : Hid (l = 0 ∨ l * l ≤ n) := h3
    have H4 : Hid (m = 1500000000 ∨ n < (m + 1) * (m + 1)) := h4
    clear h3 h4
    by_cases hlt : l < m
    · have hm1 : 1 ≤ (l + m + 1) / 2 := by omega
      go_wp2
      · go_round
        case rel => exact ⟨_, _, rfl, rfl, up_rel h0' h2 H4.out (by omega) (by omega) ((Int.le_ediv_iff_mul_le (by omega)).1 (by assumption))⟩
        case measure => simp [intOf]; omega
      · go_round
        case rel => exact ⟨_, _, rfl, rfl, down_rel h0' h2 H3.out (by omega) (by omega) ((Int.ediv_lt_iff_lt_mul (by omega)).1 (by assumption))⟩
        case measure => simp [intOf]; omega
    · go_wp2
      go_ret
      exact ⟨ret_int ((root_end h0' H3.out H4.out hlt h1 h2).trans hfin.out), rfl⟩
theorem nm_bd (a b : Int) : 0 ≤ M.cl a * M.cl a + M.cl b * M.cl b ∧ M.cl a * M.cl a + M.cl b * M.cl b ≤ 2000000000000000000 := by
  have h1 := M.cl_mul_bd a a
  have h2 := M.cl_mul_bd b b
  have h3 := M.sq_nonneg (M.cl a)
  have h4 := M.sq_nonneg (M.cl b)
  omega
theorem snm_any (a b : Int) (w : World) :
    Calls Tryd.prog 34 #[.int .i64 a, .int .i64 b] w fun e w' => e = .returned (.int .i64 (M.cl (M.isq (M.cl a * M.cl a + M.cl b * M.cl b)))) ∧ w' = w := by
  have h1 := M.cl_mul_bd a a
  have h2 := M.cl_mul_bd b b
  have h3 := nm_bd a b
  go_enter Tryd.func34, Tryd.ntmps34
  go_wp2_with (first | (go_at_call 42; refine (sclamp_any _ _).mono ?_; rintro e w' ⟨rfl, rfl⟩) | (go_at_call 43; refine (sroot_any _ _ h3.1 h3.2).mono ?_; rintro e w' ⟨rfl, rfl⟩))
  go_ret
  exact ⟨rfl, rfl⟩
theorem fnm_any (a b : Int) (w : World) :
    Calls Tryd.prog 45 #[.int .i64 a, .int .i64 b] w fun e w' => e = .returned (.int .i64 (M.cl (M.isq (M.cl a * M.cl a + M.cl b * M.cl b)))) ∧ w' = w.alloc (.cells #[.int .i64 (M.cl a * M.cl a + M.cl b * M.cl b)] 70) := by
  have h1 := M.cl_mul_bd a a
  have h2 := M.cl_mul_bd b b
  have h3 := nm_bd a b
  have hfin : Hid (M.cl (min (M.isq (M.cl a * M.cl a + M.cl b * M.cl b)) 1000000000) = M.cl (M.isq (M.cl a * M.cl a + M.cl b * M.cl b))) := M.cl_isq_min _
  go_enter Tryd.func45, Tryd.ntmps45
  go_wp2_with (first | (go_at_call 49; refine (clamp_any _ _).mono ?_; rintro e w' ⟨rfl, rfl⟩) | (go_at_call 47; go_in) | (go_at_call 48; go_in) | (go_at_call 50; refine (whole_any _ _).mono ?_; rintro e w' ⟨rfl, rfl⟩))
  go_ret
  exact ⟨ret_int hfin.out, rfl⟩
end Go.Proofs.YtajcjanfllpcgaaDoor
