/- What the program's and the model's sums, products, quotients and roots of numbers come to: the same plain functions. -/
import Derived.Test.YtkkjoglbcdhopaaRoot
import Derived.LoopTactic
import Derived.WalkKit
import Derived.ProofKit
import Derived.WalkLawsBesides
namespace Go.Proofs.Ytkkjoglbcdhopaa
open Go.ChangeShapes Go.WideShapes Go.ChangeAt Go.RowKit
theorem fclamp_any (n : Int) (w : World) :
    Calls Try.prog 17 #[.int .i64 n] w fun e w' => e = .returned (.int .i64 (M.cl n)) ∧ w' = w := by
  go_enter Try.func17, Try.ntmps17
  go_wp2_with (go_at_call 39; refine (clamp_any _ _).mono ?_; rintro e w' ⟨rfl, rfl⟩)
  go_ret
  exact ⟨rfl, rfl⟩
theorem sadd_any (a b : Int) (w : World) :
    Calls Try.prog 24 #[.int .i64 a, .int .i64 b] w fun e w' => e = .returned (.int .i64 (M.cl (M.cl a + M.cl b))) ∧ w' = w := by
  have ha := M.cl_bd a
  have hb := M.cl_bd b
  go_enter Try.func24, Try.ntmps24
  go_wp2_with (go_at_call 23; refine (sclamp_any _ _).mono ?_; rintro e w' ⟨rfl, rfl⟩)
  go_ret
  exact ⟨rfl, rfl⟩
theorem fadd_any (a b : Int) (w : World) :
    Calls Try.prog 18 #[.int .i64 a, .int .i64 b] w fun e w' => e = .returned (.int .i64 (M.cl (M.cl a + M.cl b))) ∧ w' = w := by
  have ha := M.cl_bd a
  have hb := M.cl_bd b
  go_enter Try.func18, Try.ntmps18
  go_wp2_with (first | (go_at_call 39; refine (clamp_any _ _).mono ?_; rintro e w' ⟨rfl, rfl⟩) | (go_at_call 40; go_in) | (go_at_call 41; go_in))
  go_ret
  exact ⟨rfl, rfl⟩
theorem smul_any (a b : Int) (w : World) :
    Calls Try.prog 25 #[.int .i64 a, .int .i64 b] w fun e w' => e = .returned (.int .i64 (M.cl ((M.cl a * M.cl b).tdiv 1000))) ∧ w' = w := by
  have hm := M.cl_mul_bd a b
  go_enter Try.func25, Try.ntmps25
  go_wp2_with (go_at_call 23; refine (sclamp_any _ _).mono ?_; rintro e w' ⟨rfl, rfl⟩)
  go_ret
  exact ⟨rfl, rfl⟩
theorem fmul_any (a b : Int) (w : World) :
    Calls Try.prog 19 #[.int .i64 a, .int .i64 b] w fun e w' => e = .returned (.int .i64 (M.cl ((M.cl a * M.cl b).tdiv 1000))) ∧ w' = w := by
  have hm := M.cl_mul_bd a b
  go_enter Try.func19, Try.ntmps19
  go_wp2_with (first | (go_at_call 39; refine (clamp_any _ _).mono ?_; rintro e w' ⟨rfl, rfl⟩) | (go_at_call 40; go_in) | (go_at_call 42; go_in))
  go_ret
  exact ⟨rfl, rfl⟩
theorem far_any (n : Int) (w : World) :
    Calls Try.prog 49 #[.int .i64 n] w fun e w' => e = .returned (.int .i64 (M.far n)) ∧ w' = w := by
  go_enter Try.func49, Try.ntmps49
  go_wp2
  all_goals (go_ret; exact ⟨ret_int (by unfold M.far; omega), rfl⟩)
theorem sdiv_any (a b : Int) (w : World) :
    Calls Try.prog 26 #[.int .i64 a, .int .i64 b] w fun e w' => e = .returned (.int .i64 (M.dv (M.cl a) (M.cl b))) ∧ w' = w := by
  have ha := M.cl_bd a
  have hb := M.cl_bd b
  by_cases hz : M.cl b = 0
  · rw [hz, M.dv_zero]
    have hq : (M.cl b != 0) = false := by simp [hz]
    have HZ : Hid (M.cl b = 0) := hz
    clear hz
    go_enter Try.func26, Try.ntmps26
    go_wp2_with (go_at_call 23; refine (sclamp_any _ _).mono ?_; rintro e w' ⟨rfl, rfl⟩)
    all_goals (go_ret; exact ⟨ret_int (by unfold M.far; omega), rfl⟩)
  · have ht := M.tdiv_abs (a := M.cl a * 1000) (b := M.cl b) (A := 1000000000000) (by omega) (by omega) (by omega)
    rw [M.dv_ne hz]
    have hq : (M.cl b != 0) = true := by simp [hz]
    go_enter Try.func26, Try.ntmps26
    go_wp2_with (go_at_call 23; refine (sclamp_any _ _).mono ?_; rintro e w' ⟨rfl, rfl⟩)
    go_ret
    exact ⟨rfl, rfl⟩
theorem over_any (p q : Int) (w : World) (ha : -1000000000 ≤ p ∧ p ≤ 1000000000) :
    Calls Try.prog 43 #[.int .i64 p, .int .i64 q] w fun e w' => (∃ r, e = .returned (.int .i64 r) ∧ M.cl r = M.dv p q) ∧ w' = w := by
  by_cases hz : q = 0
  · subst hz
    go_enter Try.func43, Try.ntmps43
    go_wp2_with (go_at_call 49; refine (far_any _ _).mono ?_; rintro e w' ⟨rfl, rfl⟩)
    go_ret
    exact ⟨⟨_, rfl, by rw [M.dv_zero, M.far_cl]⟩, rfl⟩
  · have ht := M.tdiv_abs (a := p * 1000) (b := q) (A := 1000000000000) (by omega) (by omega) (by omega)
    have hq : (q == 0) = false := by simp [hz]
    go_enter Try.func43, Try.ntmps43
    go_wp2
    go_ret
    exact ⟨⟨_, rfl, by rw [M.dv_ne hz]⟩, rfl⟩
theorem fdiv_any (a b : Int) (w : World) :
    Calls Try.prog 20 #[.int .i64 a, .int .i64 b] w fun e w' => e = .returned (.int .i64 (M.dv (M.cl a) (M.cl b))) ∧ w' = w := by
  have ha := M.cl_bd a
  go_enter Try.func20, Try.ntmps20
  go_wp2_with (first | (go_at_call 39; refine (clamp_any _ _).mono ?_; rintro e w' ⟨rfl, rfl⟩) | (go_at_call 40; go_in) | (go_at_call 43; refine (over_any _ _ _ ha).mono ?_; rintro e w' ⟨⟨r, rfl, HR⟩, rfl⟩; have hr : Hid (M.cl r = M.dv (M.cl a) (M.cl b)) := HR; clear HR))
  go_ret
  exact ⟨ret_int hr.out, rfl⟩
theorem rt_bd (a : Int) : 0 ≤ M.isq (M.cl a * 1000) ∧ M.isq (M.cl a * 1000) ≤ 1000000 := by
  have := M.cl_bd a
  exact ⟨M.isq_nonneg _, M.isq_bd (by omega) (by omega)⟩
theorem srt_any (a : Int) (w : World) :
    Calls Try.prog 27 #[.int .i64 a] w fun e w' => e = .returned (.int .i64 (M.isq (M.cl a * 1000))) ∧ w' = w := by
  have hb := M.cl_bd a
  by_cases h : a < 0
  · have e : M.isq (M.cl a * 1000) = 0 := by
      have : M.cl a < 0 := by unfold M.cl; omega
      exact M.isq_neg (by omega)
    rw [e]
    clear e
    go_enter Try.func27, Try.ntmps27
    go_wp2_with fail
    go_ret
    exact ⟨rfl, rfl⟩
  · have h0 : 0 ≤ M.cl a := by unfold M.cl; omega
    go_enter Try.func27, Try.ntmps27
    go_wp2_with (first | (go_at_call 23; refine (sclamp_any _ _).mono ?_; rintro e w' ⟨rfl, rfl⟩) | (go_at_call 47; refine (sroot_any _ _ (by omega) (by omega)).mono ?_; rintro e w' ⟨rfl, rfl⟩))
    go_ret
    exact ⟨rfl, rfl⟩
theorem frt_any (a : Int) (w : World) :
    Calls Try.prog 21 #[.int .i64 a] w fun e w' => e = .returned (.int .i64 (M.isq (M.cl a * 1000))) ∧ w' = w.alloc (.cells #[.int .i64 (M.cl a * 1000)] 38) := by
  have hb := M.cl_bd a
  have hfin : Hid (M.cl (min (M.isq (M.cl a * 1000)) 1000000000) = M.isq (M.cl a * 1000)) := by
    have := rt_bd a
    show M.cl (min (M.isq (M.cl a * 1000)) 1000000000) = M.isq (M.cl a * 1000)
    unfold M.cl at *
    omega
  go_enter Try.func21, Try.ntmps21
  go_wp2_with (first | (go_at_call 39; refine (clamp_any _ _).mono ?_; rintro e w' ⟨rfl, rfl⟩) | (go_at_call 44; go_in) | (go_at_call 50; refine (whole_any _ _).mono ?_; rintro e w' ⟨rfl, rfl⟩))
  go_ret
  exact ⟨ret_int hfin.out, rfl⟩
end Go.Proofs.Ytkkjoglbcdhopaa
