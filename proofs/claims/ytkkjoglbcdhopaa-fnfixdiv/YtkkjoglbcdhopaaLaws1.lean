/- The laws on sums, products and quotients, walked: each answers true at every code. -/
import Derived.Test.YtkkjoglbcdhopaaProg
import Derived.LoopTactic
import Derived.Test.YtkkjoglbcdhopaaDrawFix
import Derived.WalkKit
import Derived.ProofKit
import Derived.WalkLawsBesides
namespace Go.Proofs.Ytkkjoglbcdhopaa
open Go.ChangeShapes Go.WideShapes Go.ChangeAt Go.RowKit
theorem tdiv_mul_self (a : Int) : (a * 1000).tdiv 1000 = a := Int.mul_tdiv_cancel a (by decide)
theorem bne_of {a b : Int} (h : a = b) : (a != b) = false := by simp [h]
theorem beq_of {a b : Int} (h : a = b) : (a == b) = true := by simp [h]
theorem mul_one (a : Int) : M.cl ((M.cl a * M.cl 1000).tdiv 1000) = M.cl a := by
  rw [M.cl_id (n := 1000) (by omega) (by omega), tdiv_mul_self, M.cl_cl]
theorem mul_zero (a : Int) : M.cl ((M.cl a * M.cl 0).tdiv 1000) = 0 := by
  rw [M.cl_id (n := 0) (by omega) (by omega), Int.mul_zero]; rfl
theorem mul_neg (a b : Int) : M.cl ((M.cl a * M.cl (-M.cl b)).tdiv 1000) = -M.cl ((M.cl a * M.cl b).tdiv 1000) := by
  rw [M.cl_neg, M.cl_cl, Int.mul_neg, Int.neg_tdiv, M.cl_neg]
theorem mul_sign (x y : Int) (hz : ¬ M.cl ((M.cl x * M.cl y).tdiv 1000) = 0) : 0 < M.cl ((M.cl x * M.cl y).tdiv 1000) ↔ (0 < x ↔ 0 < y) := by
  have sgn : ∀ t : Int, (0 < M.cl t ↔ 0 < t) ∧ (M.cl t < 0 ↔ t < 0) := by intro t; unfold M.cl; omega
  have hx := sgn x
  have hy := sgn y
  have ht := sgn ((M.cl x * M.cl y).tdiv 1000)
  generalize M.cl x = p at *
  generalize M.cl y = q at *
  have hpz : ¬ p = 0 := by rintro rfl; simp [M.cl] at hz
  have hqz : ¬ q = 0 := by rintro rfl; simp [M.cl] at hz
  by_cases hp : 0 < p
  · by_cases hq : 0 < q
    · have := M.tdiv_pos (a := p * q) (b := 1000) (by omega) (Int.mul_nonneg (by omega) (by omega))
      omega
    · have h1 := Int.mul_nonneg (a := p) (b := -q) (by omega) (by omega)
      rw [Int.mul_neg] at h1
      have := M.tdiv_neg (a := p * q) (b := 1000) (by omega) (by omega)
      omega
  · by_cases hq : 0 < q
    · have h1 := Int.mul_nonneg (a := -p) (b := q) (by omega) (by omega)
      rw [Int.neg_mul] at h1
      have := M.tdiv_neg (a := p * q) (b := 1000) (by omega) (by omega)
      omega
    · have h1 := Int.mul_nonneg (a := -p) (b := -q) (by omega) (by omega)
      rw [Int.neg_mul_neg] at h1
      have := M.tdiv_pos (a := p * q) (b := 1000) (by omega) h1
      omega
theorem fixAdd_walk (a : Option Addr) (len cap : Nat) (w : World) (h : Bytes w.heap.size w a len) (hl : len ≤ cap) :
    Calls Try.prog 4 #[.slice a len cap] w fun e w' => e = .returned (.bool true) ∧ Below w.heap.size w w' := by
  by_cases hlen : 1048576 < len
  · go_enter Try.func4, Try.ntmps4
    go_wp2_with fail
    go_ret
    exact ⟨rfl, Below.refl _ _⟩
  · go_enter Try.func4, Try.ntmps4
    go_wp2_with fail
    refine (draw2_any a len cap _ w (Nat.le_refl _) h hl).mono ?_
    rintro e w1 ⟨x, y, rfl, b1⟩
    have q1 := M.cl_bd x
    have q2 := M.cl_bd y
    have f1 : (M.cl (M.cl x + M.cl y) == M.cl (M.cl y + M.cl x)) = true := by rw [Int.add_comm]; simp
    have f2 : (M.cl (M.cl x + M.cl 0) == M.cl x) = true := by simp [M.cl]; omega
    have f3 : (M.cl (M.cl (M.cl x) + M.cl (-M.cl x)) == 0) = true := by simp [M.cl]; omega
    have f4 : (M.cl (M.cl 1 + M.cl 2) == 3) = true := by simp [M.cl]
    go_wp2_with (first | (go_at_call 18; refine (fadd_any _ _ _).mono ?_; rintro e w' ⟨rfl, rfl⟩) | (go_at_call 24; refine (sadd_any _ _ _).mono ?_; rintro e w' ⟨rfl, rfl⟩) | (go_at_call 17; refine (fclamp_any _ _).mono ?_; rintro e w' ⟨rfl, rfl⟩))
    go_ret
    exact ⟨rfl, b1⟩
theorem sign_bool {t x y : Int} (h : ¬ t = 0 → (0 < t ↔ (0 < x ↔ 0 < y))) (hz : ¬ t = 0) : decide (0 < t) = (decide (0 < x) == decide (0 < y)) := by
  have := h hz
  by_cases hx : 0 < x <;> by_cases hy : 0 < y <;> simp_all <;> omega
theorem fixMul_walk (a : Option Addr) (len cap : Nat) (w : World) (h : Bytes w.heap.size w a len) (hl : len ≤ cap) :
    Calls Try.prog 5 #[.slice a len cap] w fun e w' => e = .returned (.bool true) ∧ Below w.heap.size w w' := by
  by_cases hlen : 1048576 < len
  · go_enter Try.func5, Try.ntmps5
    go_wp2_with fail
    go_ret
    exact ⟨rfl, Below.refl _ _⟩
  · go_enter Try.func5, Try.ntmps5
    go_wp2_with fail
    refine (draw2m_any a len cap _ w (Nat.le_refl _) h hl).mono ?_
    rintro e w1 ⟨x, y, rfl, b1⟩
    have q1 := M.cl_bd x
    have q2 := M.cl_bd y
    have q3 := M.cl_bd ((M.cl x * M.cl y).tdiv 1000)
    have f0 : (M.cl ((M.cl x * M.cl y).tdiv 1000) != M.cl ((M.cl y * M.cl x).tdiv 1000)) = false := bne_of (by rw [Int.mul_comm])
    have f1 : (M.cl ((M.cl x * M.cl 1000).tdiv 1000) != M.cl x) = false := bne_of (mul_one x)
    have f2 : (M.cl ((M.cl x * M.cl 0).tdiv 1000) != 0) = false := bne_of (mul_zero x)
    have f3 : (M.cl ((M.cl x * M.cl (-M.cl y)).tdiv 1000) == -M.cl ((M.cl x * M.cl y).tdiv 1000)) = true := beq_of (mul_neg x y)
    have f4 : (M.cl ((M.cl 2000 * M.cl 3000).tdiv 1000) == 6000) = true := by decide +kernel
    have f5 := mul_sign x y
    have F5 : Hid (¬ M.cl ((M.cl x * M.cl y).tdiv 1000) = 0 → (0 < M.cl ((M.cl x * M.cl y).tdiv 1000) ↔ (0 < x ↔ 0 < y))) := f5
    clear f5
    go_wp2_with (first | (go_at_call 19; refine (fmul_any _ _ _).mono ?_; rintro e w' ⟨rfl, rfl⟩) | (go_at_call 25; refine (smul_any _ _ _).mono ?_; rintro e w' ⟨rfl, rfl⟩) | (go_at_call 17; refine (fclamp_any _ _).mono ?_; rintro e w' ⟨rfl, rfl⟩))
    · go_ret
      exact ⟨rfl, b1⟩
    · go_ret
      exact ⟨rfl, b1⟩
    · exact absurd (sign_bool F5.out (by assumption)) (by assumption)
theorem abs_any (n : Int) (w : World) (h1 : -4000000000000000000 ≤ n) :
    Calls Try.prog 33 #[.int .i64 n] w fun e w' => e = .returned (.int .i64 (M.ab n)) ∧ w' = w := by
  go_enter Try.func33, Try.ntmps33
  go_wp2
  all_goals (go_ret; exact ⟨ret_int (by unfold M.ab; omega), rfl⟩)
theorem dv_one (x : Int) : M.dv (M.cl x) (M.cl 1000) = M.cl x := by
  rw [M.cl_id (n := 1000) (by omega) (by omega), M.dv_ne (by omega), tdiv_mul_self, M.cl_cl]
theorem dv_bd (p q : Int) : -1000000000 ≤ M.dv p q ∧ M.dv p q ≤ 1000000000 := by
  unfold M.dv; split
  · unfold M.far; omega
  · exact M.cl_bd _
theorem dv_six : M.dv (M.cl 6000) (M.cl 2000) = 3000 := by decide +kernel
theorem fixDiv_walk (a : Option Addr) (len cap : Nat) (w : World) (h : Bytes w.heap.size w a len) (hl : len ≤ cap) :
    Calls Try.prog 6 #[.slice a len cap] w fun e w' => e = .returned (.bool true) ∧ Below w.heap.size w w' := by
  by_cases hlen : 1048576 < len
  · go_enter Try.func6, Try.ntmps6
    go_wp2_with fail
    go_ret
    exact ⟨rfl, Below.refl _ _⟩
  · go_enter Try.func6, Try.ntmps6
    go_wp2_with fail
    refine (draw2d_any a len cap _ w (Nat.le_refl _) h hl).mono ?_
    rintro e w1 ⟨x, y, rfl, b1⟩
    have q1 := M.cl_bd x
    have q2 := M.cl_bd y
    have q3 := dv_bd (M.cl x) (M.cl y)
    have q4 := M.mul_bd q3.1 q3.2 q2.1 q2.2
    have f1 : (M.dv (M.cl x) (M.cl 1000) != M.cl x) = false := bne_of (dv_one x)
    have f2 : (M.dv (M.cl 6000) (M.cl 2000) != 3000) = false := bne_of dv_six
    by_cases hq : M.cl y = 0
    · have g1 : (M.cl y == 0) = true := by simp [hq]
      have g2 : (M.cl y != 0) = false := by simp [hq]
      have G : Hid (M.dv (M.cl x) (M.cl y) = M.far (M.cl x)) := by show M.dv (M.cl x) (M.cl y) = _; rw [hq, M.dv_zero]
      clear hq
      rcases Int.lt_trichotomy (M.cl x) 0 with hx | hx | hx
      · have g3 : (M.cl x == 0) = false := by simp; omega
        have g4 : (M.dv (M.cl x) (M.cl y) == 1000000000) = false := by rw [G.out]; unfold M.far; simp; omega
        have g5 : (M.dv (M.cl x) (M.cl y) == -1000000000) = true := by rw [G.out]; unfold M.far; simp; omega
        go_wp2_with (first | (go_at_call 20; refine (fdiv_any _ _ _).mono ?_; rintro e w' ⟨rfl, rfl⟩) | (go_at_call 26; refine (sdiv_any _ _ _).mono ?_; rintro e w' ⟨rfl, rfl⟩) | (go_at_call 17; refine (fclamp_any _ _).mono ?_; rintro e w' ⟨rfl, rfl⟩))
        go_ret
        exact ⟨rfl, b1⟩
      · have g3 : (M.cl x == 0) = true := by simp [hx]
        have g4 : (M.dv (M.cl x) (M.cl y) == 0) = true := by rw [G.out]; unfold M.far; simp; omega
        clear hx
        go_wp2_with (first | (go_at_call 20; refine (fdiv_any _ _ _).mono ?_; rintro e w' ⟨rfl, rfl⟩) | (go_at_call 26; refine (sdiv_any _ _ _).mono ?_; rintro e w' ⟨rfl, rfl⟩) | (go_at_call 17; refine (fclamp_any _ _).mono ?_; rintro e w' ⟨rfl, rfl⟩))
        go_ret
        exact ⟨rfl, b1⟩
      · have g3 : (M.cl x == 0) = false := by simp; omega
        have g4 : (M.dv (M.cl x) (M.cl y) == 1000000000) = true := by rw [G.out]; unfold M.far; simp; omega
        go_wp2_with (first | (go_at_call 20; refine (fdiv_any _ _ _).mono ?_; rintro e w' ⟨rfl, rfl⟩) | (go_at_call 26; refine (sdiv_any _ _ _).mono ?_; rintro e w' ⟨rfl, rfl⟩) | (go_at_call 17; refine (fclamp_any _ _).mono ?_; rintro e w' ⟨rfl, rfl⟩))
        go_ret
        exact ⟨rfl, b1⟩
    · have g1 : (M.cl y == 0) = false := by simp [hq]
      have g2 : (M.cl y != 0) = true := by simp [hq]
      by_cases hx : M.ab (M.dv (M.cl x) (M.cl y)) = 1000000000
      · have g3 : (M.ab (M.dv (M.cl x) (M.cl y)) == 1000000000) = true := by simp [hx]
        clear hx hq
        go_wp2_with (first | (go_at_call 20; refine (fdiv_any _ _ _).mono ?_; rintro e w' ⟨rfl, rfl⟩) | (go_at_call 26; refine (sdiv_any _ _ _).mono ?_; rintro e w' ⟨rfl, rfl⟩) | (go_at_call 17; refine (fclamp_any _ _).mono ?_; rintro e w' ⟨rfl, rfl⟩) | (go_at_call 33; refine (abs_any _ _ (by omega)).mono ?_; rintro e w' ⟨rfl, rfl⟩))
        go_ret
        exact ⟨rfl, b1⟩
      · have g3 : (M.ab (M.dv (M.cl x) (M.cl y)) == 1000000000) = false := by simp [hx]
        have g4 := M.dv_rest hq hx
        clear hx hq
        go_wp2_with (first | (go_at_call 20; refine (fdiv_any _ _ _).mono ?_; rintro e w' ⟨rfl, rfl⟩) | (go_at_call 26; refine (sdiv_any _ _ _).mono ?_; rintro e w' ⟨rfl, rfl⟩) | (go_at_call 17; refine (fclamp_any _ _).mono ?_; rintro e w' ⟨rfl, rfl⟩) | (go_at_call 33; refine (abs_any _ _ (by omega)).mono ?_; rintro e w' ⟨rfl, rfl⟩))

        go_ret
        exact ⟨rfl, b1⟩
end Go.Proofs.Ytkkjoglbcdhopaa
