/- The laws on roots and ways, and on sums that grow, walked: each answers true at every code. -/
import Derived.Test.YtkkjoglbcdhopaaProg
import Derived.LoopTactic
import Derived.Test.YtkkjoglbcdhopaaLaws1
import Derived.WalkKit
import Derived.ProofKit
import Derived.WalkLawsBesides
namespace Go.Proofs.Ytkkjoglbcdhopaa
open Go.ChangeShapes Go.WideShapes Go.ChangeAt Go.RowKit

theorem rt_4000 : M.isq (M.cl 4000 * 1000) = 2000 := by
  rw [M.cl_id (n := 4000) (by omega) (by omega)]
  exact M.isq_eq (by omega) (by omega) (by omega)
theorem frt_4000 (w : World) :
    Calls Try.prog 21 #[.int .i64 4000] w fun e w' => e = .returned (.int .i64 2000) ∧ w' = w.alloc (.cells #[.int .i64 (M.cl 4000 * 1000)] 38) := by
  have h := frt_any 4000 w
  rw [rt_4000] at h
  exact h
theorem rt_spec (x : Int) (hx : 0 ≤ x) : M.isq (M.cl x * 1000) * M.isq (M.cl x * 1000) ≤ M.cl x * 1000 ∧ M.cl x * 1000 < (M.isq (M.cl x * 1000) + 1) * (M.isq (M.cl x * 1000) + 1) :=
  ⟨M.isq_le _ (by unfold M.cl; omega), M.lt_isq _⟩
theorem rt_neg (x : Int) (hx : x < 0) : M.isq (M.cl x * 1000) = 0 := M.isq_neg (by unfold M.cl; omega)
theorem fixRoot_walk (a : Option Addr) (len cap : Nat) (w : World) (h : Bytes w.heap.size w a len) (hl : len ≤ cap) :
    Calls Try.prog 7 #[.slice a len cap] w fun e w' => e = .returned (.bool true) ∧ Below w.heap.size w w' := by
  by_cases hlen : 1048576 < len
  · go_enter Try.func7, Try.ntmps7
    go_wp2_with fail
    go_ret
    exact ⟨rfl, Below.refl _ _⟩
  · go_enter Try.func7, Try.ntmps7
    go_wp2_with fail
    refine (draw1r_any a len cap _ w (Nat.le_refl _) h hl).mono ?_
    rintro e w1 ⟨x, rfl, b1⟩
    have q1 := M.cl_bd x
    have q2 := rt_bd x
    have hB := b1.size
    by_cases hx : x < 0
    · have f3 := rt_neg x hx
      go_wp2_with fail
      refine (frt_any _ _).mono ?_; rintro e w' ⟨rfl, rfl⟩
      go_wp2_with fail
      refine (fclamp_any _ _).mono ?_; rintro e w' ⟨rfl, rfl⟩
      go_wp2_with fail
      refine (srt_any _ _).mono ?_; rintro e w' ⟨rfl, rfl⟩
      go_wp2_with fail
      refine (frt_4000 _).mono ?_; rintro e w' ⟨rfl, rfl⟩
      go_wp2
      go_ret
      exact ⟨rfl, (b1.alloc hB _).alloc (by simp; omega) _⟩
    · have f3 := rt_spec x (by omega)
      obtain ⟨r, hr⟩ : ∃ r, M.isq (M.cl x * 1000) = r := ⟨_, rfl⟩
      rw [hr] at q2 f3
      have q3 : 0 ≤ r * r ∧ r * r ≤ 1000000000000 := ⟨M.sq_nonneg r, by have := M.sq_le q2.1 q2.2; omega⟩
      have q4 : 0 ≤ (r + 1) * (r + 1) ∧ (r + 1) * (r + 1) ≤ 1000002000001 := ⟨M.sq_nonneg (r + 1), by have := M.sq_le (a := r + 1) (b := 1000001) (by omega) (by omega); omega⟩
      go_wp2_with fail
      refine (frt_any _ _).mono ?_; rintro e w' ⟨rfl, rfl⟩
      go_wp2_with fail
      refine (fclamp_any _ _).mono ?_; rintro e w' ⟨rfl, rfl⟩
      go_wp2_with fail
      refine (srt_any _ _).mono ?_; rintro e w' ⟨rfl, rfl⟩
      go_wp2_with fail
      refine (frt_4000 _).mono ?_; rintro e w' ⟨rfl, rfl⟩
      go_wp2
      go_ret
      exact ⟨rfl, (b1.alloc hB _).alloc (by simp; omega) _⟩
theorem nm_34 : M.cl (M.isq (M.cl 3 * M.cl 3 + M.cl 4 * M.cl 4)) = 5 := by
  rw [M.cl_id (n := 3) (by omega) (by omega), M.cl_id (n := 4) (by omega) (by omega), M.isq_eq (r := 5) (by omega) (by omega) (by omega)]; rfl
theorem fixNorm_walk (a : Option Addr) (len cap : Nat) (w : World) (h : Bytes w.heap.size w a len) (hl : len ≤ cap) :
    Calls Try.prog 8 #[.slice a len cap] w fun e w' => e = .returned (.bool true) ∧ Below w.heap.size w w' := by
  by_cases hlen : 1048576 < len
  · go_enter Try.func8, Try.ntmps8
    go_wp2_with fail
    go_ret
    exact ⟨rfl, Below.refl _ _⟩
  · go_enter Try.func8, Try.ntmps8
    go_wp2_with fail
    refine (draw2n_any a len cap _ w (Nat.le_refl _) h hl).mono ?_
    rintro e w1 ⟨x, y, rfl, b1⟩
    have q1 := M.cl_bd x
    have q2 := M.cl_bd y
    have q3 : M.ab (M.cl x) ≤ 1000000000 ∧ M.ab (M.cl y) ≤ 1000000000 := by unfold M.ab; omega
    have q4 := M.ab_nonneg (M.cl x)
    have q5 := M.ab_nonneg (M.cl y)
    have f1 : (M.cl (M.isq (M.cl x * M.cl x + M.cl y * M.cl y)) != M.cl (M.isq (M.cl y * M.cl y + M.cl x * M.cl x))) = false := bne_of (by rw [Int.add_comm])
    have f2 : (M.cl (M.isq (M.cl x * M.cl x + M.cl y * M.cl y)) != M.cl (M.isq (M.cl (-M.cl x) * M.cl (-M.cl x) + M.cl y * M.cl y))) = false := bne_of (by rw [M.cl_neg, M.cl_cl, Int.neg_mul_neg])
    have f3 : (M.cl (M.isq (M.cl 3 * M.cl 3 + M.cl 4 * M.cl 4)) != 5) = false := bne_of nm_34
    have g1 := M.norm_ge (M.cl x) (M.cl y) q3.1
    have g2 := M.norm_ge (M.cl y) (M.cl x) q3.2
    rw [Int.add_comm] at g2
    have g3 := M.norm_le (M.cl x) (M.cl y)
    have hB := b1.size
    go_wp2_with (first | (go_at_call 22; refine (fnm_any _ _ _).mono ?_; rintro e w' ⟨rfl, rfl⟩) | (go_at_call 28; refine (snm_any _ _ _).mono ?_; rintro e w' ⟨rfl, rfl⟩) | (go_at_call 17; refine (fclamp_any _ _).mono ?_; rintro e w' ⟨rfl, rfl⟩) | (go_at_call 33; refine (abs_any _ _ (by omega)).mono ?_; rintro e w' ⟨rfl, rfl⟩))
    go_ret
    exact ⟨rfl, (((b1.alloc hB _).alloc (by simp; omega) _).alloc (by simp; omega) _).alloc (by simp; omega) _⟩
theorem fixGrow_walk (a a' : Option Addr) (len cap len' cap' : Nat) (w : World) (h : Bytes w.heap.size w a len) (hl : len ≤ cap) (h' : Bytes w.heap.size w a' len') (hl' : len' ≤ cap') :
    Calls Try.prog 9 #[.slice a len cap, .slice a' len' cap'] w fun e w' => e = .returned (.bool true) ∧ Below w.heap.size w w' := by
  by_cases hlen : 1048576 < len
  · go_enter Try.func9, Try.ntmps9
    go_wp2_with fail
    go_ret
    exact ⟨rfl, Below.refl _ _⟩
  by_cases hlen' : 1048576 < len'
  · go_enter Try.func9, Try.ntmps9
    go_wp2_with fail
    go_ret
    exact ⟨rfl, Below.refl _ _⟩
  · go_enter Try.func9, Try.ntmps9
    go_wp2_with fail
    refine (draw2_any a len cap _ w (Nat.le_refl _) h hl).mono ?_
    rintro e w1 ⟨x, y, rfl, b1⟩
    go_wp2_with fail
    refine (draw1_any a' len' cap' w.heap.size w1 b1.size (h'.below b1 (Nat.le_refl _)) hl').mono ?_
    rintro e w2 ⟨z, rfl, b2⟩
    have q1 := M.cl_bd x
    have q2 := M.cl_bd y
    have q3 := M.cl_bd z
    have f4 : (M.cl (M.cl 1 + M.cl 1) == 2) = true := by simp [M.cl]
    have B2 : Hid (Below w1.heap.size w1 w2) := b2
    clear b2
    rcases Int.lt_trichotomy x z with hx | hx | hx
    · have g1 : M.cl (M.cl x + M.cl y) ≤ M.cl (M.cl z + M.cl y) := M.cl_mono (by have := M.cl_mono (a := x) (b := z) (by omega); omega)
      go_wp2_with (first | (go_at_call 18; refine (fadd_any _ _ _).mono ?_; rintro e w' ⟨rfl, rfl⟩) | (go_at_call 24; refine (sadd_any _ _ _).mono ?_; rintro e w' ⟨rfl, rfl⟩) | (go_at_call 17; refine (fclamp_any _ _).mono ?_; rintro e w' ⟨rfl, rfl⟩) | (go_at_call 23; refine (sclamp_any _ _).mono ?_; rintro e w' ⟨rfl, rfl⟩))
      go_ret
      exact ⟨rfl, b1.trans (B2.out.mono b1.size)⟩
    · subst hx
      go_wp2_with (first | (go_at_call 18; refine (fadd_any _ _ _).mono ?_; rintro e w' ⟨rfl, rfl⟩) | (go_at_call 24; refine (sadd_any _ _ _).mono ?_; rintro e w' ⟨rfl, rfl⟩) | (go_at_call 17; refine (fclamp_any _ _).mono ?_; rintro e w' ⟨rfl, rfl⟩) | (go_at_call 23; refine (sclamp_any _ _).mono ?_; rintro e w' ⟨rfl, rfl⟩))
      go_ret
      exact ⟨rfl, b1.trans (B2.out.mono b1.size)⟩
    · have g1 : M.cl (M.cl z + M.cl y) ≤ M.cl (M.cl x + M.cl y) := M.cl_mono (by have := M.cl_mono (a := z) (b := x) (by omega); omega)
      go_wp2_with (first | (go_at_call 18; refine (fadd_any _ _ _).mono ?_; rintro e w' ⟨rfl, rfl⟩) | (go_at_call 24; refine (sadd_any _ _ _).mono ?_; rintro e w' ⟨rfl, rfl⟩) | (go_at_call 17; refine (fclamp_any _ _).mono ?_; rintro e w' ⟨rfl, rfl⟩) | (go_at_call 23; refine (sclamp_any _ _).mono ?_; rintro e w' ⟨rfl, rfl⟩))
      go_ret
      exact ⟨rfl, b1.trans (B2.out.mono b1.size)⟩
end Go.Proofs.Ytkkjoglbcdhopaa
