/- The law that no number gets out of its box, walked: it answers true at every code. -/
import Derived.Test.YtkkjoglbcdhopaaProg
import Derived.LoopTactic
import Derived.LoopN
import Derived.Deep.QuietTactic
import Derived.BigQuiet
import Derived.Test.YtkkjoglbcdhopaaLaws2
import Derived.WalkKit
import Derived.ProofKit
import Derived.WalkLawsBesides
namespace Go.Proofs.Ytkkjoglbcdhopaa
open Go.ChangeShapes Go.WideShapes Go.ChangeAt Go.RowKit


theorem ints_eq (b1 b2 n c1 c2 : Nat) (f : Nat → Int) (w : World) (h1 : ∀ i, i < n → w.cell? ⟨b1, i, none⟩ = some (.int .i64 (f i))) (h2 : ∀ i, i < n → w.cell? ⟨b2, i, none⟩ = some (.int .i64 (f i))) (hn : n ≤ 1000000) :
    Calls Try.prog 30 #[.slice (some ⟨b1, 0, none⟩) n c1, .slice (some ⟨b2, 0, none⟩) n c2] w fun e w' => e = .returned (.bool true) ∧ ∃ m, w' = w.drewN m := by
  go_enter Try.func30, Try.ntmps30
  go_wp2
  go_loopw [5] (fun i wr => ∃ k m : Nat, k ≤ n ∧ i = .int .i64 k ∧ wr = w.drewN m) (fun i _ => n - (intOf i).toNat)
  case atStart => exact ⟨0, 0, by omega, rfl, rfl⟩
  case round =>
    obtain ⟨k, m, hk, rfl, rfl⟩ := hrel
    by_cases hlt : k < n
    · have g1 := h1 k hlt
      have g2 := h2 k hlt
      clear h1 h2
      have hlt' : (k : Int) < (n : Int) := by omega
      go_wp2
      go_quiet (fail)
      go_wp2
      go_roundw
      case rel => exact ⟨k + 1, _, by omega, by go_num, rfl⟩
      case measure => simp [intOf]; omega
    · go_wp2
      go_ret
      exact ⟨rfl, m, rfl⟩
theorem in_any (n lo hi : Int) (w : World) (h1 : lo ≤ n) (h2 : n ≤ hi) :
    Calls Try.prog 29 #[.int .i64 n, .int .i64 lo, .int .i64 hi] w fun e w' => e = .returned (.bool true) ∧ w' = w := by
  go_enter Try.func29, Try.ntmps29
  go_wp2
  go_ret
  exact ⟨rfl, rfl⟩
theorem nm_cl_bd (x y : Int) : -1000000000 ≤ M.cl (M.isq (M.cl x * M.cl x + M.cl y * M.cl y)) ∧ M.cl (M.isq (M.cl x * M.cl x + M.cl y * M.cl y)) ≤ 1000000000 := M.cl_bd _
theorem mul_1000 : M.cl ((M.cl 1000 * M.cl 1000).tdiv 1000) = 1000 := by decide +kernel
set_option maxHeartbeats 1000000 in
theorem fixBox_walk (a : Option Addr) (len cap : Nat) (w : World) (h : Bytes w.heap.size w a len) (hl : len ≤ cap) :
    Calls Try.prog 3 #[.slice a len cap] w fun e w' => e = .returned (.bool true) ∧ Below w.heap.size w w' := by
  by_cases hlen : 1048576 < len
  · go_enter Try.func3, Try.ntmps3
    go_wp2_with fail
    go_ret
    exact ⟨rfl, Below.refl _ _⟩
  · go_enter Try.func3, Try.ntmps3
    go_wp2_with fail
    refine (draw2_any a len cap _ w (Nat.le_refl _) h hl).mono ?_
    rintro e w1 ⟨x, y, rfl, b1⟩
    have q1 := M.cl_bd x
    have q2 := M.cl_bd (M.cl x + M.cl y)
    have q3 := M.cl_bd ((M.cl x * M.cl y).tdiv 1000)
    have q4 := dv_bd (M.cl x) (M.cl y)
    have q5 := rt_bd x
    have q6 := nm_cl_bd x y
    have f2 : (M.cl ((M.cl 1000 * M.cl 1000).tdiv 1000) == 1000) = true := beq_of mul_1000
    have hB := b1.size
    go_wp2_with (first | (go_at_call 17; refine (fclamp_any _ _).mono ?_; rintro e w' ⟨rfl, rfl⟩) | (go_at_call 18; refine (fadd_any _ _ _).mono ?_; rintro e w' ⟨rfl, rfl⟩) | (go_at_call 19; refine (fmul_any _ _ _).mono ?_; rintro e w' ⟨rfl, rfl⟩) | (go_at_call 20; refine (fdiv_any _ _ _).mono ?_; rintro e w' ⟨rfl, rfl⟩) | (go_at_call 21; refine (frt_any _ _).mono ?_; rintro e w' ⟨rfl, rfl⟩) | (go_at_call 22; refine (fnm_any _ _ _).mono ?_; rintro e w' ⟨rfl, rfl⟩) | (go_at_call 23; refine (sclamp_any _ _).mono ?_; rintro e w' ⟨rfl, rfl⟩) | (go_at_call 24; refine (sadd_any _ _ _).mono ?_; rintro e w' ⟨rfl, rfl⟩) | (go_at_call 25; refine (smul_any _ _ _).mono ?_; rintro e w' ⟨rfl, rfl⟩) | (go_at_call 26; refine (sdiv_any _ _ _).mono ?_; rintro e w' ⟨rfl, rfl⟩) | (go_at_call 27; refine (srt_any _ _).mono ?_; rintro e w' ⟨rfl, rfl⟩) | (go_at_call 28; refine (snm_any _ _ _).mono ?_; rintro e w' ⟨rfl, rfl⟩))
    refine wp_loop_rounds 7 ?_
    iterate 7 (rw [rounds_succ]; go_wp2_with (go_at_call 29; refine (in_any _ _ _ _ (by omega) (by omega)).mono ?_; rintro e w' ⟨rfl, rfl⟩))
    have six : ∀ i : Nat, i < 6 → i = 0 ∨ i = 1 ∨ i = 2 ∨ i = 3 ∨ i = 4 ∨ i = 5 := by intro i hi; omega
    refine (ints_eq _ _ _ _ _ (fun i => [M.cl x, M.cl (M.cl x + M.cl y), M.cl ((M.cl x * M.cl y).tdiv 1000), M.dv (M.cl x) (M.cl y), M.isq (M.cl x * 1000), M.cl (M.isq (M.cl x * M.cl x + M.cl y * M.cl y))].getD i 0) _ ?_ ?_ (by omega)).mono ?_
    · intro i hi
      rcases six i hi with rfl | rfl | rfl | rfl | rfl | rfl <;> simp [go_sem]
    · intro i hi
      rcases six i hi with rfl | rfl | rfl | rfl | rfl | rfl <;> simp [go_sem]
    rintro e w' ⟨rfl, m, rfl⟩
    clear six
    go_wp2_with (go_at_call 19; refine (fmul_any _ _ _).mono ?_; rintro e w' ⟨rfl, rfl⟩)
    go_ret
    exact ⟨rfl, below_drewN ((((b1.alloc hB _).alloc (by simp; omega) _).alloc (by simp; omega) _).alloc (by simp; omega) _) m⟩
end Go.Proofs.Ytkkjoglbcdhopaa
