/- The exact law of TableOk, walked. -/
import Derived.Test.YtbmnonfnnifoiaaSTable
namespace Go.Proofs.Ytbmnonfnnifoiaa
open Go.ChangeShapes Go.WideShapes Go.ChangeAt Go.RowKit
attribute [local go_sem ↓] Go.wp_at_zero Go.wp_at_succ
theorem szFactS_over (a : Option Addr) (len cap : Nat) (w : World) (h1 : 1048576 < len) (hl : len ≤ maxLen) :
    Calls Try.prog 17 #[.slice a len cap, .int .i64 1048576] w fun e w' => e = .returned (.int .i64 (-1)) ∧ w' = w :=
  (szFactS_any a len cap 1048576 w (by omega) (by omega) hl).mono (by rintro e w' ⟨rfl, rfl⟩; rw [if_pos (by omega)]; exact ⟨rfl, rfl⟩)
theorem szFactS_in (a : Option Addr) (len cap : Nat) (w : World) (h1 : len ≤ 1048576) :
    Calls Try.prog 17 #[.slice a len cap, .int .i64 1048576] w fun e w' => ∃ n : Nat, e = .returned (.int .i64 (n : Int)) ∧ w' = w :=
  (szFactS_any a len cap 1048576 w (by omega) (by omega) (by unfold maxLen; omega)).mono (by rintro e w' ⟨rfl, rfl⟩; rw [if_neg (by omega)]; exact ⟨1048576 - len, ret_int (by omega), rfl⟩)
set_option maxHeartbeats 1000000 in
theorem exTableOk_walk (a : Option Addr) (len cap : Nat) (F : Nat → Fc) (w : World) (h : FSl w a len F) (hc : len ≤ cap) (hm : len ≤ maxLen) :
    Calls Try.prog 7 #[.slice a len cap] w fun r w' => r = .returned (.bool true) ∧ Below w.heap.size w w' := by
  by_cases hl : 1048576 < len
  · go_enter Try.func7, Try.ntmps7
    go_wp2_with fail
    refine (szFactS_over a len cap _ hl hm).mono ?_
    rintro r w' ⟨rfl, rfl⟩
    go_wp2
    go_ret
    exact ⟨rfl, Below.refl _ _⟩
  · have hl' : len ≤ 1048576 := by omega
    have e0 : (tokB len F != tokB len F) = false := by simp
    clear hl hm
    go_enter Try.func7, Try.ntmps7
    go_wp2_with fail
    refine (szFactS_in a len cap _ hl').mono ?_
    rintro r w' ⟨n, rfl, rfl⟩
    have n0 : ¬ ((n : Int) < 0) := by omega
    go_wp2_with fail
    refine (toFactS_any a len cap F _ h hl' hc).mono ?_
    rintro r w1 ⟨x1, rfl, f1, _, _, b1⟩
    go_wp2_with fail
    refine (stok_any _ len len F _ f1 hl').mono ?_
    rintro r w2 ⟨rfl, b2⟩
    have B2 := btrans b1 b2
    go_wp2_with fail
    refine (toFactS_any a len cap F _ (h.below B2) hl' hc).mono ?_
    rintro r w3 ⟨x3, rfl, f3, _, _, b3⟩
    have B3 := btrans B2 b3
    go_wp2_with fail
    refine (tok_any _ len len F _ f3 hl').mono ?_
    rintro r w4 ⟨rfl, b4⟩
    have B4 := btrans B3 b4
    have f4 := f3.below b4
    go_wp2_with fail
    refine (toFactS_any a len cap F _ (h.below B4) hl' hc).mono ?_
    rintro r w5 ⟨x5, rfl, f5, _, _, b5⟩
    have B5 := btrans B4 b5
    have f6 := f4.below b5
    go_wp2_with fail
    refine (eqFactS_same _ _ len len len F _ f6 f5 hl').mono ?_
    rintro r w6 ⟨rfl, b6⟩
    go_wp2
    go_ret
    exact ⟨rfl, btrans B5 b6⟩
end Go.Proofs.Ytbmnonfnnifoiaa
