/- How many of a view stand in a way: the program's way and the model's; the exact law of ViewCount, walked. -/
import Derived.Test.YtbmnonfnnifoiaaExVersion
namespace Go.Proofs.Ytbmnonfnnifoiaa
open Go.ChangeShapes Go.WideShapes Go.ChangeAt Go.RowKit
attribute [local go_sem ↓] Go.wp_at_zero Go.wp_at_succ
def cntN (F : Nat → Fc) (x : Int) : Nat → Nat
  | 0 => 0
  | k + 1 => if (F k).s = x then cntN F x k + 1 else cntN F x k
theorem cnt_le (F : Nat → Fc) (x : Int) : ∀ k, cntN F x k ≤ k
  | 0 => Nat.le_refl _
  | k + 1 => by have := cnt_le F x k; unfold cntN; split <;> omega
def cntT (len : Nat) (F : Nat → Fc) (x : Int) : Int := if tokB len F = true then (cntN F x len : Int) else 0
set_option maxRecDepth 10000 in
set_option maxHeartbeats 1000000 in
theorem cnt_any (a : Option Addr) (len cap : Nat) (F : Nat → Fc) (x : Int) (w : World) (h : FSl w a len F) (hl : len ≤ 1048576) :
    Calls Try.prog 20 #[.slice a len cap, .int .i64 x] w fun e w' => e = .returned (.int .i64 (cntT len F x)) ∧ Below w.heap.size w w' := by
  cases hok : tokB len F
  · have hok' : Hid (tokB len F = false) := hok
    clear hok
    go_enter Try.func20, Try.ntmps20
    go_wp2_with fail
    refine (tok_lit a len cap F false _ h hl hok'.out).mono ?_
    rintro r w1 ⟨rfl, b1⟩
    go_wp2
    go_ret
    exact ⟨ret_int (by unfold cntT; rw [hok'.out]; rfl), b1⟩
  · have hok' : Hid (tokB len F = true) := hok
    clear hok
    go_enter Try.func20, Try.ntmps20
    go_wp2_with fail
    refine (tok_lit a len cap F true _ h hl hok'.out).mono ?_
    rintro r w1 ⟨rfl, b1⟩
    have h1 := h.below b1
    go_wp2_with fail
    go_loopw [5, 7, 13] (fun v _ i wr => ∃ k : Nat, k ≤ len ∧ i = .int .i64 k ∧ v = .int .i64 (cntN F x k : Int) ∧ Below w1.heap.size w1 wr) (fun _ _ i _ => len - (intOf i).toNat)
    case atStart => exact ⟨0, by omega, rfl, rfl, Below.refl _ _⟩
    case round =>
      obtain ⟨k, hk, rfl, rfl, hb⟩ := hrel
      have hc := cnt_le F x k
      by_cases hlt : k < len
      · obtain ⟨b, off, rfl, hbl, hf⟩ := h1 (by omega)
        obtain ⟨c0, c1, c2, c3⟩ := (hf.below hb hbl) k hlt
        by_cases hs : (F k).s = x
        · have g3 : Hid (cntN F x (k + 1) = cntN F x k + 1) := by unfold Hid; rw [cntN, if_pos hs]
          generalize cntN F x k = c at *
          go_wp2
          go_roundw
          case rel => exact ⟨k + 1, by omega, by go_num, by rw [g3.out]; go_num, balloc _ hb⟩
          case measure => simp [intOf]; omega
        · have g3 : Hid (cntN F x (k + 1) = cntN F x k) := by unfold Hid; rw [cntN, if_neg hs]
          generalize cntN F x k = c at *
          go_wp2
          go_roundw
          case rel => exact ⟨k + 1, by omega, by go_num, by rw [g3.out], balloc _ hb⟩
          case measure => simp [intOf]; omega
      · go_wp2
        go_ret
        have e : k = len := by omega
        subst e
        exact ⟨ret_int (by unfold cntT; rw [hok'.out]; rfl), btrans b1 hb⟩
set_option maxRecDepth 10000 in
set_option maxHeartbeats 1000000 in
theorem scnt_any (a : Option Addr) (len cap : Nat) (F : Nat → Fc) (x : Int) (w : World) (h : FSl w a len F) (hl : len ≤ 1048576) :
    Calls Try.prog 18 #[.slice a len cap, .int .i64 x] w fun e w' => e = .returned (.int .i64 (cntT len F x)) ∧ Below w.heap.size w w' := by
  cases hok : tokB len F
  · have hok' : Hid (tokB len F = false) := hok
    clear hok
    go_enter Try.func18, Try.ntmps18
    go_wp2_with fail
    refine (stok_lit a len cap F false _ h hl hok'.out).mono ?_
    rintro r w1 ⟨rfl, b1⟩
    go_wp2
    go_ret
    exact ⟨ret_int (by unfold cntT; rw [hok'.out]; rfl), b1⟩
  · have hok' : Hid (tokB len F = true) := hok
    clear hok
    go_enter Try.func18, Try.ntmps18
    go_wp2_with fail
    refine (stok_lit a len cap F true _ h hl hok'.out).mono ?_
    rintro r w1 ⟨rfl, b1⟩
    have h1 := h.below b1
    go_wp2_with fail
    go_loopw [5, 6] (fun v i wr => ∃ k : Nat, k ≤ len ∧ i = .int .i64 k ∧ v = .int .i64 (cntN F x k : Int) ∧ Below w1.heap.size w1 wr) (fun _ i _ => len - (intOf i).toNat)
    case atStart => exact ⟨0, by omega, rfl, rfl, Below.refl _ _⟩
    case round =>
      obtain ⟨k, hk, rfl, rfl, hb⟩ := hrel
      have hc := cnt_le F x k
      by_cases hlt : k < len
      · obtain ⟨b, off, rfl, hbl, hf⟩ := h1 (by omega)
        obtain ⟨c0, c1, c2, c3⟩ := (hf.below hb hbl) k hlt
        have i0 : (0 : Int) ≤ (k : Int) := by omega
        have i1 : (k : Int) < (len : Int) := by omega
        by_cases hs : (F k).s = x
        · have g3 : Hid (cntN F x (k + 1) = cntN F x k + 1) := by unfold Hid; rw [cntN, if_pos hs]
          generalize cntN F x k = c at *
          go_wp2
          go_roundw
          case rel => exact ⟨k + 1, by omega, by go_num, by rw [g3.out]; go_num, hb⟩
          case measure => simp [intOf]; omega
        · have g3 : Hid (cntN F x (k + 1) = cntN F x k) := by unfold Hid; rw [cntN, if_neg hs]
          generalize cntN F x k = c at *
          go_wp2
          go_roundw
          case rel => exact ⟨k + 1, by omega, by go_num, by rw [g3.out], hb⟩
          case measure => simp [intOf]; omega
      · go_wp2
        go_ret
        have e : k = len := by omega
        subst e
        exact ⟨ret_int (by unfold cntT; rw [hok'.out]; rfl), btrans b1 hb⟩
set_option maxHeartbeats 1000000 in
theorem exView_walk (a : Option Addr) (len cap : Nat) (F : Nat → Fc) (x : Int) (w : World) (h : FSl w a len F) (hc : len ≤ cap) (hm : len ≤ maxLen) :
    Calls Try.prog 4 #[.slice a len cap, .int .i64 x] w fun r w' => r = .returned (.bool true) ∧ Below w.heap.size w w' := by
  by_cases hl : 1048576 < len
  · go_enter Try.func4, Try.ntmps4
    go_wp2_with fail
    refine (szFactS_over a len cap _ hl hm).mono ?_
    rintro r w' ⟨rfl, rfl⟩
    go_wp2
    go_ret
    exact ⟨rfl, Below.refl _ _⟩
  · have hl' : len ≤ 1048576 := by omega
    have e0 : ¬ (cntT len F x ≠ cntT len F x) := by simp
    clear hl hm
    go_enter Try.func4, Try.ntmps4
    go_wp2_with fail
    refine (szFactS_in a len cap _ hl').mono ?_
    rintro r w' ⟨n, rfl, rfl⟩
    have n0 : ¬ ((n : Int) < 0) := by omega
    go_wp2_with fail
    refine (toFactS_any a len cap F _ h hl' hc).mono ?_
    rintro r w1 ⟨x1, rfl, f1, _, _, b1⟩
    go_wp2_with fail
    refine (scnt_any _ len len F x _ f1 hl').mono ?_
    rintro r w2 ⟨rfl, b2⟩
    have B2 := btrans b1 b2
    go_wp2_with fail
    refine (toFactS_any a len cap F _ (h.below B2) hl' hc).mono ?_
    rintro r w3 ⟨x3, rfl, f3, _, _, b3⟩
    have B3 := btrans B2 b3
    go_wp2_with fail
    refine (cnt_any _ len len F x _ f3 hl').mono ?_
    rintro r w4 ⟨rfl, b4⟩
    have B4 := btrans B3 b4
    have f4 := f3.below b4
    go_wp2_with fail
    refine (toFactS_any a len cap F _ (h.below B4) hl' hc).mono ?_
    rintro r w5 ⟨x5, rfl, f5, _, _, b5⟩
    have B5 := btrans B4 b5
    have f6 := f4.below b5
    go_wp2_with fail
    refine (eqFactS_same _ _ len len len F _ f6 f5 hl').mono ?_
    rintro r w6 ⟨rfl, b6⟩
    go_wp2
    go_ret
    exact ⟨rfl, btrans B5 b6⟩
end Go.Proofs.Ytbmnonfnnifoiaa
