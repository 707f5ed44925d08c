/- How many of a view stand in a way: the program's way and the model's; the exact law of ViewCount, walked. -/
import Derived.Test.YtgcdcfjaeehnbaaGreatExVersion
namespace Go.Proofs.YtgcdcfjaeehnbaaGreat
open Go.ChangeShapes Go.WideShapes Go.ChangeAt Go.RowKit
attribute [local go_sem ↓] Go.wp_at_zero Go.wp_at_succ
def cntN (F : Nat → Fc) (x : Int) : Nat → Nat
  | 0 => 0
  | k + 1 => if (F k).s = x then cntN F x k + 1 else cntN F x k
theorem cnt_le (F : Nat → Fc) (x : Int) : ∀ k, cntN F x k ≤ k
  | 0 => Nat.le_refl _
  | k + 1 => by have := cnt_le F x k; unfold cntN; split <;> omega
def cntT (len : Nat) (F : Nat → Fc) (x : Int) : Int := if tokB len F = true then (cntN F x len : Int) else 0
set_option maxRecDepth 10000 in
set_option maxHeartbeats 1000000 in
theorem cnt_any (a : Option Addr) (len cap : Nat) (F : Nat → Fc) (x : Int) (w : World) (h : FSl w a len F) (hl : len ≤ 1048576) :
    Calls Tryz.prog 162 #[.slice a len cap, .int .i64 x] w fun e w' => e = .returned (.int .i64 (cntT len F x)) ∧ Below w.heap.size w w' := by
  cases hok : tokB len F
  · have hok' : Hid (tokB len F = false) := hok
    clear hok
    go_enter Tryz.func162, Tryz.ntmps162
    go_wp2_with fail
    refine (tok_lit a len cap F false _ h hl hok'.out).mono ?_
    rintro r w1 ⟨rfl, b1⟩
    go_wp2
    go_ret
    exact ⟨ret_int (by unfold cntT; rw [hok'.out]; rfl), b1⟩
  · have hok' : Hid (tokB len F = true) := hok
    clear hok
    go_enter Tryz.func162, Tryz.ntmps162
    go_wp2_with fail
    refine (tok_lit a len cap F true _ h hl hok'.out).mono ?_
    rintro r w1 ⟨rfl, b1⟩
    have h1 := h.below b1
    go_wp2_with fail
    go_loopw [5, 7, 13] (fun v _ i wr => ∃ k : Nat, k ≤ len ∧ i = .int .i64 k ∧ v = .int .i64 (cntN F x k : Int) ∧ Below w1.heap.size w1 wr) (fun _ _ i _ => len - (intOf i).toNat)
    case atStart => exact ⟨0, by omega, rfl, rfl, Below.refl _ _⟩
    case round =>
      obtain ⟨k, hk, rfl, rfl, hb⟩ := hrel
      have hc := cnt_le F x k
      by_cases hlt : k < len
      · obtain ⟨b, off, rfl, hbl, hf⟩ := h1 (by omega)
        obtain ⟨c0, c1, c2, c3⟩ := (hf.below hb hbl) k hlt
        by_cases hs : (F k).s = x
        · have g3 : Hid (cntN F x (k + 1) = cntN F x k + 1) := by unfold Hid; rw [cntN, if_pos hs]
          generalize cntN F x k = c at *
          go_wp2
          go_roundw
          case rel => exact ⟨k + 1, by omega, by go_num, by rw [g3.out]; go_num, balloc _ hb⟩
          case measure => simp [intOf]; omega
        · have g3 : Hid (cntN F x (k + 1) = cntN F x k) := by unfold Hid; rw [cntN, if_neg hs]
          generalize cntN F x k = c at *
          go_wp2
          go_roundw
          case rel => exact ⟨k + 1, by omega, by go_num, by rw [g3.out], balloc _ hb⟩
          case measure => simp [intOf]; omega
      · go_wp2
        go_ret
        have e : k = len := by omega
        subst e
        exact ⟨ret_int (by unfold cntT; rw [hok'.out]; rfl), btrans b1 hb⟩
end Go.Proofs.YtgcdcfjaeehnbaaGreat
