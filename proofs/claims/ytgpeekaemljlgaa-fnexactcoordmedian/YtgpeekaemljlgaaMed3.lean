/- The exact law of CoordMedian, walked. -/
import Derived.Test.YtgpeekaemljlgaaMed2
namespace Go.Proofs.Ytgpeekaemljlgaa
open Go.ChangeShapes Go.WideShapes Go.ChangeAt Go.RowKit
attribute [local go_sem ↓] Go.wp_at_zero Go.wp_at_succ
theorem own_isl {w : World} {base g cap n : Nat} {f : Nat → Int} (h : w.ownsRow base 3 1 (.slice (some ⟨g, 0, none⟩) n cap) n ((seqL f n).map (Value.int .i64))) : IntsIn w g 0 n f ∧ g < w.heap.size := by
  refine ⟨fun k hk => ?_, (h.lt g rfl).2⟩
  rw [Nat.zero_add, own_at h k hk]
  simp [seqL, List.getD, hk]
theorem med_zero (f : Nat → Int) : med 0 f = 0 := rfl
theorem fmed_zero (a : Option Addr) (cap : Nat) (w : World) : Calls Try.prog 6 #[.slice a 0 cap] w fun e w' => e = .returned (.int .i64 0) ∧ Below w.heap.size w w' := by
  go_enter Try.func6, Try.ntmps6
  go_wp2
  go_ret
  exact ⟨rfl, Below.refl _ _⟩
theorem fmed_any (b len cap : Nat) (f : Nat → Int) (w : World) (h : IntsIn w b 0 len f) (hl : len ≤ 1048576) (hc : len ≤ cap) :
    Calls Try.prog 6 #[.slice (some ⟨b, 0, none⟩) len cap] w fun e w' => e = .returned (.int .i64 (med len f)) ∧ Below w.heap.size w w' := by
  match len, h, hl, hc with
  | 0, _, _, _ => exact fmed_zero _ _ w
  | 1, h, _, hc => exact fmed_1 b 0 cap f w h hc
  | 2, h, _, hc => exact fmed_2 b 0 cap f w h hc
  | m + 3, h, hl, hc => exact fmed_3 m b 0 cap f w h hc hl
theorem smed_any (b len cap : Nat) (f : Nat → Int) (w : World) (h : IntsIn w b 0 len f) (hb : b < w.heap.size) (hl : len ≤ 1048576) (hc : len ≤ cap) :
    Calls Try.prog 4 #[.slice (some ⟨b, 0, none⟩) len cap] w fun e w' => e = .returned (.int .i64 (med len f)) ∧ Below w.heap.size w w' := by
  by_cases h3 : len ≤ 3
  · exact smed_small _ len cap f w (fun _ => ⟨b, 0, rfl, hb, h⟩) h3
  · obtain ⟨m, rfl⟩ : ∃ m, len = m + 3 := ⟨len - 3, by omega⟩
    exact smed_big m b 0 cap f w h hb (by omega) hl hc
set_option maxHeartbeats 1000000 in
theorem exMed_walk (a : Option Addr) (len cap : Nat) (f : Nat → Int) (w : World) (h : ISl w a len f) :
    Calls Try.prog 3 #[.slice a len cap] w fun e w' => e = .returned (.bool true) ∧ Below w.heap.size w w' := by
  by_cases hl : len ≤ 1048576
  · have j0 : ¬ (1048576 : Int) < (len : Int) := by omega
    go_enter Try.func3, Try.ntmps3
    go_wp2_with fail
    refine (toIntS_any a len cap f _ h hl).mono ?_
    rintro e w1 ⟨g1, rfl, o1, b1⟩
    obtain ⟨in1, lt1⟩ := own_isl o1
    go_wp2_with fail
    refine (smed_any g1 len len f _ in1 lt1 hl (Nat.le_refl _)).mono ?_
    rintro e w2 ⟨rfl, b2⟩
    have B2 := btrans b1 b2
    clear o1 in1 lt1 b1 b2
    go_wp2_with fail
    refine (toIntS_any a len cap f _ (h.below B2) hl).mono ?_
    rintro e w3 ⟨g3, rfl, o3, b3⟩
    obtain ⟨in3, lt3⟩ := own_isl o3
    have B3 := btrans B2 b3
    clear o3 b3 B2
    go_wp2_with fail
    refine (fmed_any g3 len len f _ in3 hl (Nat.le_refl _)).mono ?_
    rintro e w4 ⟨rfl, b4⟩
    have B4 := btrans B3 b4
    have s4 : ISl w4 (some ⟨g3, 0, none⟩) len f := fun _ => ⟨g3, 0, rfl, by have := b4.size; omega, in3.below b4 lt3⟩
    clear in3 lt3 b4 B3
    generalize med len f = X at *
    go_wp2_with fail
    refine (toIntS_any a len cap f _ (h.below B4) hl).mono ?_
    rintro e w5 ⟨g5, rfl, o5, b5⟩
    obtain ⟨in5, lt5⟩ := own_isl o5
    have B5 := btrans B4 b5
    have s5 := s4.below b5
    clear o5 s4 b5 B4
    go_wp2_with fail
    refine (eqInts_same _ _ len len len f _ s5 (fun _ => ⟨g5, 0, rfl, lt5, in5⟩) hl).mono ?_
    rintro e w6 ⟨rfl, b6⟩
    have B6 := btrans B5 b6
    go_wp2
    go_ret
    exact ⟨rfl, B6⟩
  · have j0 : (1048576 : Int) < (len : Int) := by omega
    go_enter Try.func3, Try.ntmps3
    go_wp2
    go_ret
    exact ⟨rfl, Below.refl _ _⟩
end Go.Proofs.Ytgpeekaemljlgaa
