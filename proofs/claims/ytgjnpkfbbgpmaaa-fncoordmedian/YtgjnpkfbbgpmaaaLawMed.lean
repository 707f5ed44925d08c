/- The middle one: the law, walked. -/
import Derived.Test.YtgjnpkfbbgpmaaaMed2
import Derived.Test.YtgjnpkfbbgpmaaaDrawMed
namespace Go.Proofs.Ytgjnpkfbbgpmaaa
open Go.ChangeShapes Go.WideShapes Go.ChangeAt Go.RowKit
attribute [local go_sem ↓] Go.wp_at_zero Go.wp_at_succ
theorem fmed_zero (a : Option Addr) (cap : Nat) (w : World) : Calls Try.prog 5 #[.slice a 0 cap] w fun e w' => e = .returned (.int .i64 0) ∧ Below w.heap.size w w' := by
  go_enter Try.func5, Try.ntmps5
  go_wp2
  go_ret
  exact ⟨rfl, Below.refl _ _⟩
theorem fmed_any (b len cap : Nat) (f : Nat → Int) (w : World) (h : IntsIn w b 0 len f) (hl : len ≤ 1048576) (hc : len ≤ cap) :
    Calls Try.prog 5 #[.slice (some ⟨b, 0, none⟩) len cap] w fun e w' => e = .returned (.int .i64 (med len f)) ∧ Below w.heap.size w w' := by
  match len, h, hl, hc with
  | 0, _, _, _ => exact fmed_zero _ _ w
  | 1, h, _, hc => exact fmed_1 b 0 cap f w h hc
  | 2, h, _, hc => exact fmed_2 b 0 cap f w h hc
  | m + 3, h, hl, hc => exact fmed_3 m b 0 cap f w h hc hl
theorem smed_any (b len cap : Nat) (f : Nat → Int) (w : World) (h : IntsIn w b 0 len f) (hb : b < w.heap.size) (hl : len ≤ 1048576) (hc : len ≤ cap) :
    Calls Try.prog 6 #[.slice (some ⟨b, 0, none⟩) len cap] w fun e w' => e = .returned (.int .i64 (med len f)) ∧ Below w.heap.size w w' := by
  by_cases h3 : len ≤ 3
  · exact smed_small _ len cap f w (fun _ => ⟨b, 0, rfl, hb, h⟩) h3
  · obtain ⟨m, rfl⟩ : ∃ m, len = m + 3 := ⟨len - 3, by omega⟩
    exact smed_big m b 0 cap f w h hb (by omega) hl hc
theorem cntA_le (F : Nat → Int) (X : Int) : ∀ j, cntA F X j ≤ j
  | 0 => Nat.le_refl _
  | j + 1 => by have := cntA_le F X j; unfold cntA; split <;> omega
theorem cntB_le (F : Nat → Int) (X : Int) : ∀ j, cntB F X j ≤ j
  | 0 => Nat.le_refl _
  | j + 1 => by have := cntB_le F X j; unfold cntB; split <;> omega
def f513 (k : Nat) : Int := ([5, 1, 3] : List Int).getD k 0
theorem med513 : med 3 f513 = 3 := by decide
set_option maxHeartbeats 2000000 in
theorem medLaw_walk (a : Option Addr) (len cap : Nat) (w : World) (h : Bytes w.heap.size w a len) (hl : len ≤ cap) :
    Calls Try.prog 3 #[.slice a len cap] w fun e w' => e = .returned (.bool true) ∧ Below w.heap.size w w' := by
  by_cases hbig : 1048576 < len
  · have j0 : (1048576 : Int) < (len : Int) := by omega
    go_enter Try.func3, Try.ntmps3
    go_wp2
    go_ret
    exact ⟨rfl, Below.refl _ _⟩
  have j0 : ¬ (1048576 : Int) < (len : Int) := by omega
  go_enter Try.func3, Try.ntmps3
  go_wp2_with fail
  refine (drawMed_any a len cap w h hl).mono ?_
  rintro e w1 ⟨g, c, L, rfl, hL, hLc, o1, b1⟩
  obtain ⟨f, in1⟩ : ∃ f, IntsIn w1 g 0 L.length f := ⟨fun k => L.getD k 0, fun k hk => by rw [Nat.zero_add]; exact own_at o1 k hk⟩
  have lt1 : g < w1.heap.size := (o1.lt g rfl).2
  clear o1
  generalize L.length = n at *
  go_wp2_with fail
  refine (fmed_any g n c f _ in1 (by omega) hLc).mono ?_
  rintro e w2 ⟨rfl, b2⟩
  have in2 := in1.below b2 lt1
  have lt2 : g < w2.heap.size := by have := b2.size; omega
  have B2 := btrans b1 b2
  have hs := smed_any g n c f w2 in2 lt2 (by omega) hLc
  obtain ⟨X, hX⟩ : ∃ X, Hid (med n f = X) := ⟨_, rfl⟩
  rw [hX.out] at hs ⊢
  clear in1 lt1 b1 b2
  go_wp2_with fail
  refine hs.mono ?_
  rintro e w3 ⟨rfl, b3⟩
  have in3 := in2.below b3 lt2
  have lt3 : g < w3.heap.size := by have := b3.size; omega
  have B3 := btrans B2 b3
  clear in2 lt2 b3 B2 hs
  have c513 : IntsIn (w3.alloc (.cells #[.int .i64 5, .int .i64 1, .int .i64 3] 3)) w3.heap.size 0 3 f513 := fun k hk => by
    obtain rfl | rfl | rfl : k = 0 ∨ k = 1 ∨ k = 2 := by omega
    all_goals simp [f513]
  have in4 := in3.below (balloc (.cells #[.int .i64 5, .int .i64 1, .int .i64 3] 3) (Below.refl _ _)) lt3
  have lt4 : g < (w3.alloc (.cells #[.int .i64 5, .int .i64 1, .int .i64 3] 3)).heap.size := by simp; omega
  have B4 := balloc (.cells #[.int .i64 5, .int .i64 1, .int .i64 3] 3) B3
  have hq := fmed_any w3.heap.size 3 3 f513 _ c513 (by omega) (Nat.le_refl _)
  rw [med513] at hq
  clear in3 lt3 B3 c513
  go_wp2_with fail
  refine hq.mono ?_
  rintro e w5 ⟨rfl, b5⟩
  have in5 := in4.below b5 lt4
  have B5 := btrans B4 b5
  clear in4 lt4 b5 B4 hq
  by_cases h3 : n < 3
  · have j1 : (n : Int) < 3 := by omega
    by_cases h0 : 0 < n
    · have j2 : (0 : Int) < (n : Int) := by omega
      go_wp2
      go_ret
      exact ⟨rfl, B5⟩
    · obtain rfl : n = 0 := by omega
      obtain rfl : (0 : Int) = X := hX.out
      go_wp2
      go_ret
      exact ⟨rfl, B5⟩
  · have j1 : ¬ (n : Int) < 3 := by omega
    obtain ⟨m, rfl⟩ : ∃ m, n = m + 3 := ⟨n - 3, by omega⟩
    have hc : (isr (sf f m) 3).getD 1 0 = X := by
      have := hX.out
      unfold med at this
      rwa [show m + 3 - 3 = m by omega, show min (m + 3) 3 = 3 by omega] at this
    obtain ⟨q1, q2, q3⟩ := cnt3 (sf f m) X hc
    clear hc hX
    have i1 : IntKind.i64.wrap (((m + 3 : Nat) : Int) - 3) = (m : Int) := by rw [IntKind.wrap_i64]; omega
    go_wp2_with fail
    go_loopw [6, 7, 8, 9] (fun ab be fo iv wr => ∃ j : Nat, j ≤ 3 ∧ iv = .int .i64 ((m + j : Nat) : Int) ∧ ab = .int .i64 ((cntA (sf f m) X j : Nat) : Int) ∧ be = .int .i64 ((cntB (sf f m) X j : Nat) : Int) ∧ fo = .bool (fnd (sf f m) X j) ∧ wr = w5) (fun _ _ _ iv _ => m + 3 - (intOf iv).toNat)
    case atStart => exact ⟨0, by omega, rfl, rfl, rfl, rfl, rfl⟩
    case round =>
      obtain ⟨j, hj, rfl, rfl, rfl, rfl, hw⟩ := hrel
      obtain rfl := hw.symm
      clear hw i1 j1
      by_cases hlt : j < 3
      · have c0 : w5.cell? ⟨g, m + j, none⟩ = some (.int .i64 (sf f m j)) := by have := in5 (m + j) (by omega); rwa [Nat.zero_add] at this
        have la := cntA_le (sf f m) X j
        have lb := cntB_le (sf f m) X j
        have ea : Hid (cntA (sf f m) X (j + 1) = cntA (sf f m) X j + (if X ≤ sf f m j then 1 else 0)) := rfl
        have eb : Hid (cntB (sf f m) X (j + 1) = cntB (sf f m) X j + (if sf f m j ≤ X then 1 else 0)) := rfl
        have ef : Hid (fnd (sf f m) X (j + 1) = (fnd (sf f m) X j || decide (sf f m j = X))) := rfl
        have k1 : ((m + j : Nat) : Int) < ((m + 3 : Nat) : Int) := by omega
        have k2 : (0 : Int) ≤ ((m + j : Nat) : Int) := by omega
        clear q1 q2 q3
        generalize cntA (sf f m) X j = ca at *
        generalize cntB (sf f m) X j = cb at *
        generalize fnd (sf f m) X j = fo at *
        obtain ⟨y, hy⟩ : ∃ y, Hid (sf f m j = y) := ⟨_, rfl⟩
        rw [hy.out] at c0
        unfold Hid at ea eb ef
        rw [hy.out] at ea eb ef
        rcases Int.lt_trichotomy y X with t | t | t
        · have ta : ¬ X ≤ y := by omega
          have tb : y ≤ X := by omega
          have te : ¬ y = X := by omega
          have ea' : Hid (cntA (sf f m) X (j + 1) = ca) := by unfold Hid; rw [ea, if_neg ta, Nat.add_zero]
          have eb' : Hid (cntB (sf f m) X (j + 1) = cb + 1) := by unfold Hid; rw [eb, if_pos tb]
          have ef' : Hid (fnd (sf f m) X (j + 1) = fo) := by unfold Hid; rw [ef, decide_eq_false te, Bool.or_false]
          clear ea eb ef
          cases fo
          all_goals
            go_wp2
            go_roundw
            case rel => exact ⟨j + 1, by omega, by go_num, by rw [ea'.out], by rw [eb'.out]; go_num, by (rw [ef'.out]; try exact congrArg Value.bool (beq_false_of_ne te)), by simp⟩
            case measure => simp [intOf]; omega
        · subst t
          have tt : y ≤ y := Int.le_refl _
          have ea' : Hid (cntA (sf f m) y (j + 1) = ca + 1) := by unfold Hid; rw [ea, if_pos tt]
          have eb' : Hid (cntB (sf f m) y (j + 1) = cb + 1) := by unfold Hid; rw [eb, if_pos tt]
          have ef' : Hid (fnd (sf f m) y (j + 1) = true) := by unfold Hid; rw [ef]; simp
          clear ea eb ef
          cases fo
          all_goals
            go_wp2
            go_roundw
            case rel => exact ⟨j + 1, by omega, by go_num, by rw [ea'.out]; go_num, by rw [eb'.out]; go_num, by rw [ef'.out], by simp⟩
            case measure => simp [intOf]; omega
        · have ta : X ≤ y := by omega
          have tb : ¬ y ≤ X := by omega
          have te : ¬ y = X := by omega
          have ea' : Hid (cntA (sf f m) X (j + 1) = ca + 1) := by unfold Hid; rw [ea, if_pos ta]
          have eb' : Hid (cntB (sf f m) X (j + 1) = cb) := by unfold Hid; rw [eb, if_neg tb, Nat.add_zero]
          have ef' : Hid (fnd (sf f m) X (j + 1) = fo) := by unfold Hid; rw [ef, decide_eq_false te, Bool.or_false]
          clear ea eb ef
          cases fo
          all_goals
            go_wp2
            go_roundw
            case rel => exact ⟨j + 1, by omega, by go_num, by rw [ea'.out]; go_num, by rw [eb'.out], by (rw [ef'.out]; try exact congrArg Value.bool (beq_false_of_ne te)), by simp⟩
            case measure => simp [intOf]; omega
      · obtain rfl : j = 3 := by omega
        rw [q1]
        generalize cntA (sf f m) X 3 = ca at *
        generalize cntB (sf f m) X 3 = cb at *
        have z1 : (2 : Int) ≤ (ca : Int) := by omega
        have z2 : (2 : Int) ≤ (cb : Int) := by omega
        go_wp2
        go_ret
        exact ⟨rfl, B5⟩
end Go.Proofs.Ytgjnpkfbbgpmaaa
