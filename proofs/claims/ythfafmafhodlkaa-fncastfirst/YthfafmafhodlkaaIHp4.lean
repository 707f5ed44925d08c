/- The library's heap: down, an item more, the first one less. -/
import Derived.Test.YthfafmafhodlkaaIHp3
namespace Go.Proofs.Ythfafmafhodlkaa.I
open Go.ChangeShapes Go.WideShapes Go.ChangeAt Go.RowKit
attribute [local go_sem ↓] Go.wp_at_zero Go.wp_at_succ
theorem less_hs {w : World} {base p : Nat} {H : List It} (j i : Nat) (x y : It) (hx : H[j]? = some x) (hy : H[i]? = some y) (hok : ∀ x ∈ H, okI x) :
    ∀ g cap, Boxed w p 67 (.slice (some ⟨g, 0, none⟩) H.length cap) → w.ownsRow base 36 5 (.slice (some ⟨g, 0, none⟩) H.length cap) H.length (fl H) →
    Calls Try.prog 70 #[.slice (some ⟨g, 0, none⟩) H.length cap, .int .i64 ((j : Nat) : Int), .int .i64 ((i : Nat) : Int)] w fun e w' => e = .returned (.bool (decide (rk x < rk y))) ∧ Below w.heap.size w w' := fun g cap hB ho => by
  obtain ⟨c0, c1, c2, c3, c4⟩ := row_at ho hx
  obtain ⟨d0, d1, d2, d3, d4⟩ := row_at ho hy
  have hL := less_any g H.length cap x y j i w (List.getElem?_eq_some_iff.1 hx).1 (List.getElem?_eq_some_iff.1 hy).1 c0 c1 c2 c3 c4 d0 d1 d2 d3 d4
  rw [bef_rk (hok x (List.mem_of_getElem? hx)) (hok y (List.mem_of_getElem? hy))] at hL
  exact hL
set_option maxRecDepth 20000 in
set_option maxHeartbeats 8000000 in
theorem down_any (base p : Nat) (H : List It) (n : Nat) (w : World) (h : HS w base p H) (hl : H.length = n + 1) (hn : n ≤ 1000) (hok : ∀ x ∈ H, okI x) (hU : DnI (rh H) n 0) :
    Calls Try.prog 48 #[.iface 66 (.pointer (some ⟨p, 0, none⟩)), .int .i64 0, .int .i64 (n : Int)] w fun e w' => (∃ v, e = .returned v) ∧ ∃ H', HS w' base p H' ∧ H'.Perm H ∧ Hp (rh H') n ∧ H'[n]? = H[n]? ∧ Below base w w' := by
  have hlH : Hid _ := hl
  have hokH : Hid _ := hok
  clear hl hok
  go_enter Try.func48, Try.ntmps48
  go_wp2_with fail
  go_loopw [7] (fun x wr => ∃ (i : Nat) (H' : List It), x = .int .i64 i ∧ i ≤ n ∧ H'.Perm H ∧ Hid (H'[n]? = H[n]?) ∧ DnI (rh H') n i ∧ HS wr base p H' ∧ Below base w wr) (fun x _ => n + 1 - (intOf x).toNat)
  case atStart => exact ⟨0, H, rfl, Nat.zero_le _, List.Perm.refl _, rfl, hU, h, Below.refl _ _⟩
  case round =>
    obtain ⟨i, H', rfl, hjl, hp, hlast, hu, hs, hb⟩ := hrel
    have hlen : n < H'.length := by have := hp.length_eq; have := hlH.out; omega
    have hok' : Hid (∀ x ∈ H', okI x) := fun x hx => hokH.out x (hp.mem_iff.1 hx)
    obtain ⟨j1, hj1⟩ : ∃ j1, j1 = 2 * i + 1 := ⟨_, rfl⟩
    obtain ⟨j2, hj2⟩ : ∃ j2, j2 = j1 + 1 := ⟨_, rfl⟩
    have u1 : 2 * (i : Int) + 1 = (j1 : Int) := by omega
    have u2 : (j1 : Int) + 1 = (j2 : Int) := by omega
    have l1 : 2 * i + 1 ≤ j1 := by omega
    have l2 : j1 ≤ 2 * i + 1 := by omega
    have l3 : j1 + 1 ≤ j2 := by omega
    have l4 : j2 ≤ j1 + 1 := by omega
    clear hj1 hj2
    by_cases h1 : j1 < n
    · have k1 : ¬ (n : Int) ≤ (j1 : Int) := by omega
      have k3 : ¬ (j1 : Int) < 0 := by omega
      by_cases h2 : j2 < n
      · have k2 : (j2 : Int) < (n : Int) := by omega
        obtain ⟨x1, hx1⟩ : ∃ x, Hid (H'[j2]? = some x) := ⟨_, List.getElem?_eq_getElem (by omega)⟩
        obtain ⟨y1, hy1⟩ : ∃ y, Hid (H'[j1]? = some y) := ⟨_, List.getElem?_eq_getElem (by omega)⟩
        obtain ⟨g1, cap1, hB1, ho1, -, hbw1, -, -⟩ := hs.at (by omega)
        have hL1 := less_hs j2 j1 x1 y1 hx1.out hy1.out hok'.out g1 cap1 hB1 ho1
        have hm1 := m_less hB1
        obtain ⟨q1, hq1⟩ : ∃ q, Hid (decide (rk x1 < rk y1) = q) := ⟨_, rfl⟩
        rw [hq1.out] at hL1
        cases q1
        · go_wp2_with fail
          refine hL1.mono ?_
          rintro e w1 ⟨rfl, b1⟩
          replace hs := hs.below b1
          replace hb := low_trans hb (b1.mono hbw1)
          clear hL1 hm1 hB1 ho1 b1 hbw1
          have hmin : Hid (∀ k, 0 < k → k < n → (k - 1) / 2 = i → rh H' (j1) ≤ rh H' k) := fun k k0 kn kp => by
            have := of_decide_eq_false hq1.out
            have h1 := rh_at hx1.out
            have h2 := rh_at hy1.out
            rcases (show k = j1 ∨ k = j2 by omega) with e | e <;> subst e <;> omega
          clear hx1 hy1 hq1
          have ij : i ≠ j1 := by omega
          obtain ⟨x, hx⟩ : ∃ x, Hid (H'[j1]? = some x) := ⟨_, List.getElem?_eq_getElem (by omega)⟩
          obtain ⟨y, hy⟩ : ∃ y, Hid (H'[i]? = some y) := ⟨_, List.getElem?_eq_getElem (by omega)⟩
          obtain ⟨g, cap, hB, ho, hbp, hbw, hbg, hgp⟩ := hs.at (by omega)
          have hL := less_hs j1 i x y hx.out hy.out hok'.out g cap hB ho
          have hm := m_less hB
          obtain ⟨q, hq⟩ : ∃ q, Hid (decide (rk x < rk y) = q) := ⟨_, rfl⟩
          rw [hq.out] at hL
          cases q
          · go_wp2_with fail
            refine hL.mono ?_
            rintro e w3 ⟨rfl, b3⟩
            have hs3 := hs.below b3
            have B3 := low_trans hb (b3.mono hbw)
            clear hL hm hB ho hs b3
            go_wp2
            go_ret
            refine ⟨⟨_, rfl⟩, H', hs3, hp, dn_end hu (fun k k0 kn kp => ?_), hlast.out, B3⟩
            have := of_decide_eq_false hq.out
            have h1 := hmin.out k k0 kn kp
            rw [rh_at hx.out] at h1
            rw [rh_at hy.out]
            omega
          · go_wp2_with fail
            refine hL.mono ?_
            rintro e w3 ⟨rfl, b3⟩
            have hB3 := Boxed.below hB b3
            have ho3 := own_below ho b3
            have B3 := low_trans hb (b3.mono hbw)
            have hm3 := m_swap hB3
            have hbw3 : base ≤ w3.heap.size := Nat.le_trans hbw b3.size
            have hS := swap_any base g H'.length cap H' y x i j1 w3 ho3 hy.out hx.out ij
            clear hL hm hB ho hs b3 hb
            go_wp2_with fail
            refine hS.mono ?_
            rintro e w4 ⟨⟨v4, rfl⟩, ho4, g4⟩
            have hB4 : Boxed w4 p 67 _ := hB3.kept g4 (by simp; omega)
            have B4 := low_trans B3 (below_grown g4 hbg hbw3)
            clear hS hm3 hB3 ho3
            go_wp2
            go_roundw
            case rel =>
              refine ⟨j1, (H'.set i x).set (j1) y, by go_num, by omega, (swap_perm H' i (j1) y x hy.out hx.out).trans hp, ?_, ?_, ⟨_, by simpa using hB4, by simpa using ho4, hbp, Nat.le_trans hbw3 g4.size⟩, B4⟩
              · show Hid _
                unfold Hid
                rw [List.getElem?_set_ne (by omega), List.getElem?_set_ne (by omega)]
                exact hlast.out
              · exact dn_step hu (by omega) (by omega) (by omega) (by rw [rh_at hx.out, rh_at hy.out]; exact of_decide_eq_true hq.out) hmin.out (sw_set hy.out hx.out ij)
            case measure => simp [intOf]; omega
        · go_wp2_with fail
          refine hL1.mono ?_
          rintro e w1 ⟨rfl, b1⟩
          replace hs := hs.below b1
          replace hb := low_trans hb (b1.mono hbw1)
          clear hL1 hm1 hB1 ho1 b1 hbw1
          have hmin : Hid (∀ k, 0 < k → k < n → (k - 1) / 2 = i → rh H' (j2) ≤ rh H' k) := fun k k0 kn kp => by
            have := of_decide_eq_true hq1.out
            have h1 := rh_at hx1.out
            have h2 := rh_at hy1.out
            rcases (show k = j1 ∨ k = j2 by omega) with e | e <;> subst e <;> omega
          clear hx1 hy1 hq1
          have ij : i ≠ j2 := by omega
          obtain ⟨x, hx⟩ : ∃ x, Hid (H'[j2]? = some x) := ⟨_, List.getElem?_eq_getElem (by omega)⟩
          obtain ⟨y, hy⟩ : ∃ y, Hid (H'[i]? = some y) := ⟨_, List.getElem?_eq_getElem (by omega)⟩
          obtain ⟨g, cap, hB, ho, hbp, hbw, hbg, hgp⟩ := hs.at (by omega)
          have hL := less_hs j2 i x y hx.out hy.out hok'.out g cap hB ho
          have hm := m_less hB
          obtain ⟨q, hq⟩ : ∃ q, Hid (decide (rk x < rk y) = q) := ⟨_, rfl⟩
          rw [hq.out] at hL
          cases q
          · go_wp2_with fail
            refine hL.mono ?_
            rintro e w3 ⟨rfl, b3⟩
            have hs3 := hs.below b3
            have B3 := low_trans hb (b3.mono hbw)
            clear hL hm hB ho hs b3
            go_wp2
            go_ret
            refine ⟨⟨_, rfl⟩, H', hs3, hp, dn_end hu (fun k k0 kn kp => ?_), hlast.out, B3⟩
            have := of_decide_eq_false hq.out
            have h1 := hmin.out k k0 kn kp
            rw [rh_at hx.out] at h1
            rw [rh_at hy.out]
            omega
          · go_wp2_with fail
            refine hL.mono ?_
            rintro e w3 ⟨rfl, b3⟩
            have hB3 := Boxed.below hB b3
            have ho3 := own_below ho b3
            have B3 := low_trans hb (b3.mono hbw)
            have hm3 := m_swap hB3
            have hbw3 : base ≤ w3.heap.size := Nat.le_trans hbw b3.size
            have hS := swap_any base g H'.length cap H' y x i j2 w3 ho3 hy.out hx.out ij
            clear hL hm hB ho hs b3 hb
            go_wp2_with fail
            refine hS.mono ?_
            rintro e w4 ⟨⟨v4, rfl⟩, ho4, g4⟩
            have hB4 : Boxed w4 p 67 _ := hB3.kept g4 (by simp; omega)
            have B4 := low_trans B3 (below_grown g4 hbg hbw3)
            clear hS hm3 hB3 ho3
            go_wp2
            go_roundw
            case rel =>
              refine ⟨j2, (H'.set i x).set (j2) y, by go_num, by omega, (swap_perm H' i (j2) y x hy.out hx.out).trans hp, ?_, ?_, ⟨_, by simpa using hB4, by simpa using ho4, hbp, Nat.le_trans hbw3 g4.size⟩, B4⟩
              · show Hid _
                unfold Hid
                rw [List.getElem?_set_ne (by omega), List.getElem?_set_ne (by omega)]
                exact hlast.out
              · exact dn_step hu (by omega) (by omega) (by omega) (by rw [rh_at hx.out, rh_at hy.out]; exact of_decide_eq_true hq.out) hmin.out (sw_set hy.out hx.out ij)
            case measure => simp [intOf]; omega
      · have k2 : ¬ (j2 : Int) < (n : Int) := by omega
        have hmin : Hid (∀ k, 0 < k → k < n → (k - 1) / 2 = i → rh H' (j1) ≤ rh H' k) := fun k k0 kn kp => by
          obtain rfl : k = j1 := by omega
          exact Int.le_refl _
        have ij : i ≠ j1 := by omega
        obtain ⟨x, hx⟩ : ∃ x, Hid (H'[j1]? = some x) := ⟨_, List.getElem?_eq_getElem (by omega)⟩
        obtain ⟨y, hy⟩ : ∃ y, Hid (H'[i]? = some y) := ⟨_, List.getElem?_eq_getElem (by omega)⟩
        obtain ⟨g, cap, hB, ho, hbp, hbw, hbg, hgp⟩ := hs.at (by omega)
        have hL := less_hs j1 i x y hx.out hy.out hok'.out g cap hB ho
        have hm := m_less hB
        obtain ⟨q, hq⟩ : ∃ q, Hid (decide (rk x < rk y) = q) := ⟨_, rfl⟩
        rw [hq.out] at hL
        cases q
        · go_wp2_with fail
          refine hL.mono ?_
          rintro e w3 ⟨rfl, b3⟩
          have hs3 := hs.below b3
          have B3 := low_trans hb (b3.mono hbw)
          clear hL hm hB ho hs b3
          go_wp2
          go_ret
          refine ⟨⟨_, rfl⟩, H', hs3, hp, dn_end hu (fun k k0 kn kp => ?_), hlast.out, B3⟩
          have := of_decide_eq_false hq.out
          have h1 := hmin.out k k0 kn kp
          rw [rh_at hx.out] at h1
          rw [rh_at hy.out]
          omega
        · go_wp2_with fail
          refine hL.mono ?_
          rintro e w3 ⟨rfl, b3⟩
          have hB3 := Boxed.below hB b3
          have ho3 := own_below ho b3
          have B3 := low_trans hb (b3.mono hbw)
          have hm3 := m_swap hB3
          have hbw3 : base ≤ w3.heap.size := Nat.le_trans hbw b3.size
          have hS := swap_any base g H'.length cap H' y x i j1 w3 ho3 hy.out hx.out ij
          clear hL hm hB ho hs b3 hb
          go_wp2_with fail
          refine hS.mono ?_
          rintro e w4 ⟨⟨v4, rfl⟩, ho4, g4⟩
          have hB4 : Boxed w4 p 67 _ := hB3.kept g4 (by simp; omega)
          have B4 := low_trans B3 (below_grown g4 hbg hbw3)
          clear hS hm3 hB3 ho3
          go_wp2
          go_roundw
          case rel =>
            refine ⟨j1, (H'.set i x).set (j1) y, by go_num, by omega, (swap_perm H' i (j1) y x hy.out hx.out).trans hp, ?_, ?_, ⟨_, by simpa using hB4, by simpa using ho4, hbp, Nat.le_trans hbw3 g4.size⟩, B4⟩
            · show Hid _
              unfold Hid
              rw [List.getElem?_set_ne (by omega), List.getElem?_set_ne (by omega)]
              exact hlast.out
            · exact dn_step hu (by omega) (by omega) (by omega) (by rw [rh_at hx.out, rh_at hy.out]; exact of_decide_eq_true hq.out) hmin.out (sw_set hy.out hx.out ij)
          case measure => simp [intOf]; omega
    · have k1 : (n : Int) ≤ (j1 : Int) := by omega
      go_wp2
      go_ret
      exact ⟨⟨_, rfl⟩, H', hs, hp, dn_end hu (fun k k0 kn kp => by omega), hlast.out, hb⟩
end Go.Proofs.Ythfafmafhodlkaa.I
