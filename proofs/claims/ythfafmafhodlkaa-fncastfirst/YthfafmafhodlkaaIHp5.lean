/- The library's heap: an item more, the first one less. -/
import Derived.Test.YthfafmafhodlkaaIHp4
import Derived.Test.YthfafmafhodlkaaIHp1b
namespace Go.Proofs.Ythfafmafhodlkaa.I
open Go.ChangeShapes Go.WideShapes Go.ChangeAt Go.RowKit
attribute [local go_sem ↓] Go.wp_at_zero Go.wp_at_succ
theorem rh_append {H : List It} {x : It} : ∀ k, k < H.length → rh (H ++ [x]) k = rh H k := fun k hk => by
  unfold rh List.getD
  rw [List.getElem?_append_left hk]
set_option maxRecDepth 20000 in
set_option maxHeartbeats 4000000 in
theorem push_any (base p : Nat) (H : List It) (x : It) (w : World) (h : HS w base p H) (hn : H.length ≤ 900) (hok : ∀ y ∈ H, okI y) (hx : okI x) (hH : Hp (rh H) H.length) :
    Calls Try.prog 38 #[.iface 66 (.pointer (some ⟨p, 0, none⟩)), .iface 36 (ival x)] w fun e w' => (∃ v, e = .returned v) ∧ ∃ H', HS w' base p H' ∧ H'.Perm (H ++ [x]) ∧ Hp (rh H') H'.length ∧ Below base w w' := by
  have hm := m_push p w
  have hok2 : Hid (∀ y ∈ H ++ [x], okI y) := fun y hy => by
    rcases List.mem_append.1 hy with hy | hy
    · exact hok y hy
    · simp at hy; subst hy; exact hx
  have hokH : Hid _ := hok
  clear hok
  go_enter Try.func38, Try.ntmps38
  go_wp2_with fail
  refine (hpush_any base p H x w h (by omega)).mono ?_
  rintro e w1 ⟨⟨v1, rfl⟩, h1, B1⟩
  obtain ⟨g, cap, hB, ho, hbp, hbw, hbg, hgp⟩ := h1.at (by simp)
  have hl : (H ++ [x]).length = H.length + 1 := by simp
  have hU := hp_up hH (fun k hk => rh_append (x := x) k hk)
  rw [← hl] at hU
  have hup := up_any base p (H ++ [x]) H.length w1 h1 (by rw [hl]; omega) (by rw [hl]; omega) hok2.out hU
  rw [hl] at hB
  have hm1 := m_len hB
  generalize H.length = n at *
  have k1 : ((n + 1 : Nat) : Int) - 1 = (n : Int) := by omega
  clear hm hl ho hU
  go_wp2_with fail
  refine (len_any _ _ _ _).mono ?_
  rintro e w2 ⟨rfl, hw⟩
  obtain rfl := hw.symm
  go_wp2_with fail
  refine hup.mono ?_
  rintro e w3 ⟨⟨v3, rfl⟩, H', h3, hp, hH', B3⟩
  go_wp2
  go_end0
  exact ⟨⟨_, rfl⟩, H', h3, hp, hH', low_trans B1 B3⟩
theorem swap_two (base g n cap : Nat) (H : List It) (x y : It) (i j : Nat) (w : World) (h : w.ownsRow base 36 5 (.slice (some ⟨g, 0, none⟩) n cap) n (fl H)) (hx : H[i]? = some x) (hy : H[j]? = some y) :
    Calls Try.prog 73 #[.slice (some ⟨g, 0, none⟩) n cap, .int .i64 (i : Int), .int .i64 (j : Int)] w fun e w' => (∃ v, e = .returned v) ∧ w'.ownsRow base 36 5 (.slice (some ⟨g, 0, none⟩) n cap) n (fl ((H.set i y).set j x)) ∧ w.grownBy w' (some g) := by
  by_cases e : i = j
  · subst e
    obtain rfl : x = y := by rw [hx] at hy; cases hy; rfl
    rw [set_same_at hx, set_same_at hx]
    exact swap_same base g n cap H x i w h hx
  · exact swap_any base g n cap H x y i j w h hx hy e
theorem sw_same (H : List It) (i : Nat) {x : It} (hx : H[i]? = some x) : Sw (rh H) (rh ((H.set i x).set i x)) i i := by
  rw [set_same_at hx, set_same_at hx]
  exact ⟨rfl, rfl, fun _ _ _ => rfl⟩
theorem sw_two {H : List It} {i j : Nat} {x y : It} (hi : H[i]? = some x) (hj : H[j]? = some y) : Sw (rh H) (rh ((H.set i y).set j x)) i j := by
  by_cases e : i = j
  · subst e
    obtain rfl : x = y := by rw [hi] at hj; cases hj; rfl
    exact sw_same H i hi
  · exact sw_set hi hj e
set_option maxRecDepth 20000 in
set_option maxHeartbeats 4000000 in
theorem pop_any (base p : Nat) (H : List It) (w : World) (h : HS w base p H) (h0 : 0 < H.length) (hn : H.length ≤ 900) (hok : ∀ y ∈ H, okI y) (hH : Hp (rh H) H.length) :
    Calls Try.prog 40 #[.iface 66 (.pointer (some ⟨p, 0, none⟩))] w fun e w' => ∃ x H', e = .returned (.iface 36 (ival x)) ∧ HS w' base p H' ∧ (x :: H').Perm H ∧ Hp (rh H') H'.length ∧ (∀ y ∈ H', rk x ≤ rk y) ∧ Below base w w' := by
  obtain ⟨n, hl⟩ : ∃ n, Hid (H.length = n + 1) := ⟨H.length - 1, by unfold Hid; omega⟩
  obtain ⟨x, hx⟩ : ∃ x, Hid (H[0]? = some x) := ⟨_, List.getElem?_eq_getElem h0⟩
  obtain ⟨y, hy⟩ : ∃ y, Hid (H[n]? = some y) := ⟨_, List.getElem?_eq_getElem (by have := hl.out; omega)⟩
  obtain ⟨g, cap, hB, ho, hbp, hbw, hbg, hgp⟩ := h.at h0
  rw [hl.out] at hH hB ho hn
  have hm1 := m_len hB
  have hm2 := m_swap hB
  have k1 : ((n + 1 : Nat) : Int) - 1 = (n : Int) := by omega
  have hS := swap_two base g (n + 1) cap H x y 0 n w ho hx.out hy.out
  have hmin : Hid (∀ z ∈ H, rk x ≤ rk z) := fun z hz => by
    obtain ⟨k, hk, e⟩ := List.getElem_of_mem hz
    have := hp_min hH k k (Nat.le_refl _) (by have := hl.out; omega)
    rwa [rh_at hx.out, rh_at (x := z) (by rw [List.getElem?_eq_getElem hk, e])] at this
  have hokH : Hid _ := hok
  clear hok h0
  go_enter Try.func40, Try.ntmps40
  go_wp2_with fail
  refine (len_any _ _ _ _).mono ?_
  rintro e w1 ⟨rfl, hw⟩
  obtain rfl := hw.symm
  go_wp2_with fail
  refine hS.mono ?_
  rintro e w2 ⟨⟨v2, rfl⟩, ho2, g2⟩
  have hp2 : Hid (((H.set 0 y).set n x).Perm H) := swap_perm H 0 n x y hx.out hy.out
  have hD := hp_dn hH (sw_two hx.out hy.out)
  have hl2 : ((H.set 0 y).set n x).length = n + 1 := by simp; exact hl.out
  have hx2 : Hid (((H.set 0 y).set n x)[n]? = some x) := by
    unfold Hid
    rw [List.getElem?_set_self (by simp; have := hl.out; omega)]
  have hs2 : HS w2 base p ((H.set 0 y).set n x) := ⟨_, hB.kept g2 (by simp; omega), by rw [hl2]; exact ho2, hbp, Nat.le_trans hbw g2.size⟩
  have B2 := below_grown g2 hbg hbw
  have hd := down_any base p _ n w2 hs2 hl2 (by omega) (fun z hz => hokH.out z (hp2.out.mem_iff.1 hz)) hD
  generalize (H.set 0 y).set n x = H2 at *
  clear hS hm1 hm2 hB ho h hl2 hs2
  go_wp2_with fail
  refine hd.mono ?_
  rintro e w3 ⟨⟨v3, rfl⟩, H3, h3, hp3, hH3, hlast, B3⟩
  rw [hx2.out] at hlast
  have hl3 : H3.length = n + 1 := by rw [hp3.length_eq, hp2.out.length_eq, hl.out]
  obtain ⟨H4, e4, hl4⟩ : ∃ H4, H3 = H4 ++ [x] ∧ H4.length = n := by
    refine ⟨H3.take n, ?_, by simp; omega⟩
    have e1 := List.take_append_drop n H3
    have e2 : H3.drop n = [x] := by
      obtain ⟨hq, eq⟩ := List.getElem?_eq_some_iff.1 hlast
      rw [List.drop_eq_getElem_cons hq, eq, List.drop_of_length_le (by omega)]
    rw [e2] at e1
    exact e1.symm
  subst e4
  have hpp := hpop_any base p H4 x w3 h3 (by omega)
  have hm := m_pop p w3
  have hper : Hid ((x :: H4).Perm H) := (List.perm_append_comm (l₁ := [x]) (l₂ := H4)).trans (hp3.trans hp2.out)
  have hHp : Hp (rh H4) H4.length := by rw [hl4]; exact hp_less hH3 (Nat.le_refl _) (fun k hk => (rh_append k (by omega)).symm)
  clear hd hlast hl3 hl4 h3 hp3 hH3
  go_wp2_with fail
  refine hpp.mono ?_
  rintro e w4 ⟨rfl, h4, B4⟩
  go_wp2
  go_ret
  exact ⟨x, H4, rfl, h4, hper.out, hHp, fun z hz => hmin.out z (hper.out.mem_iff.1 (List.mem_cons_of_mem _ hz)), low_trans (low_trans B2 B3) B4⟩
end Go.Proofs.Ythfafmafhodlkaa.I
