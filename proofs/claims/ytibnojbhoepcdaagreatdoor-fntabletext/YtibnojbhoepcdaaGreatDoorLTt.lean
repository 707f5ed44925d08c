/- A table can be written and read again without a change: the law, walked. -/
import Derived.Test.YtibnojbhoepcdaaGreatDoorDty
import Derived.Test.YtibnojbhoepcdaaGreatDoorPTab
namespace Go.Proofs.YtibnojbhoepcdaaGreatDoor
open Go.ChangeShapes Go.WideShapes Go.ChangeAt Go.RowKit
attribute [local go_sem ↓] Go.wp_at_zero Go.wp_at_succ
theorem opt_same {q q' : Bool} {T T' : List Fc} (h : (if q = true then some T else none) = (if q' = true then some T' else none)) (hn : q = false → T = []) (hn' : q' = false → T' = []) : q' = q ∧ T' = T := by
  cases q <;> cases q' <;> simp_all
set_option maxRecDepth 20000 in
set_option maxHeartbeats 2000000 in
theorem drawTT_any (a : Option Addr) (len cap : Nat) (w : World) (h : Bytes w.heap.size w a len) (hl : len ≤ cap) :
    Calls Tryz.prog 13 #[.slice a len cap] w fun e w' => ∃ a1 c1 T, e = .returned (.slice a1 (T : List Fc).length c1) ∧ FSl w' a1 T.length (atF T) ∧ T.length ≤ 8 ∧ Below w.heap.size w w' := by
  go_enter Tryz.func13, Tryz.ntmps13
  go_wp2_with fail
  refine (open_any w.heap.size a len cap _ (Nat.le_refl _) h hl).mono ?_
  rintro r w1 ⟨rfl, ⟨G, r1⟩, b1, z1⟩
  have r1lt := r1.lt
  obtain ⟨rb, hrb⟩ : ∃ rb, Hid (w.heap.size = rb) := ⟨_, rfl⟩
  rw [hrb.out] at r1 r1lt b1 z1 ⊢
  go_wp2_with fail
  refine (anyTable_any rb rb 0 _ r1 (by omega)).mono ?_
  rintro r w2 ⟨a2, c2, T, q, rfl, hn, o2, hT, hq, r2, f2⟩
  obtain ⟨a', c', e', -, -, hF⟩ := own_facts o2
  simp only [Value.slice.injEq, true_and] at e'
  obtain ⟨rfl, rfl⟩ := e'
  go_wp2
  go_ret
  exact ⟨a2, c2, T, rfl, hF, by omega, by rw [hrb.out]; exact b1.trans (f2.below (Nat.le_refl rb) (Nat.le_of_lt r1lt))⟩
theorem bytes_up2 {w w' : World} {a : Option Addr} {len : Nat} (h : Bytes w.heap.size w a len) (hb : Below w.heap.size w w') : Bytes w'.heap.size w' a len := by
  obtain ⟨f, hf, h⟩ := h.below hb (Nat.le_refl _)
  refine ⟨f, hf, h.imp id ?_⟩
  rintro ⟨b, off, e, hbb, hc⟩
  exact ⟨b, off, e, by have := hb.size; omega, hc⟩
theorem pt_txL (D : List Fc) : pt (bs (txL D)).data.toList = if tokL D = true then some D else none := by
  show pt (txL D) = _
  by_cases h : tokL D = true
  · rw [if_pos h, (say_pt h rfl).1]
  · rw [if_neg h]
    have : txL D = [] := by unfold txL; rw [if_neg h]
    rw [this]
    cases e : pt [] with
    | none => rfl
    | some T =>
      obtain ⟨k1, k2⟩ := pt_say e
      exfalso
      unfold txL at k2
      rw [if_pos k1] at k2
      split at k2
      · cases k2
      · rename_i hne
        have := cut_ttx (tokL_fok k1) hne
        rw [k2] at this
        have h3 := congrArg List.length this
        simp [cutL] at h3
        cases T with
        | nil => exact hne rfl
        | cons f r =>
          have hh : cutL 44 [] = [[]] := rfl
          rw [hh] at this
          simp at this
          have hf := tokL_fok k1 f (by simp)
          have h4 := this.1
          rw [ftx_form] at h4
          simp at h4
theorem str_eq (x y : ByteArray) (h : x = y) : (x.toList == y.toList) = true := by rw [h]; simp
set_option maxRecDepth 20000 in
set_option maxHeartbeats 8000000 in
theorem ttext_walk (a : Option Addr) (len cap : Nat) (am : Option Addr) (lenm capm : Nat) (w : World) (h : Bytes w.heap.size w a len) (hl : len ≤ cap) (hm : Bytes w.heap.size w am lenm) (hlm : lenm ≤ capm) (hp : Pst w) :
    Calls Tryz.prog 3 #[.slice a len cap, .slice am lenm capm] w fun r w' => r = .returned (.bool true) ∧ Below w.heap.size w w' := by
  by_cases hlen : len ≤ 1048576
  · have j0 : ¬ (1048576 : Int) < (len : Int) := by omega
    by_cases hlen2 : lenm ≤ 1048576
    · have j1 : ¬ (1048576 : Int) < (lenm : Int) := by omega
      go_enter Tryz.func3, Tryz.ntmps3
      go_wp2_with fail
      refine (drawTxt_any a len cap _ h hl).mono ?_
      rintro r w1 ⟨s, rfl, hs, B1⟩
      go_wp2_with fail
      refine (tparse_any s (by omega) _ (hp.below B1)).mono ?_
      rintro r w2 ⟨v1, T1, q1, rfl, o1, n1, -, e1, b2⟩
      have B2 := btrans B1 b2
      obtain ⟨a1, c1, rfl, -, -, -⟩ := own_facts o1
      go_wp2_with fail
      refine (sparse_any s (by omega) _).mono ?_
      rintro r w3 ⟨v2, T, q, rfl, o2, n2, hT8, e2, b3⟩
      obtain ⟨hq, hTT⟩ := opt_same (e2.symm.trans ((pt_mt _).symm.trans e1)) n2 n1
      subst hq
      subst hTT
      have B3 := btrans B2 b3
      have oo := own_below o1 b3
      obtain ⟨_, _, qq, -, -, i1⟩ := own_facts oo
      cases qq
      obtain ⟨a2, c2, rfl, -, -, i2⟩ := own_facts o2
      have hsay : Hid (q1 = true → txL T1 = s.data.toList) := fun hq => (mt_say (by rw [e2, if_pos hq])).2
      have e0 : (q1 != q1) = false := by simp
      clear o1 oo o2 n1 n2 e1 e2 b2 b3
      have i1' : FSl w3 a1 T1.length (atF T1) := i1
      cases q1
      · go_wp2_with fail
        refine (lh_same _ _ _ _ _ _ _ i1 i2 hT8).mono ?_
        rintro r w5 ⟨rfl, b5⟩
        have B5 := btrans B3 b5
        replace i1' := i1'.below b5
        clear b5 i1 i2
        go_wp2_with fail
        refine (drawTT_any am lenm capm _ (bytes_up2 hm B5) hlm).mono ?_
        rintro r w7 ⟨a7, c7, D, rfl, iD, hD8, b7⟩
        have B7 := btrans B5 b7
        have hx7 := text_any a7 D.length c7 (atF D) w7 iD (by omega) (hp.below B7).t
        have hs7 := stext_any a7 D.length c7 (atF D)
        rw [txt_txL] at hx7 hs7
        have hsz : (bs (txL D)).size ≤ 200 := by rw [← txt_txL]; exact txt_size _ _ hD8
        have hpt : Hid (pt (bs (txL D)).data.toList = if tokL D = true then some D else none) := pt_txL D
        obtain ⟨s2, hs2⟩ : ∃ s2, Hid (bs (txL D) = s2) := ⟨_, rfl⟩
        rw [hs2.out] at hx7 hs7 hsz hpt
        have hs7H : Hid _ := hs7
        clear hs7 b7
        go_wp2_with fail
        refine hx7.mono ?_
        rintro r w8 ⟨rfl, b8⟩
        have B8 := btrans B7 b8
        replace iD := iD.below b8
        clear b8 hx7
        go_wp2_with fail
        refine (tparse_any s2 (by omega) _ (hp.below B8)).mono ?_
        rintro r w9 ⟨v9, T9, q9, rfl, o9, n9, -, e9, b9⟩
        have B9 := btrans B8 b9
        replace iD := iD.below b9
        obtain ⟨hq9, hT9⟩ := opt_same (q := tokL D) (T := if tokL D = true then D else []) (by rw [← e9, hpt.out]; cases tokL D <;> rfl) (fun h => by rw [h]; rfl) n9
        clear e9 n9 b9 hpt
        cases hk : tokL D
        · rw [hk] at hq9 hT9
          simp only [Bool.false_eq_true, if_false] at hT9
          subst hq9
          subst hT9
          obtain ⟨a9, c9, rfl, -, -, i9⟩ := own_facts o9
          clear o9
          go_wp2_with fail
          refine (hs7H.out _ iD (by omega)).mono ?_
          rintro r w10 ⟨rfl, b10⟩
          have B10 := btrans B9 b10
          replace iD := iD.below b10
          clear b10
          go_wp2_with fail
          refine (stok_litt a7 D.length c7 (atF D) false _ iD (by omega) hk).mono ?_
          rintro r w11 ⟨rfl, b11⟩
          have B11 := btrans B10 b11
          go_wp2
          go_ret
          exact ⟨rfl, B11⟩
        · rw [hk] at hq9 hT9
          simp only [if_true] at hT9
          subst hq9
          subst hT9
          obtain ⟨a9, c9, rfl, -, -, i9⟩ := own_facts o9
          clear o9
          go_wp2_with fail
          refine (hs7H.out _ iD (by omega)).mono ?_
          rintro r w10 ⟨rfl, b10⟩
          have B10 := btrans B9 b10
          replace iD := iD.below b10
          replace i9 := i9.below b10
          clear b10
          go_wp2_with fail
          refine (stok_litt a7 T9.length c7 (atF T9) true _ iD (by omega) hk).mono ?_
          rintro r w11 ⟨rfl, b11⟩
          have B11 := btrans B10 b11
          replace iD := iD.below b11
          replace i9 := i9.below b11
          go_wp2_with fail
          refine (lh_same _ _ _ _ _ _ _ i9 iD (by omega)).mono ?_
          rintro r w12 ⟨rfl, b12⟩
          go_wp2
          go_ret
          exact ⟨rfl, btrans B11 b12⟩
      · go_wp2_with fail
        refine (lh_same _ _ _ _ _ _ _ i1 i2 hT8).mono ?_
        rintro r w5 ⟨rfl, b5⟩
        have B5 := btrans B3 b5
        replace i1' := i1'.below b5
        clear b5 i1 i2
        have hx := text_any a1 T1.length c1 (atF T1) w5 i1' hT8 (hp.below B5).t
        rw [txt_txL] at hx
        have hxe : (s.toList == s.toList) = true := by simp
        have hxb : bs (txL T1) = s := by rw [hsay.out (by trivial)]
        rw [hxb] at hx
        clear hxb hsay
        go_wp2_with fail
        refine hx.mono ?_
        rintro r w6 ⟨rfl, b6⟩
        have B6 := btrans B5 b6
        clear b6 hx
        go_wp2_with fail
        refine (drawTT_any am lenm capm _ (bytes_up2 hm B6) hlm).mono ?_
        rintro r w7 ⟨a7, c7, D, rfl, iD, hD8, b7⟩
        have B7 := btrans B6 b7
        have hx7 := text_any a7 D.length c7 (atF D) w7 iD (by omega) (hp.below B7).t
        have hs7 := stext_any a7 D.length c7 (atF D)
        rw [txt_txL] at hx7 hs7
        have hsz : (bs (txL D)).size ≤ 200 := by rw [← txt_txL]; exact txt_size _ _ hD8
        have hpt : Hid (pt (bs (txL D)).data.toList = if tokL D = true then some D else none) := pt_txL D
        obtain ⟨s2, hs2⟩ : ∃ s2, Hid (bs (txL D) = s2) := ⟨_, rfl⟩
        rw [hs2.out] at hx7 hs7 hsz hpt
        have hs7H : Hid _ := hs7
        clear hs7 b7
        go_wp2_with fail
        refine hx7.mono ?_
        rintro r w8 ⟨rfl, b8⟩
        have B8 := btrans B7 b8
        replace iD := iD.below b8
        clear b8 hx7
        go_wp2_with fail
        refine (tparse_any s2 (by omega) _ (hp.below B8)).mono ?_
        rintro r w9 ⟨v9, T9, q9, rfl, o9, n9, -, e9, b9⟩
        have B9 := btrans B8 b9
        replace iD := iD.below b9
        obtain ⟨hq9, hT9⟩ := opt_same (q := tokL D) (T := if tokL D = true then D else []) (by rw [← e9, hpt.out]; cases tokL D <;> rfl) (fun h => by rw [h]; rfl) n9
        clear e9 n9 b9 hpt
        cases hk : tokL D
        · rw [hk] at hq9 hT9
          simp only [Bool.false_eq_true, if_false] at hT9
          subst hq9
          subst hT9
          obtain ⟨a9, c9, rfl, -, -, i9⟩ := own_facts o9
          clear o9
          go_wp2_with fail
          refine (hs7H.out _ iD (by omega)).mono ?_
          rintro r w10 ⟨rfl, b10⟩
          have B10 := btrans B9 b10
          replace iD := iD.below b10
          clear b10
          go_wp2_with fail
          refine (stok_litt a7 D.length c7 (atF D) false _ iD (by omega) hk).mono ?_
          rintro r w11 ⟨rfl, b11⟩
          have B11 := btrans B10 b11
          go_wp2
          go_ret
          exact ⟨rfl, B11⟩
        · rw [hk] at hq9 hT9
          simp only [if_true] at hT9
          subst hq9
          subst hT9
          obtain ⟨a9, c9, rfl, -, -, i9⟩ := own_facts o9
          clear o9
          go_wp2_with fail
          refine (hs7H.out _ iD (by omega)).mono ?_
          rintro r w10 ⟨rfl, b10⟩
          have B10 := btrans B9 b10
          replace iD := iD.below b10
          replace i9 := i9.below b10
          clear b10
          go_wp2_with fail
          refine (stok_litt a7 T9.length c7 (atF T9) true _ iD (by omega) hk).mono ?_
          rintro r w11 ⟨rfl, b11⟩
          have B11 := btrans B10 b11
          replace iD := iD.below b11
          replace i9 := i9.below b11
          go_wp2_with fail
          refine (lh_same _ _ _ _ _ _ _ i9 iD (by omega)).mono ?_
          rintro r w12 ⟨rfl, b12⟩
          go_wp2
          go_ret
          exact ⟨rfl, btrans B11 b12⟩
    · have j1 : (1048576 : Int) < (lenm : Int) := by omega
      go_enter Tryz.func3, Tryz.ntmps3
      go_wp2
      go_ret
      exact ⟨rfl, Below.refl _ _⟩
  · have j0 : (1048576 : Int) < (len : Int) := by omega
    go_enter Tryz.func3, Tryz.ntmps3
    go_wp2
    go_ret
    exact ⟨rfl, Below.refl _ _⟩
end Go.Proofs.YtibnojbhoepcdaaGreatDoor
