/- Two tell each other no more than both know, and no less: the law, walked. -/
import Derived.Test.YtogoehaagdldnaaGreatDoorKept
namespace Go.Proofs.YtogoehaagdldnaaGreatDoor
open Go.ChangeShapes Go.WideShapes Go.ChangeAt Go.RowKit
attribute [local go_sem ↓] Go.wp_at_zero Go.wp_at_succ
theorem bytes_upL {w w' : World} {a : Option Addr} {len : Nat} (h : Bytes w.heap.size w a len) (hb : Below w.heap.size w w') : Bytes w'.heap.size w' a len := by
  obtain ⟨f, hf, h⟩ := h.below hb (Nat.le_refl _)
  refine ⟨f, hf, h.imp id ?_⟩
  rintro ⟨b, off, e, hbb, hc⟩
  exact ⟨b, off, e, by have := hb.size; omega, hc⟩
set_option maxRecDepth 20000 in
set_option maxHeartbeats 8000000 in
theorem least_walk (a : Option Addr) (len cap : Nat) (am : Option Addr) (lenm capm : Nat) (w : World) (h : Bytes w.heap.size w a len) (hl : len ≤ cap) (hm : Bytes w.heap.size w am lenm) (hlm : lenm ≤ capm) (ht : Tabs w) :
    Calls Tryz.prog 7 #[.slice a len cap, .slice am lenm capm] w fun r w' => r = .returned (.bool true) ∧ Below w.heap.size w w' := by
  by_cases hlen : len ≤ 1048576
  · have j0 : ¬ (1048576 : Int) < (len : Int) := by omega
    by_cases hlen2 : lenm ≤ 1048576
    · have j1 : ¬ (1048576 : Int) < (lenm : Int) := by omega
      go_enter Tryz.func7, Tryz.ntmps7
      go_wp2_with fail
      refine (drawTJ_any a len cap _ h hl).mono ?_
      rintro r w1 ⟨a1, c1, T, a2, c2, U, rfl, hT, nT, hU, nU, lT, lU, B1⟩
      go_wp2_with fail
      refine (drawTJ_any am lenm capm _ (bytes_upL hm B1) hlm).mono ?_
      rintro r w2 ⟨av, cv, V, av2, cv2, V2, rfl, hV, nV, _, _, lV, _, b2⟩
      have B2 := btrans B1 b2
      replace hT := hT.below b2
      replace nT := nT.below b2
      replace hU := hU.below b2
      replace nU := nU.below b2
      clear b2
      obtain ⟨J, hJ⟩ : ∃ J, Hid (jn T U = J) := ⟨_, rfl⟩
      have lJ : J.length ≤ 8 := by rw [← hJ.out]; exact jn_len _ _
      obtain ⟨K, hK⟩ : ∃ K, Hid (jn V T = K) := ⟨_, rfl⟩
      have lK : K.length ≤ 8 := by rw [← hK.out]; exact jn_len _ _
      obtain ⟨L, hL⟩ : ∃ L, Hid (jn K U = L) := ⟨_, rfl⟩
      have lL : L.length ≤ 8 := by rw [← hL.out]; exact jn_len _ _
      obtain ⟨x, hx⟩ : ∃ x, Hid (txt V.length (gd V) = x) := ⟨_, rfl⟩
      obtain ⟨q, hq⟩ : ∃ q, Hid (okT T = q) := ⟨_, rfl⟩
      obtain ⟨q2, hq2⟩ : ∃ q2, Hid (okT U = q2) := ⟨_, rfl⟩
      obtain ⟨q3, hq3⟩ : ∃ q3, Hid (okT V = q3) := ⟨_, rfl⟩
      have hk1 : q = true → q2 = true → q3 = true → (∀ f ∈ J, fok f = true) ∧ okT L = true ∧ Kp J L ∧ (∀ f ∈ T, fok f = true) ∧ okT J = true ∧ Kp T J ∧ (∀ f ∈ U, fok f = true) ∧ Kp U J := fun h1 h2 h3 => by
        rw [← hq.out] at h1
        rw [← hq2.out] at h2
        rw [← hq3.out] at h3
        have t1 := okT_tbl h1
        have t2 := okT_tbl h2
        have t3 := okT_tbl h3
        have eJ := hJ.out
        have eK := hK.out
        have eL := hL.out
        rw [jn_eq h1 h2] at eJ
        rw [jn_eq h3 h1] at eK
        have tJ := t1.join t2
        have oK : okT K = true := by rw [← eK]; exact tbl_okT (t3.join t1)
        rw [jn_eq oK h2, ← eK, join_assoc t3 t1 t2] at eL
        have tL := t3.join tJ
        have r1 := kp_right t3 tJ
        have r2 := kp_left t1 t2
        have r3 := kp_right t1 t2
        rw [← eL, ← eJ]
        exact ⟨tJ.2, tbl_okT tL, r1, t1.2, tbl_okT tJ, r2, t2.2, r3⟩
      have hk : Hid _ := hk1
      clear hk1
      go_wp2_with fail
      refine (ljoin a1 c1 T a2 c2 U J _ hT hU lT lU hJ.out).mono ?_
      rintro r w3 ⟨a3, c3, rfl, hX, b3⟩
      have B3 := btrans B2 b3
      replace hT := hT.below b3
      replace nT := nT.below b3
      replace hU := hU.below b3
      replace nU := nU.below b3
      replace hV := hV.below b3
      replace nV := nV.below b3
      clear b3
      go_wp2_with fail
      refine (lsjoin a1 c1 T a2 c2 U J _ hT nT hU lT lU hJ.out).mono ?_
      rintro r w4 ⟨a4, c4, rfl, ⟨hY, nY⟩, b4⟩
      have B4 := btrans B3 b4
      replace hT := hT.below b4
      replace nT := nT.below b4
      replace hU := hU.below b4
      replace nU := nU.below b4
      replace hV := hV.below b4
      replace nV := nV.below b4
      replace hX := hX.below b4
      clear b4
      go_wp2_with fail
      refine (llh a3 c3 a4 c4 J _ hX hY lJ).mono ?_
      rintro r w5 ⟨rfl, b5⟩
      have B5 := btrans B4 b5
      replace hT := hT.below b5
      replace nT := nT.below b5
      replace hU := hU.below b5
      replace nU := nU.below b5
      replace hV := hV.below b5
      replace nV := nV.below b5
      replace hX := hX.below b5
      replace hY := hY.below b5
      clear b5
      go_wp2_with fail
      refine (ltext av cv V x _ hV lV (ht.below B5) hx.out).mono ?_
      rintro r w6 ⟨rfl, b6⟩
      have B6 := btrans B5 b6
      replace hT := hT.below b6
      replace nT := nT.below b6
      replace hU := hU.below b6
      replace nU := nU.below b6
      replace hV := hV.below b6
      replace nV := nV.below b6
      replace hX := hX.below b6
      replace hY := hY.below b6
      clear b6
      go_wp2_with fail
      refine (lstext av cv V x _ hV lV hx.out).mono ?_
      rintro r w7 ⟨rfl, b7⟩
      have B7 := btrans B6 b7
      replace hT := hT.below b7
      replace nT := nT.below b7
      replace hU := hU.below b7
      replace nU := nU.below b7
      replace hV := hV.below b7
      replace nV := nV.below b7
      replace hX := hX.below b7
      replace hY := hY.below b7
      clear b7
      go_wp2_with fail
      refine (ljoin av cv V a1 c1 T K _ hV hT lV lT hK.out).mono ?_
      rintro r w8 ⟨a5, c5, rfl, h5, b8⟩
      have B8 := btrans B7 b8
      replace hT := hT.below b8
      replace nT := nT.below b8
      replace hU := hU.below b8
      replace nU := nU.below b8
      replace hV := hV.below b8
      replace nV := nV.below b8
      replace hX := hX.below b8
      replace hY := hY.below b8
      clear b8
      go_wp2_with fail
      refine (ljoin a5 c5 K a2 c2 U L _ h5 hU lK lU hL.out).mono ?_
      rintro r w9 ⟨a6, c6, rfl, h6, b9⟩
      have B9 := btrans B8 b9
      replace hT := hT.below b9
      replace nT := nT.below b9
      replace hU := hU.below b9
      replace nU := nU.below b9
      replace hV := hV.below b9
      replace nV := nV.below b9
      replace hX := hX.below b9
      replace hY := hY.below b9
      replace h5 := h5.below b9
      clear b9
      cases q
      · go_wp2_with fail
        refine (lsok a1 c1 T false _ hT lT hq.out).mono ?_
        rintro r w10 ⟨rfl, b10⟩
        have B10 := btrans B9 b10
        replace hT := hT.below b10
        replace nT := nT.below b10
        replace hU := hU.below b10
        replace nU := nU.below b10
        replace hV := hV.below b10
        replace nV := nV.below b10
        replace hX := hX.below b10
        replace hY := hY.below b10
        replace h5 := h5.below b10
        replace h6 := h6.below b10
        clear b10
        go_wp2
        go_ret
        exact ⟨rfl, B10⟩
      · cases q2
        · go_wp2_with fail
          refine (lsok a1 c1 T true _ hT lT hq.out).mono ?_
          rintro r w10 ⟨rfl, b10⟩
          have B10 := btrans B9 b10
          replace hT := hT.below b10
          replace nT := nT.below b10
          replace hU := hU.below b10
          replace nU := nU.below b10
          replace hV := hV.below b10
          replace nV := nV.below b10
          replace hX := hX.below b10
          replace hY := hY.below b10
          replace h5 := h5.below b10
          replace h6 := h6.below b10
          clear b10
          go_wp2_with fail
          refine (lsok a2 c2 U false _ hU lU hq2.out).mono ?_
          rintro r w11 ⟨rfl, b11⟩
          have B11 := btrans B10 b11
          replace hT := hT.below b11
          replace nT := nT.below b11
          replace hU := hU.below b11
          replace nU := nU.below b11
          replace hV := hV.below b11
          replace nV := nV.below b11
          replace hX := hX.below b11
          replace hY := hY.below b11
          replace h5 := h5.below b11
          replace h6 := h6.below b11
          clear b11
          go_wp2
          go_ret
          exact ⟨rfl, B11⟩
        · cases q3
          · go_wp2_with fail
            refine (lsok a1 c1 T true _ hT lT hq.out).mono ?_
            rintro r w10 ⟨rfl, b10⟩
            have B10 := btrans B9 b10
            replace hT := hT.below b10
            replace nT := nT.below b10
            replace hU := hU.below b10
            replace nU := nU.below b10
            replace hV := hV.below b10
            replace nV := nV.below b10
            replace hX := hX.below b10
            replace hY := hY.below b10
            replace h5 := h5.below b10
            replace h6 := h6.below b10
            clear b10
            go_wp2_with fail
            refine (lsok a2 c2 U true _ hU lU hq2.out).mono ?_
            rintro r w11 ⟨rfl, b11⟩
            have B11 := btrans B10 b11
            replace hT := hT.below b11
            replace nT := nT.below b11
            replace hU := hU.below b11
            replace nU := nU.below b11
            replace hV := hV.below b11
            replace nV := nV.below b11
            replace hX := hX.below b11
            replace hY := hY.below b11
            replace h5 := h5.below b11
            replace h6 := h6.below b11
            clear b11
            go_wp2_with fail
            refine (lsok av cv V false _ hV lV hq3.out).mono ?_
            rintro r w12 ⟨rfl, b12⟩
            have B12 := btrans B11 b12
            replace hT := hT.below b12
            replace nT := nT.below b12
            replace hU := hU.below b12
            replace nU := nU.below b12
            replace hV := hV.below b12
            replace nV := nV.below b12
            replace hX := hX.below b12
            replace hY := hY.below b12
            replace h5 := h5.below b12
            replace h6 := h6.below b12
            clear b12
            go_wp2
            go_ret
            exact ⟨rfl, B12⟩
          · have hk2 : Hid _ := hk.out rfl rfl rfl
            clear hk
            go_wp2_with fail
            refine (lsok a1 c1 T true _ hT lT hq.out).mono ?_
            rintro r w10 ⟨rfl, b10⟩
            have B10 := btrans B9 b10
            replace hT := hT.below b10
            replace nT := nT.below b10
            replace hU := hU.below b10
            replace nU := nU.below b10
            replace hV := hV.below b10
            replace nV := nV.below b10
            replace hX := hX.below b10
            replace hY := hY.below b10
            replace h5 := h5.below b10
            replace h6 := h6.below b10
            clear b10
            go_wp2_with fail
            refine (lsok a2 c2 U true _ hU lU hq2.out).mono ?_
            rintro r w11 ⟨rfl, b11⟩
            have B11 := btrans B10 b11
            replace hT := hT.below b11
            replace nT := nT.below b11
            replace hU := hU.below b11
            replace nU := nU.below b11
            replace hV := hV.below b11
            replace nV := nV.below b11
            replace hX := hX.below b11
            replace hY := hY.below b11
            replace h5 := h5.below b11
            replace h6 := h6.below b11
            clear b11
            go_wp2_with fail
            refine (lsok av cv V true _ hV lV hq3.out).mono ?_
            rintro r w12 ⟨rfl, b12⟩
            have B12 := btrans B11 b12
            replace hT := hT.below b12
            replace nT := nT.below b12
            replace hU := hU.below b12
            replace nU := nU.below b12
            replace hV := hV.below b12
            replace nV := nV.below b12
            replace hX := hX.below b12
            replace hY := hY.below b12
            replace h5 := h5.below b12
            replace h6 := h6.below b12
            clear b12
            go_wp2_with fail
            refine (kept_any a3 c3 J a6 c6 L _ hX h6 lJ lL hk2.out.1 hk2.out.2.1 hk2.out.2.2.1).mono ?_
            rintro r w13 ⟨rfl, b13⟩
            have B13 := btrans B12 b13
            replace hT := hT.below b13
            replace nT := nT.below b13
            replace hU := hU.below b13
            replace nU := nU.below b13
            replace hV := hV.below b13
            replace nV := nV.below b13
            replace hX := hX.below b13
            replace hY := hY.below b13
            replace h5 := h5.below b13
            replace h6 := h6.below b13
            clear b13
            go_wp2_with fail
            refine (kept_any a1 c1 T a3 c3 J _ hT hX lT lJ hk2.out.2.2.2.1 hk2.out.2.2.2.2.1 hk2.out.2.2.2.2.2.1).mono ?_
            rintro r w14 ⟨rfl, b14⟩
            have B14 := btrans B13 b14
            replace hT := hT.below b14
            replace nT := nT.below b14
            replace hU := hU.below b14
            replace nU := nU.below b14
            replace hV := hV.below b14
            replace nV := nV.below b14
            replace hX := hX.below b14
            replace hY := hY.below b14
            replace h5 := h5.below b14
            replace h6 := h6.below b14
            clear b14
            go_wp2_with fail
            refine (kept_any a2 c2 U a3 c3 J _ hU hX lU lJ hk2.out.2.2.2.2.2.2.1 hk2.out.2.2.2.2.1 hk2.out.2.2.2.2.2.2.2).mono ?_
            rintro r w15 ⟨rfl, b15⟩
            have B15 := btrans B14 b15
            replace hT := hT.below b15
            replace nT := nT.below b15
            replace hU := hU.below b15
            replace nU := nU.below b15
            replace hV := hV.below b15
            replace nV := nV.below b15
            replace hX := hX.below b15
            replace hY := hY.below b15
            replace h5 := h5.below b15
            replace h6 := h6.below b15
            clear b15
            go_wp2
            go_ret
            exact ⟨rfl, B15⟩
    · have j1 : (1048576 : Int) < (lenm : Int) := by omega
      go_enter Tryz.func7, Tryz.ntmps7
      go_wp2
      go_ret
      exact ⟨rfl, Below.refl _ _⟩
  · have j0 : (1048576 : Int) < (len : Int) := by omega
    go_enter Tryz.func7, Tryz.ntmps7
    go_wp2
    go_ret
    exact ⟨rfl, Below.refl _ _⟩
end Go.Proofs.YtogoehaagdldnaaGreatDoor
