/- It does not matter in which order three tell each other: the law, walked. -/
import Derived.Test.YtogoehaagdldnaaGreatDoorLw
namespace Go.Proofs.YtogoehaagdldnaaGreatDoor
open Go.ChangeShapes Go.WideShapes Go.ChangeAt Go.RowKit
attribute [local go_sem ↓] Go.wp_at_zero Go.wp_at_succ
theorem bytes_up {w w' : World} {a : Option Addr} {len : Nat} (h : Bytes w.heap.size w a len) (hb : Below w.heap.size w w') : Bytes w'.heap.size w' a len := by
  obtain ⟨f, hf, h⟩ := h.below hb (Nat.le_refl _)
  refine ⟨f, hf, h.imp id ?_⟩
  rintro ⟨b, off, e, hbb, hc⟩
  exact ⟨b, off, e, by have := hb.size; omega, hc⟩
set_option maxRecDepth 20000 in
set_option maxHeartbeats 8000000 in
theorem three_walk (a : Option Addr) (len cap : Nat) (am : Option Addr) (lenm capm : Nat) (w : World) (h : Bytes w.heap.size w a len) (hl : len ≤ cap) (hm : Bytes w.heap.size w am lenm) (hlm : lenm ≤ capm) (ht : Tabs w) :
    Calls Tryz.prog 4 #[.slice a len cap, .slice am lenm capm] w fun r w' => r = .returned (.bool true) ∧ Below w.heap.size w w' := by
  by_cases hlen : len ≤ 1048576
  · have j0 : ¬ (1048576 : Int) < (len : Int) := by omega
    by_cases hlen2 : lenm ≤ 1048576
    · have j1 : ¬ (1048576 : Int) < (lenm : Int) := by omega
      go_enter Tryz.func4, Tryz.ntmps4
      go_wp2_with fail
      refine (drawTJ_any a len cap _ h hl).mono ?_
      rintro r w1 ⟨a1, c1, T, a2, c2, U, rfl, hT, nT, hU, nU, lT, lU, B1⟩
      go_wp2_with fail
      refine (drawTJ_any am lenm capm _ (bytes_up hm B1) hlm).mono ?_
      rintro r w2 ⟨av, cv, V, av2, cv2, V2, rfl, hV, nV, _, _, lV, _, b2⟩
      have B2 := btrans B1 b2
      replace hT := hT.below b2
      replace nT := nT.below b2
      replace hU := hU.below b2
      replace nU := nU.below b2
      clear b2
      obtain ⟨q, hq⟩ : ∃ q, Hid (okT T = q) := ⟨_, rfl⟩
      obtain ⟨q2, hq2⟩ : ∃ q2, Hid (okT U = q2) := ⟨_, rfl⟩
      obtain ⟨q3, hq3⟩ : ∃ q3, Hid (okT V = q3) := ⟨_, rfl⟩
      obtain ⟨x, hx⟩ : ∃ x, Hid (txt V.length (gd V) = x) := ⟨_, rfl⟩
      have e0 : (q != q) = false := by simp
      cases q
      · go_wp2_with fail
        refine (lok a1 c1 T false _ hT lT hq.out).mono ?_
        rintro r w3 ⟨rfl, b3⟩
        have B3 := btrans B2 b3
        replace hT := hT.below b3
        replace nT := nT.below b3
        replace hU := hU.below b3
        replace nU := nU.below b3
        replace hV := hV.below b3
        replace nV := nV.below b3
        clear b3
        go_wp2_with fail
        refine (lsok a1 c1 T false _ hT lT hq.out).mono ?_
        rintro r w4 ⟨rfl, b4⟩
        have B4 := btrans B3 b4
        replace hT := hT.below b4
        replace nT := nT.below b4
        replace hU := hU.below b4
        replace nU := nU.below b4
        replace hV := hV.below b4
        replace nV := nV.below b4
        clear b4
        go_wp2_with fail
        refine (ltext av cv V x _ hV lV (ht.below B4) hx.out).mono ?_
        rintro r w5 ⟨rfl, b5⟩
        have B5 := btrans B4 b5
        replace hT := hT.below b5
        replace nT := nT.below b5
        replace hU := hU.below b5
        replace nU := nU.below b5
        replace hV := hV.below b5
        replace nV := nV.below b5
        clear b5
        go_wp2_with fail
        refine (lstext av cv V x _ hV lV hx.out).mono ?_
        rintro r w6 ⟨rfl, b6⟩
        have B6 := btrans B5 b6
        replace hT := hT.below b6
        replace nT := nT.below b6
        replace hU := hU.below b6
        replace nU := nU.below b6
        replace hV := hV.below b6
        replace nV := nV.below b6
        clear b6
        go_wp2_with fail
        refine (lsok a1 c1 T false _ hT lT hq.out).mono ?_
        rintro r w7 ⟨rfl, b7⟩
        have B7 := btrans B6 b7
        replace hT := hT.below b7
        replace nT := nT.below b7
        replace hU := hU.below b7
        replace nU := nU.below b7
        replace hV := hV.below b7
        replace nV := nV.below b7
        clear b7
        go_wp2_with fail
        refine (lok a1 c1 T false _ hT lT hq.out).mono ?_
        rintro r w8 ⟨rfl, b8⟩
        have B8 := btrans B7 b8
        replace hT := hT.below b8
        replace nT := nT.below b8
        replace hU := hU.below b8
        replace nU := nU.below b8
        replace hV := hV.below b8
        replace nV := nV.below b8
        clear b8
        go_wp2_with fail
        refine (lsok a1 c1 T false _ hT lT hq.out).mono ?_
        rintro r w9 ⟨rfl, b9⟩
        have B9 := btrans B8 b9
        replace hT := hT.below b9
        replace nT := nT.below b9
        replace hU := hU.below b9
        replace nU := nU.below b9
        replace hV := hV.below b9
        replace nV := nV.below b9
        clear b9
        go_wp2_with fail
        refine (ltext av cv V x _ hV lV (ht.below B9) hx.out).mono ?_
        rintro r w10 ⟨rfl, b10⟩
        have B10 := btrans B9 b10
        replace hT := hT.below b10
        replace nT := nT.below b10
        replace hU := hU.below b10
        replace nU := nU.below b10
        replace hV := hV.below b10
        replace nV := nV.below b10
        clear b10
        go_wp2_with fail
        refine (lstext av cv V x _ hV lV hx.out).mono ?_
        rintro r w11 ⟨rfl, b11⟩
        have B11 := btrans B10 b11
        replace hT := hT.below b11
        replace nT := nT.below b11
        replace hU := hU.below b11
        replace nU := nU.below b11
        replace hV := hV.below b11
        replace nV := nV.below b11
        clear b11
        go_wp2
        go_ret
        exact ⟨rfl, B11⟩
      · cases q2
        · go_wp2_with fail
          refine (lok a1 c1 T true _ hT lT hq.out).mono ?_
          rintro r w3 ⟨rfl, b3⟩
          have B3 := btrans B2 b3
          replace hT := hT.below b3
          replace nT := nT.below b3
          replace hU := hU.below b3
          replace nU := nU.below b3
          replace hV := hV.below b3
          replace nV := nV.below b3
          clear b3
          go_wp2_with fail
          refine (lsok a1 c1 T true _ hT lT hq.out).mono ?_
          rintro r w4 ⟨rfl, b4⟩
          have B4 := btrans B3 b4
          replace hT := hT.below b4
          replace nT := nT.below b4
          replace hU := hU.below b4
          replace nU := nU.below b4
          replace hV := hV.below b4
          replace nV := nV.below b4
          clear b4
          go_wp2_with fail
          refine (ltext av cv V x _ hV lV (ht.below B4) hx.out).mono ?_
          rintro r w5 ⟨rfl, b5⟩
          have B5 := btrans B4 b5
          replace hT := hT.below b5
          replace nT := nT.below b5
          replace hU := hU.below b5
          replace nU := nU.below b5
          replace hV := hV.below b5
          replace nV := nV.below b5
          clear b5
          go_wp2_with fail
          refine (lstext av cv V x _ hV lV hx.out).mono ?_
          rintro r w6 ⟨rfl, b6⟩
          have B6 := btrans B5 b6
          replace hT := hT.below b6
          replace nT := nT.below b6
          replace hU := hU.below b6
          replace nU := nU.below b6
          replace hV := hV.below b6
          replace nV := nV.below b6
          clear b6
          go_wp2_with fail
          refine (lsok a1 c1 T true _ hT lT hq.out).mono ?_
          rintro r w7 ⟨rfl, b7⟩
          have B7 := btrans B6 b7
          replace hT := hT.below b7
          replace nT := nT.below b7
          replace hU := hU.below b7
          replace nU := nU.below b7
          replace hV := hV.below b7
          replace nV := nV.below b7
          clear b7
          go_wp2_with fail
          refine (lsok a2 c2 U false _ hU lU hq2.out).mono ?_
          rintro r w8 ⟨rfl, b8⟩
          have B8 := btrans B7 b8
          replace hT := hT.below b8
          replace nT := nT.below b8
          replace hU := hU.below b8
          replace nU := nU.below b8
          replace hV := hV.below b8
          replace nV := nV.below b8
          clear b8
          go_wp2_with fail
          refine (lok a1 c1 T true _ hT lT hq.out).mono ?_
          rintro r w9 ⟨rfl, b9⟩
          have B9 := btrans B8 b9
          replace hT := hT.below b9
          replace nT := nT.below b9
          replace hU := hU.below b9
          replace nU := nU.below b9
          replace hV := hV.below b9
          replace nV := nV.below b9
          clear b9
          go_wp2_with fail
          refine (lsok a1 c1 T true _ hT lT hq.out).mono ?_
          rintro r w10 ⟨rfl, b10⟩
          have B10 := btrans B9 b10
          replace hT := hT.below b10
          replace nT := nT.below b10
          replace hU := hU.below b10
          replace nU := nU.below b10
          replace hV := hV.below b10
          replace nV := nV.below b10
          clear b10
          go_wp2_with fail
          refine (ltext av cv V x _ hV lV (ht.below B10) hx.out).mono ?_
          rintro r w11 ⟨rfl, b11⟩
          have B11 := btrans B10 b11
          replace hT := hT.below b11
          replace nT := nT.below b11
          replace hU := hU.below b11
          replace nU := nU.below b11
          replace hV := hV.below b11
          replace nV := nV.below b11
          clear b11
          go_wp2_with fail
          refine (lstext av cv V x _ hV lV hx.out).mono ?_
          rintro r w12 ⟨rfl, b12⟩
          have B12 := btrans B11 b12
          replace hT := hT.below b12
          replace nT := nT.below b12
          replace hU := hU.below b12
          replace nU := nU.below b12
          replace hV := hV.below b12
          replace nV := nV.below b12
          clear b12
          go_wp2
          go_ret
          exact ⟨rfl, B12⟩
        · cases q3
          · go_wp2_with fail
            refine (lok a1 c1 T true _ hT lT hq.out).mono ?_
            rintro r w3 ⟨rfl, b3⟩
            have B3 := btrans B2 b3
            replace hT := hT.below b3
            replace nT := nT.below b3
            replace hU := hU.below b3
            replace nU := nU.below b3
            replace hV := hV.below b3
            replace nV := nV.below b3
            clear b3
            go_wp2_with fail
            refine (lsok a1 c1 T true _ hT lT hq.out).mono ?_
            rintro r w4 ⟨rfl, b4⟩
            have B4 := btrans B3 b4
            replace hT := hT.below b4
            replace nT := nT.below b4
            replace hU := hU.below b4
            replace nU := nU.below b4
            replace hV := hV.below b4
            replace nV := nV.below b4
            clear b4
            go_wp2_with fail
            refine (ltext av cv V x _ hV lV (ht.below B4) hx.out).mono ?_
            rintro r w5 ⟨rfl, b5⟩
            have B5 := btrans B4 b5
            replace hT := hT.below b5
            replace nT := nT.below b5
            replace hU := hU.below b5
            replace nU := nU.below b5
            replace hV := hV.below b5
            replace nV := nV.below b5
            clear b5
            go_wp2_with fail
            refine (lstext av cv V x _ hV lV hx.out).mono ?_
            rintro r w6 ⟨rfl, b6⟩
            have B6 := btrans B5 b6
            replace hT := hT.below b6
            replace nT := nT.below b6
            replace hU := hU.below b6
            replace nU := nU.below b6
            replace hV := hV.below b6
            replace nV := nV.below b6
            clear b6
            go_wp2_with fail
            refine (lsok a1 c1 T true _ hT lT hq.out).mono ?_
            rintro r w7 ⟨rfl, b7⟩
            have B7 := btrans B6 b7
            replace hT := hT.below b7
            replace nT := nT.below b7
            replace hU := hU.below b7
            replace nU := nU.below b7
            replace hV := hV.below b7
            replace nV := nV.below b7
            clear b7
            go_wp2_with fail
            refine (lsok a2 c2 U true _ hU lU hq2.out).mono ?_
            rintro r w8 ⟨rfl, b8⟩
            have B8 := btrans B7 b8
            replace hT := hT.below b8
            replace nT := nT.below b8
            replace hU := hU.below b8
            replace nU := nU.below b8
            replace hV := hV.below b8
            replace nV := nV.below b8
            clear b8
            go_wp2_with fail
            refine (lsok av cv V false _ hV lV hq3.out).mono ?_
            rintro r w9 ⟨rfl, b9⟩
            have B9 := btrans B8 b9
            replace hT := hT.below b9
            replace nT := nT.below b9
            replace hU := hU.below b9
            replace nU := nU.below b9
            replace hV := hV.below b9
            replace nV := nV.below b9
            clear b9
            go_wp2_with fail
            refine (lok a1 c1 T true _ hT lT hq.out).mono ?_
            rintro r w10 ⟨rfl, b10⟩
            have B10 := btrans B9 b10
            replace hT := hT.below b10
            replace nT := nT.below b10
            replace hU := hU.below b10
            replace nU := nU.below b10
            replace hV := hV.below b10
            replace nV := nV.below b10
            clear b10
            go_wp2_with fail
            refine (lsok a1 c1 T true _ hT lT hq.out).mono ?_
            rintro r w11 ⟨rfl, b11⟩
            have B11 := btrans B10 b11
            replace hT := hT.below b11
            replace nT := nT.below b11
            replace hU := hU.below b11
            replace nU := nU.below b11
            replace hV := hV.below b11
            replace nV := nV.below b11
            clear b11
            go_wp2_with fail
            refine (ltext av cv V x _ hV lV (ht.below B11) hx.out).mono ?_
            rintro r w12 ⟨rfl, b12⟩
            have B12 := btrans B11 b12
            replace hT := hT.below b12
            replace nT := nT.below b12
            replace hU := hU.below b12
            replace nU := nU.below b12
            replace hV := hV.below b12
            replace nV := nV.below b12
            clear b12
            go_wp2_with fail
            refine (lstext av cv V x _ hV lV hx.out).mono ?_
            rintro r w13 ⟨rfl, b13⟩
            have B13 := btrans B12 b13
            replace hT := hT.below b13
            replace nT := nT.below b13
            replace hU := hU.below b13
            replace nU := nU.below b13
            replace hV := hV.below b13
            replace nV := nV.below b13
            clear b13
            go_wp2
            go_ret
            exact ⟨rfl, B13⟩
          · clear e0
            obtain ⟨J, hJ⟩ : ∃ J, Hid (jn T U = J) := ⟨_, rfl⟩
            have lJ : J.length ≤ 8 := by rw [← hJ.out]; exact jn_len _ _
            obtain ⟨X, hX⟩ : ∃ X, Hid (jn J V = X) := ⟨_, rfl⟩
            have lX : X.length ≤ 8 := by rw [← hX.out]; exact jn_len _ _
            obtain ⟨K, hK⟩ : ∃ K, Hid (jn U V = K) := ⟨_, rfl⟩
            have lK : K.length ≤ 8 := by rw [← hK.out]; exact jn_len _ _
            have hX2 : Hid (jn T K = X) := by
              unfold Hid
              have t1 := okT_tbl hq.out
              have t2 := okT_tbl hq2.out
              have t3 := okT_tbl hq3.out
              have eJ := hJ.out
              have eK := hK.out
              rw [jn_eq hq.out hq2.out] at eJ
              rw [jn_eq hq2.out hq3.out] at eK
              have oJ : okT J = true := by rw [← eJ]; exact tbl_okT (t1.join t2)
              have oK : okT K = true := by rw [← eK]; exact tbl_okT (t2.join t3)
              rw [← hX.out, jn_eq hq.out oK, jn_eq oJ hq3.out, ← eJ, ← eK, join_assoc t1 t2 t3]
            go_wp2_with fail
            refine (lok a1 c1 T true _ hT lT hq.out).mono ?_
            rintro r w3 ⟨rfl, b3⟩
            have B3 := btrans B2 b3
            replace hT := hT.below b3
            replace nT := nT.below b3
            replace hU := hU.below b3
            replace nU := nU.below b3
            replace hV := hV.below b3
            replace nV := nV.below b3
            clear b3
            go_wp2_with fail
            refine (lsok a1 c1 T true _ hT lT hq.out).mono ?_
            rintro r w4 ⟨rfl, b4⟩
            have B4 := btrans B3 b4
            replace hT := hT.below b4
            replace nT := nT.below b4
            replace hU := hU.below b4
            replace nU := nU.below b4
            replace hV := hV.below b4
            replace nV := nV.below b4
            clear b4
            go_wp2_with fail
            refine (ltext av cv V x _ hV lV (ht.below B4) hx.out).mono ?_
            rintro r w5 ⟨rfl, b5⟩
            have B5 := btrans B4 b5
            replace hT := hT.below b5
            replace nT := nT.below b5
            replace hU := hU.below b5
            replace nU := nU.below b5
            replace hV := hV.below b5
            replace nV := nV.below b5
            clear b5
            go_wp2_with fail
            refine (lstext av cv V x _ hV lV hx.out).mono ?_
            rintro r w6 ⟨rfl, b6⟩
            have B6 := btrans B5 b6
            replace hT := hT.below b6
            replace nT := nT.below b6
            replace hU := hU.below b6
            replace nU := nU.below b6
            replace hV := hV.below b6
            replace nV := nV.below b6
            clear b6
            go_wp2_with fail
            refine (lsok a1 c1 T true _ hT lT hq.out).mono ?_
            rintro r w7 ⟨rfl, b7⟩
            have B7 := btrans B6 b7
            replace hT := hT.below b7
            replace nT := nT.below b7
            replace hU := hU.below b7
            replace nU := nU.below b7
            replace hV := hV.below b7
            replace nV := nV.below b7
            clear b7
            go_wp2_with fail
            refine (lsok a2 c2 U true _ hU lU hq2.out).mono ?_
            rintro r w8 ⟨rfl, b8⟩
            have B8 := btrans B7 b8
            replace hT := hT.below b8
            replace nT := nT.below b8
            replace hU := hU.below b8
            replace nU := nU.below b8
            replace hV := hV.below b8
            replace nV := nV.below b8
            clear b8
            go_wp2_with fail
            refine (lsok av cv V true _ hV lV hq3.out).mono ?_
            rintro r w9 ⟨rfl, b9⟩
            have B9 := btrans B8 b9
            replace hT := hT.below b9
            replace nT := nT.below b9
            replace hU := hU.below b9
            replace nU := nU.below b9
            replace hV := hV.below b9
            replace nV := nV.below b9
            clear b9
            go_wp2_with fail
            refine (ljoin a1 c1 T a2 c2 U J _ hT hU lT lU hJ.out).mono ?_
            rintro r w10 ⟨a3, c3, rfl, h3, b10⟩
            have B10 := btrans B9 b10
            replace hT := hT.below b10
            replace nT := nT.below b10
            replace hU := hU.below b10
            replace nU := nU.below b10
            replace hV := hV.below b10
            replace nV := nV.below b10
            clear b10
            go_wp2_with fail
            refine (ljoin a3 c3 J av cv V X _ h3 hV lJ lV hX.out).mono ?_
            rintro r w11 ⟨a4, c4, rfl, h4, b11⟩
            have B11 := btrans B10 b11
            replace hT := hT.below b11
            replace nT := nT.below b11
            replace hU := hU.below b11
            replace nU := nU.below b11
            replace hV := hV.below b11
            replace nV := nV.below b11
            replace h3 := h3.below b11
            clear b11
            go_wp2_with fail
            refine (ljoin a2 c2 U av cv V K _ hU hV lU lV hK.out).mono ?_
            rintro r w12 ⟨a5, c5, rfl, h5, b12⟩
            have B12 := btrans B11 b12
            replace hT := hT.below b12
            replace nT := nT.below b12
            replace hU := hU.below b12
            replace nU := nU.below b12
            replace hV := hV.below b12
            replace nV := nV.below b12
            replace h3 := h3.below b12
            replace h4 := h4.below b12
            clear b12
            go_wp2_with fail
            refine (ljoin a1 c1 T a5 c5 K X _ hT h5 lT lK hX2.out).mono ?_
            rintro r w13 ⟨a6, c6, rfl, h6, b13⟩
            have B13 := btrans B12 b13
            replace hT := hT.below b13
            replace nT := nT.below b13
            replace hU := hU.below b13
            replace nU := nU.below b13
            replace hV := hV.below b13
            replace nV := nV.below b13
            replace h3 := h3.below b13
            replace h4 := h4.below b13
            replace h5 := h5.below b13
            clear b13
            go_wp2_with fail
            refine (llh a4 c4 a6 c6 X _ h4 h6 lX).mono ?_
            rintro r w14 ⟨rfl, b14⟩
            have B14 := btrans B13 b14
            replace hT := hT.below b14
            replace nT := nT.below b14
            replace hU := hU.below b14
            replace nU := nU.below b14
            replace hV := hV.below b14
            replace nV := nV.below b14
            replace h3 := h3.below b14
            replace h4 := h4.below b14
            replace h5 := h5.below b14
            replace h6 := h6.below b14
            clear b14
            go_wp2_with fail
            refine (lsjoin a1 c1 T a2 c2 U J _ hT nT hU lT lU hJ.out).mono ?_
            rintro r w15 ⟨a7, c7, rfl, ⟨h7, n7⟩, b15⟩
            have B15 := btrans B14 b15
            replace hT := hT.below b15
            replace nT := nT.below b15
            replace hU := hU.below b15
            replace nU := nU.below b15
            replace hV := hV.below b15
            replace nV := nV.below b15
            replace h3 := h3.below b15
            replace h4 := h4.below b15
            replace h5 := h5.below b15
            replace h6 := h6.below b15
            clear b15
            go_wp2_with fail
            refine (lsjoin a7 c7 J av cv V X _ h7 n7 hV lJ lV hX.out).mono ?_
            rintro r w16 ⟨a8, c8, rfl, ⟨h8, n8⟩, b16⟩
            have B16 := btrans B15 b16
            replace hT := hT.below b16
            replace nT := nT.below b16
            replace hU := hU.below b16
            replace nU := nU.below b16
            replace hV := hV.below b16
            replace nV := nV.below b16
            replace h3 := h3.below b16
            replace h4 := h4.below b16
            replace h5 := h5.below b16
            replace h6 := h6.below b16
            replace h7 := h7.below b16
            replace n7 := n7.below b16
            clear b16
            go_wp2_with fail
            refine (llh a4 c4 a8 c8 X _ h4 h8 lX).mono ?_
            rintro r w17 ⟨rfl, b17⟩
            have B17 := btrans B16 b17
            replace hT := hT.below b17
            replace nT := nT.below b17
            replace hU := hU.below b17
            replace nU := nU.below b17
            replace hV := hV.below b17
            replace nV := nV.below b17
            replace h3 := h3.below b17
            replace h4 := h4.below b17
            replace h5 := h5.below b17
            replace h6 := h6.below b17
            replace h7 := h7.below b17
            replace n7 := n7.below b17
            replace h8 := h8.below b17
            clear b17
            go_wp2
            go_ret
            exact ⟨rfl, B17⟩
    · have j1 : (1048576 : Int) < (lenm : Int) := by omega
      go_enter Tryz.func4, Tryz.ntmps4
      go_wp2
      go_ret
      exact ⟨rfl, Below.refl _ _⟩
  · have j0 : (1048576 : Int) < (len : Int) := by omega
    go_enter Tryz.func4, Tryz.ntmps4
    go_wp2
    go_ret
    exact ⟨rfl, Below.refl _ _⟩
end Go.Proofs.YtogoehaagdldnaaGreatDoor
