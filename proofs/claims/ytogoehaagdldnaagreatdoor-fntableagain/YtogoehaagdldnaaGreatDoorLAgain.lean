/- What was told once changes nothing when it is told again: the law, walked. -/
import Derived.Test.YtogoehaagdldnaaGreatDoorLw
namespace Go.Proofs.YtogoehaagdldnaaGreatDoor
open Go.ChangeShapes Go.WideShapes Go.ChangeAt Go.RowKit
attribute [local go_sem ↓] Go.wp_at_zero Go.wp_at_succ
set_option maxRecDepth 20000 in
set_option maxHeartbeats 8000000 in
theorem again_walk (a : Option Addr) (len cap : Nat) (w : World) (h : Bytes w.heap.size w a len) (hl : len ≤ cap) (ht : Tabs w) :
    Calls Tryz.prog 5 #[.slice a len cap] w fun r w' => r = .returned (.bool true) ∧ Below w.heap.size w w' := by
  by_cases hlen : len ≤ 1048576
  · have j0 : ¬ (1048576 : Int) < (len : Int) := by omega
    go_enter Tryz.func5, Tryz.ntmps5
    go_wp2_with fail
    refine (drawTJ_any a len cap _ h hl).mono ?_
    rintro r w1 ⟨a1, c1, T, a2, c2, U, rfl, hT, nT, hU, nU, lT, lU, B1⟩
    obtain ⟨J, hJ⟩ : ∃ J, Hid (jn T U = J) := ⟨_, rfl⟩
    have lJ : J.length ≤ 8 := by rw [← hJ.out]; exact jn_len _ _
    obtain ⟨x, hx⟩ : ∃ x, Hid (txt U.length (gd U) = x) := ⟨_, rfl⟩
    have hA1 : okT T = true → okT U = true → jn J T = J ∧ jn U J = J ∧ jn J J = J := fun h1 h2 => by
      have e := hJ.out
      rw [jn_eq h1 h2] at e
      have hj : okT J = true := by rw [← e]; exact tbl_okT ((okT_tbl h1).join (okT_tbl h2))
      rw [jn_eq hj h1, jn_eq h2 hj, jn_eq hj hj, ← e]
      exact ⟨join_again (okT_tbl h1) (okT_tbl h2), join_again' (okT_tbl h1) (okT_tbl h2), join_self ((okT_tbl h1).join (okT_tbl h2))⟩
    have hA : Hid _ := hA1
    clear hA1
    obtain ⟨q, hq⟩ : ∃ q, Hid (okT T = q) := ⟨_, rfl⟩
    obtain ⟨q2, hq2⟩ : ∃ q2, Hid (okT U = q2) := ⟨_, rfl⟩
    rw [hq.out, hq2.out] at hA
    go_wp2_with fail
    refine (ljoin a1 c1 T a2 c2 U J _ hT hU lT lU hJ.out).mono ?_
    rintro r w2 ⟨a3, c3, rfl, hX, b2⟩
    have B2 := btrans B1 b2
    replace hT := hT.below b2
    replace nT := nT.below b2
    replace hU := hU.below b2
    replace nU := nU.below b2
    clear b2
    go_wp2_with fail
    refine (lsjoin a1 c1 T a2 c2 U J _ hT nT hU lT lU hJ.out).mono ?_
    rintro r w3 ⟨a4, c4, rfl, ⟨hY, nY⟩, b3⟩
    have B3 := btrans B2 b3
    replace hT := hT.below b3
    replace nT := nT.below b3
    replace hU := hU.below b3
    replace nU := nU.below b3
    replace hX := hX.below b3
    clear b3
    go_wp2_with fail
    refine (llh a3 c3 a4 c4 J _ hX hY lJ).mono ?_
    rintro r w4 ⟨rfl, b4⟩
    have B4 := btrans B3 b4
    replace hT := hT.below b4
    replace nT := nT.below b4
    replace hU := hU.below b4
    replace nU := nU.below b4
    replace hX := hX.below b4
    replace hY := hY.below b4
    clear b4
    go_wp2_with fail
    refine (ltext a2 c2 U x _ hU lU (ht.below B4) hx.out).mono ?_
    rintro r w5 ⟨rfl, b5⟩
    have B5 := btrans B4 b5
    replace hT := hT.below b5
    replace nT := nT.below b5
    replace hU := hU.below b5
    replace nU := nU.below b5
    replace hX := hX.below b5
    replace hY := hY.below b5
    clear b5
    go_wp2_with fail
    refine (lstext a2 c2 U x _ hU lU hx.out).mono ?_
    rintro r w6 ⟨rfl, b6⟩
    have B6 := btrans B5 b6
    replace hT := hT.below b6
    replace nT := nT.below b6
    replace hU := hU.below b6
    replace nU := nU.below b6
    replace hX := hX.below b6
    replace hY := hY.below b6
    clear b6
    cases q
    · go_wp2_with fail
      refine (lsok a1 c1 T false _ hT lT hq.out).mono ?_
      rintro r w7 ⟨rfl, b7⟩
      have B7 := btrans B6 b7
      replace hT := hT.below b7
      replace nT := nT.below b7
      replace hU := hU.below b7
      replace nU := nU.below b7
      replace hX := hX.below b7
      replace hY := hY.below b7
      clear b7
      go_wp2
      go_ret
      exact ⟨rfl, B7⟩
    · cases q2
      · go_wp2_with fail
        refine (lsok a1 c1 T true _ hT lT hq.out).mono ?_
        rintro r w7 ⟨rfl, b7⟩
        have B7 := btrans B6 b7
        replace hT := hT.below b7
        replace nT := nT.below b7
        replace hU := hU.below b7
        replace nU := nU.below b7
        replace hX := hX.below b7
        replace hY := hY.below b7
        clear b7
        go_wp2_with fail
        refine (lsok a2 c2 U false _ hU lU hq2.out).mono ?_
        rintro r w8 ⟨rfl, b8⟩
        have B8 := btrans B7 b8
        replace hT := hT.below b8
        replace nT := nT.below b8
        replace hU := hU.below b8
        replace nU := nU.below b8
        replace hX := hX.below b8
        replace hY := hY.below b8
        clear b8
        go_wp2
        go_ret
        exact ⟨rfl, B8⟩
      · obtain ⟨k1, k2, k3⟩ := hA.out rfl rfl
        have k1' : Hid _ := k1
        have k2' : Hid _ := k2
        have k3' : Hid _ := k3
        clear k1 k2 k3 hA
        go_wp2_with fail
        refine (lsok a1 c1 T true _ hT lT hq.out).mono ?_
        rintro r w7 ⟨rfl, b7⟩
        have B7 := btrans B6 b7
        replace hT := hT.below b7
        replace nT := nT.below b7
        replace hU := hU.below b7
        replace nU := nU.below b7
        replace hX := hX.below b7
        replace hY := hY.below b7
        clear b7
        go_wp2_with fail
        refine (lsok a2 c2 U true _ hU lU hq2.out).mono ?_
        rintro r w8 ⟨rfl, b8⟩
        have B8 := btrans B7 b8
        replace hT := hT.below b8
        replace nT := nT.below b8
        replace hU := hU.below b8
        replace nU := nU.below b8
        replace hX := hX.below b8
        replace hY := hY.below b8
        clear b8
        go_wp2_with fail
        refine (ljoin a3 c3 J a1 c1 T J _ hX hT lJ lT k1'.out).mono ?_
        rintro r w9 ⟨a5, c5, rfl, hZ, b9⟩
        have B9 := btrans B8 b9
        replace hT := hT.below b9
        replace nT := nT.below b9
        replace hU := hU.below b9
        replace nU := nU.below b9
        replace hX := hX.below b9
        replace hY := hY.below b9
        clear b9
        go_wp2_with fail
        refine (llh a5 c5 a3 c3 J _ hZ hX lJ).mono ?_
        rintro r w10 ⟨rfl, b10⟩
        have B10 := btrans B9 b10
        replace hT := hT.below b10
        replace nT := nT.below b10
        replace hU := hU.below b10
        replace nU := nU.below b10
        replace hX := hX.below b10
        replace hY := hY.below b10
        replace hZ := hZ.below b10
        clear b10
        go_wp2_with fail
        refine (ljoin a2 c2 U a3 c3 J J _ hU hX lU lJ k2'.out).mono ?_
        rintro r w11 ⟨a6, c6, rfl, hV, b11⟩
        have B11 := btrans B10 b11
        replace hT := hT.below b11
        replace nT := nT.below b11
        replace hU := hU.below b11
        replace nU := nU.below b11
        replace hX := hX.below b11
        replace hY := hY.below b11
        replace hZ := hZ.below b11
        clear b11
        go_wp2_with fail
        refine (llh a6 c6 a3 c3 J _ hV hX lJ).mono ?_
        rintro r w12 ⟨rfl, b12⟩
        have B12 := btrans B11 b12
        replace hT := hT.below b12
        replace nT := nT.below b12
        replace hU := hU.below b12
        replace nU := nU.below b12
        replace hX := hX.below b12
        replace hY := hY.below b12
        replace hZ := hZ.below b12
        replace hV := hV.below b12
        clear b12
        go_wp2_with fail
        refine (ljoin a3 c3 J a3 c3 J J _ hX hX lJ lJ k3'.out).mono ?_
        rintro r w13 ⟨a7, c7, rfl, hS, b13⟩
        have B13 := btrans B12 b13
        replace hT := hT.below b13
        replace nT := nT.below b13
        replace hU := hU.below b13
        replace nU := nU.below b13
        replace hX := hX.below b13
        replace hY := hY.below b13
        replace hZ := hZ.below b13
        replace hV := hV.below b13
        clear b13
        go_wp2_with fail
        refine (llh a7 c7 a3 c3 J _ hS hX lJ).mono ?_
        rintro r w14 ⟨rfl, b14⟩
        have B14 := btrans B13 b14
        replace hT := hT.below b14
        replace nT := nT.below b14
        replace hU := hU.below b14
        replace nU := nU.below b14
        replace hX := hX.below b14
        replace hY := hY.below b14
        replace hZ := hZ.below b14
        replace hV := hV.below b14
        replace hS := hS.below b14
        clear b14
        go_wp2
        go_ret
        exact ⟨rfl, B14⟩
  · have j0 : (1048576 : Int) < (len : Int) := by omega
    go_enter Tryz.func5, Tryz.ntmps5
    go_wp2
    go_ret
    exact ⟨rfl, Below.refl _ _⟩
end Go.Proofs.YtogoehaagdldnaaGreatDoor
