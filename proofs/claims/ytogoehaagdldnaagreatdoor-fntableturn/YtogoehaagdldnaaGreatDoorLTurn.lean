/- It does not matter which of two tells the other: the law, walked. -/
import Derived.Test.YtogoehaagdldnaaGreatDoorLw
namespace Go.Proofs.YtogoehaagdldnaaGreatDoor
open Go.ChangeShapes Go.WideShapes Go.ChangeAt Go.RowKit
attribute [local go_sem ↓] Go.wp_at_zero Go.wp_at_succ
set_option maxRecDepth 20000 in
set_option maxHeartbeats 8000000 in
theorem turn_walk (a : Option Addr) (len cap : Nat) (w : World) (h : Bytes w.heap.size w a len) (hl : len ≤ cap) (ht : Tabs w) :
    Calls Tryz.prog 3 #[.slice a len cap] w fun r w' => r = .returned (.bool true) ∧ Below w.heap.size w w' := by
  by_cases hlen : len ≤ 1048576
  · have j0 : ¬ (1048576 : Int) < (len : Int) := by omega
    go_enter Tryz.func3, Tryz.ntmps3
    go_wp2_with fail
    refine (drawTJ_any a len cap _ h hl).mono ?_
    rintro r w1 ⟨a1, c1, T, a2, c2, U, rfl, hT, nT, hU, nU, lT, lU, B1⟩
    obtain ⟨J, hJ⟩ : ∃ J, Hid (jn T U = J) := ⟨_, rfl⟩
    have lJ : J.length ≤ 8 := by rw [← hJ.out]; exact jn_len _ _
    have hJ2 : Hid (jn U T = J) := by unfold Hid; rw [jn_comm, hJ.out]
    obtain ⟨x, hx⟩ : ∃ x, Hid (txt T.length (gd T) = x) := ⟨_, rfl⟩
    go_wp2_with fail
    refine (ljoin a1 c1 T a2 c2 U J _ hT hU lT lU hJ.out).mono ?_
    rintro r w2 ⟨a3, c3, rfl, hX, b2⟩
    have B2 := btrans B1 b2
    replace hT := hT.below b2
    replace nT := nT.below b2
    replace hU := hU.below b2
    replace nU := nU.below b2
    clear b2
    go_wp2_with fail
    refine (lsjoin a1 c1 T a2 c2 U J _ hT nT hU lT lU hJ.out).mono ?_
    rintro r w3 ⟨a4, c4, rfl, ⟨hY, nY⟩, b3⟩
    have B3 := btrans B2 b3
    replace hT := hT.below b3
    replace nT := nT.below b3
    replace hU := hU.below b3
    replace nU := nU.below b3
    replace hX := hX.below b3
    clear b3
    go_wp2_with fail
    refine (llh a3 c3 a4 c4 J _ hX hY lJ).mono ?_
    rintro r w4 ⟨rfl, b4⟩
    have B4 := btrans B3 b4
    replace hT := hT.below b4
    replace nT := nT.below b4
    replace hU := hU.below b4
    replace nU := nU.below b4
    replace hX := hX.below b4
    replace hY := hY.below b4
    clear b4
    go_wp2_with fail
    refine (ljoin a2 c2 U a1 c1 T J _ hU hT lU lT hJ2.out).mono ?_
    rintro r w5 ⟨a5, c5, rfl, hZ, b5⟩
    have B5 := btrans B4 b5
    replace hT := hT.below b5
    replace nT := nT.below b5
    replace hU := hU.below b5
    replace nU := nU.below b5
    replace hX := hX.below b5
    replace hY := hY.below b5
    clear b5
    go_wp2_with fail
    refine (llh a3 c3 a5 c5 J _ hX hZ lJ).mono ?_
    rintro r w6 ⟨rfl, b6⟩
    have B6 := btrans B5 b6
    replace hT := hT.below b6
    replace nT := nT.below b6
    replace hU := hU.below b6
    replace nU := nU.below b6
    replace hX := hX.below b6
    replace hY := hY.below b6
    replace hZ := hZ.below b6
    clear b6
    go_wp2_with fail
    refine (ltext a1 c1 T x _ hT lT (ht.below B6) hx.out).mono ?_
    rintro r w7 ⟨rfl, b7⟩
    have B7 := btrans B6 b7
    replace hT := hT.below b7
    replace nT := nT.below b7
    replace hU := hU.below b7
    replace nU := nU.below b7
    replace hX := hX.below b7
    replace hY := hY.below b7
    replace hZ := hZ.below b7
    clear b7
    go_wp2_with fail
    refine (lstext a1 c1 T x _ hT lT hx.out).mono ?_
    rintro r w8 ⟨rfl, b8⟩
    have B8 := btrans B7 b8
    replace hT := hT.below b8
    replace nT := nT.below b8
    replace hU := hU.below b8
    replace nU := nU.below b8
    replace hX := hX.below b8
    replace hY := hY.below b8
    replace hZ := hZ.below b8
    clear b8
    go_wp2
    go_ret
    exact ⟨rfl, B8⟩
  · have j0 : (1048576 : Int) < (len : Int) := by omega
    go_enter Tryz.func3, Tryz.ntmps3
    go_wp2
    go_ret
    exact ⟨rfl, Below.refl _ _⟩
end Go.Proofs.YtogoehaagdldnaaGreatDoor
