/- The exact law of TableText, walked. -/
import Derived.Test.YtogoehaagdldnaaDoorTxt3
import Derived.Test.YtogoehaagdldnaaDoorExTable
namespace Go.Proofs.YtogoehaagdldnaaDoor
open Go.ChangeShapes Go.WideShapes Go.ChangeAt Go.RowKit
attribute [local go_sem ↓] Go.wp_at_zero Go.wp_at_succ
theorem text_lit (a : Option Addr) (len cap : Nat) (F : Nat → Fc) (x : ByteArray) (w : World) (h : FSl w a len F) (hl : len ≤ 1048576) (ht : Tabs w) (hx : txt len F = x) :
    Calls Tryd.prog 10 #[.slice a len cap] w fun e w' => e = .returned (.string x) ∧ Below w.heap.size w w' := hx ▸ text_any a len cap F w h hl ht
theorem stext_lit (a : Option Addr) (len cap : Nat) (F : Nat → Fc) (x : ByteArray) (w : World) (h : FSl w a len F) (hl : len ≤ 1048576) (hx : txt len F = x) :
    Calls Tryd.prog 11 #[.slice a len cap] w fun e w' => e = .returned (.string x) ∧ Below w.heap.size w w' := hx ▸ stext_any a len cap F w h hl
set_option maxRecDepth 20000 in
set_option maxHeartbeats 8000000 in
theorem exText_walk (a : Option Addr) (len cap : Nat) (F : Nat → Fc) (w : World) (h : FSl w a len F) (hc : len ≤ cap) (hm : len ≤ maxLen) (ht : Tabs w) :
    Calls Tryd.prog 5 #[.slice a len cap] w fun r w' => r = .returned (.bool true) ∧ Below w.heap.size w w' := by
  by_cases hl : 1048576 < len
  · go_enter Tryd.func5, Tryd.ntmps5
    go_wp2_with fail
    refine (szFactS_over a len cap _ hl hm).mono ?_
    rintro r w' ⟨rfl, hw⟩
    obtain rfl := hw.symm
    go_wp2
    go_ret
    exact ⟨rfl, Below.refl _ _⟩
  · have hl' : len ≤ 1048576 := by omega
    obtain ⟨x, hx⟩ : ∃ x, Hid (txt len F = x) := ⟨_, rfl⟩
    clear hl hm
    go_enter Tryd.func5, Tryd.ntmps5
    go_wp2_with fail
    refine (szFactS_in a len cap _ hl').mono ?_
    rintro r w' ⟨n, rfl, hw⟩
    obtain rfl := hw.symm
    have n0 : ¬ ((n : Int) < 0) := by omega
    go_wp2_with fail
    refine (toFactS_any a len cap F _ h hl' hc).mono ?_
    rintro r w1 ⟨x1, rfl, f1, _, _, B1⟩
    go_wp2_with fail
    refine (stext_lit _ len len F x _ f1 hl' hx.out).mono ?_
    rintro r w2 ⟨rfl, b2⟩
    have B2 := btrans B1 b2
    clear f1 b2
    go_wp2_with fail
    refine (toFactS_any a len cap F _ (h.below B2) hl' hc).mono ?_
    rintro r w3 ⟨x3, rfl, f3, _, _, b3⟩
    have B3 := btrans B2 b3
    clear b3
    go_wp2_with fail
    refine (text_lit _ len len F x _ f3 hl' (ht.below B3) hx.out).mono ?_
    rintro r w4 ⟨rfl, b4⟩
    have B4 := btrans B3 b4
    replace f3 := f3.below b4
    clear b4
    go_wp2_with fail
    refine (toFactS_any a len cap F _ (h.below B4) hl' hc).mono ?_
    rintro r w5 ⟨x5, rfl, f5, _, _, b5⟩
    have B5 := btrans B4 b5
    replace f3 := f3.below b5
    clear b5
    go_wp2_with fail
    refine (eqFactS_same _ _ len len len F _ f3 f5 hl').mono ?_
    rintro r w6 ⟨rfl, b6⟩
    have B6 := btrans B5 b6
    go_wp2
    go_ret
    exact ⟨rfl, B6⟩
end Go.Proofs.YtogoehaagdldnaaDoor
