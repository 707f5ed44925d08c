/- Nodes: their places. -/
import Derived.Test.YtgcdcfjaeehnbaaGreatNd8
namespace Go.Proofs.YtgcdcfjaeehnbaaGreat
open Go.ChangeShapes Go.WideShapes Go.ChangeAt Go.RowKit
set_option maxRecDepth 20000
set_option maxHeartbeats 4000000
attribute [local go_sem ↓] Go.wp_at_zero Go.wp_at_succ
def mateB (me key : Int) : Bool := ofB me key && decide (key ≠ me)
theorem mate_any (me : Int) (up gone gate : Bool) (inc now sq turn : Int) (ta : Option Addr) (tl tc : Nat) (ca : Option Addr) (cl cc : Nat) (pn ps pq : Int) (pa : Bool) (da : Option Addr) (dl dc : Nat) (cx cy ch ce : Int) (pla : Option Addr) (pll plc : Nat) (oa : Option Addr) (ol oc : Nat) (key : Int) (w : World) :
  Calls Tryz.prog 171 #[.agg #[.int .i64 me, .bool up, .bool gone, .bool gate, .int .i64 inc, .int .i64 now, .int .i64 sq, .int .i64 turn, .slice ta tl tc, .slice ca cl cc, .int .i64 pn, .int .i64 ps, .int .i64 pq, .bool pa, .slice da dl dc, .int .i64 cx, .int .i64 cy, .int .i64 ch, .int .i64 ce, .slice pla pll plc, .slice oa ol oc], .int .i64 key] w fun r w' => r = .returned (.bool (mateB me key)) ∧ Below w.heap.size w w' := by
 go_enter Tryz.func171, Tryz.ntmps171
 go_upto_region 1 with fail
 generalize hu : w.alloc (.cells _ _) = u
 obtain ⟨X, b0⟩ := box1 hu
 clear hu
 have r8 := X.range
 have d0 := X.c 0 (.int .i64 me) rfl
 clear X
 go_wp2_with (refine load43L (by rfl) (.tmp 2) rfl w.heap.size rfl [.int .i64 me, .bool up, .bool gone, .bool gate, .int .i64 inc, .int .i64 now, .int .i64 sq, .int .i64 turn, .slice ta tl tc, .slice ca cl cc, .int .i64 pn, .int .i64 ps, .int .i64 pq, .bool pa, .slice da dl dc, .int .i64 cx, .int .i64 cy, .int .i64 ch, .int .i64 ce, .slice pla pll plc, .slice oa ol oc] r8 rfl ?_; clear r8)
 refine (ofs_any me up gone gate inc now sq turn ta tl tc ca cl cc pn ps pq pa da dl dc cx cy ch ce pla pll plc oa ol oc key _).mono ?_
 rintro r w1 ⟨rfl, k1⟩
 have e0 := keep_below k1 d0
 have b1 := btrans b0 k1
 clear d0 k1 b0
 have hst : Hid (mateB me key = (ofB me key && decide (key ≠ me))) := rfl
 generalize ofB me key = q at *
 cases q
 ·go_wp2
  go_ret
  exact ⟨ret_bool (by rw [hst.out]; rfl), b1⟩
 ·go_wp2
  go_ret
  exact ⟨ret_bool (by rw [hst.out]; by_cases e : key = me <;> simp [e]), b1⟩
theorem mate_lit (me : Int) (up gone gate : Bool) (inc now sq turn : Int) (ta : Option Addr) (tl tc : Nat) (ca : Option Addr) (cl cc : Nat) (pn ps pq : Int) (pa : Bool) (da : Option Addr) (dl dc : Nat) (cx cy ch ce : Int) (pla : Option Addr) (pll plc : Nat) (oa : Option Addr) (ol oc : Nat) (key : Int) (b : Bool) (hb : mateB me key = b) (w : World) :
  Calls Tryz.prog 171 #[.agg #[.int .i64 me, .bool up, .bool gone, .bool gate, .int .i64 inc, .int .i64 now, .int .i64 sq, .int .i64 turn, .slice ta tl tc, .slice ca cl cc, .int .i64 pn, .int .i64 ps, .int .i64 pq, .bool pa, .slice da dl dc, .int .i64 cx, .int .i64 cy, .int .i64 ch, .int .i64 ce, .slice pla pll plc, .slice oa ol oc], .int .i64 key] w fun r w' => r = .returned (.bool b) ∧ Below w.heap.size w w' := hb ▸ mate_any me up gone gate inc now sq turn ta tl tc ca cl cc pn ps pq pa da dl dc cx cy ch ce pla pll plc oa ol oc key w
def plcB (me n x y h e : Int) (bl : Nat) (bf : Nat → Int) : Bool := mateB me n && cok x y h e && inb bl 1 3 && trA bl bf
theorem plc_any (n x y h e : Int) (ba : Option Addr) (bl bc : Nat) (bf : Nat → Int) (nb : Nat) (me : Int) (up gone gate : Bool) (inc now sq turn : Int) (ta : Option Addr) (tl tc : Nat) (ca : Option Addr) (cl cc : Nat) (pn ps pq : Int) (pa : Bool) (da : Option Addr) (dl dc : Nat) (cx cy ch ce : Int) (pla : Option Addr) (pll plc : Nat) (oa : Option Addr) (ol oc : Nat) (w : World) (hN : w.rangeAt nb 0 [.int .i64 me, .bool up, .bool gone, .bool gate, .int .i64 inc, .int .i64 now, .int .i64 sq, .int .i64 turn, .slice ta tl tc, .slice ca cl cc, .int .i64 pn, .int .i64 ps, .int .i64 pq, .bool pa, .slice da dl dc, .int .i64 cx, .int .i64 cy, .int .i64 ch, .int .i64 ce, .slice pla pll plc, .slice oa ol oc]) (hB : ISl w ba bl bf) (hbl : bl ≤ 1048576) :
  Calls Tryz.prog 170 #[.agg #[.int .i64 n, .int .i64 x, .int .i64 y, .int .i64 h, .int .i64 e, .slice ba bl bc], .pointer (some ⟨nb, 0, none⟩)] w fun r w' => r = .returned (.bool (plcB me n x y h e bl bf)) ∧ Below w.heap.size w w' := by
 go_enter Tryz.func170, Tryz.ntmps170
 go_upto_region 1 with fail
 generalize hu : w.alloc (.cells _ _) = u
 obtain ⟨X, b0⟩ := box1 hu
 clear hu
 have r8 := range_below' hN b0
 have d0 := X.c 0 (.int .i64 n) rfl
 go_wp2_with (refine load43L (by rfl) (.tmp 1) rfl nb rfl [.int .i64 me, .bool up, .bool gone, .bool gate, .int .i64 inc, .int .i64 now, .int .i64 sq, .int .i64 turn, .slice ta tl tc, .slice ca cl cc, .int .i64 pn, .int .i64 ps, .int .i64 pq, .bool pa, .slice da dl dc, .int .i64 cx, .int .i64 cy, .int .i64 ch, .int .i64 ce, .slice pla pll plc, .slice oa ol oc] r8 rfl ?_; clear r8)
 have hst : Hid (plcB me n x y h e bl bf = (mateB me n && cok x y h e && inb bl 1 3 && trA bl bf)) := rfl
 cases z0 : mateB me n
 ·have y0 : Hid (mateB me n = false) := z0
  clear z0
  refine (mate_lit me up gone gate inc now sq turn ta tl tc ca cl cc pn ps pq pa da dl dc cx cy ch ce pla pll plc oa ol oc n false y0.out _).mono ?_
  rintro r w1 ⟨rfl, k1⟩
  clear d0 X
  go_wp2
  go_ret
  exact ⟨ret_bool (by rw [hst.out, y0.out]; rfl), btrans b0 k1⟩
 ·have y0 : Hid (mateB me n = true) := z0
  clear z0
  refine (mate_lit me up gone gate inc now sq turn ta tl tc ca cl cc pn ps pq pa da dl dc cx cy ch ce pla pll plc oa ol oc n true y0.out _).mono ?_
  rintro r w1 ⟨rfl, k1⟩
  have b1 := btrans b0 k1
  have X1 := X.below k1
  have e1 := X1.c 1 (.int .i64 x) rfl
  have e2 := X1.c 2 (.int .i64 y) rfl
  have e3 := X1.c 3 (.int .i64 h) rfl
  have e4 := X1.c 4 (.int .i64 e) rfl
  clear d0 X k1 b0
  go_wp2_with fail
  cases z1 : cok x y h e
  ·have y1 : Hid (cok x y h e = false) := z1
   clear z1
   refine (fcok_lit x y h e false y1.out _).mono ?_
   rintro r w2 ⟨rfl, k2⟩
   clear e1 e2 e3 e4 X1
   go_wp2
   go_ret
   exact ⟨ret_bool (by rw [hst.out, y0.out, y1.out]; rfl), btrans b1 k2⟩
  ·have y1 : Hid (cok x y h e = true) := z1
   clear z1
   refine (fcok_lit x y h e true y1.out _).mono ?_
   rintro r w2 ⟨rfl, k2⟩
   have b2 := btrans b1 k2
   have e5 := (X1.below k2).c 5 (.slice ba bl bc) rfl
   clear e1 e2 e3 e4 X1 k2 b1
   go_wp2_with fail
   cases z2 : inb bl 1 3
   ·have y2 : Hid (inb bl 1 3 = false) := z2
    clear z2
    refine (within_lit bl 1 3 false y2.out _).mono ?_
    rintro r w3 ⟨rfl, hw⟩
    obtain rfl := hw.symm
    clear hw
    go_wp2
    go_ret
    exact ⟨ret_bool (by rw [hst.out, y0.out, y1.out, y2.out]; rfl), b2⟩
   ·have y2 : Hid (inb bl 1 3 = true) := z2
    clear z2
    refine (within_lit bl 1 3 true y2.out _).mono ?_
    rintro r w3 ⟨rfl, hw⟩
    obtain rfl := hw.symm
    clear hw
    go_wp2_with fail
    refine (trAll_any ba bl bc bf _ (hB.below b2) hbl).mono ?_
    rintro r w4 ⟨rfl, k4⟩
    clear e5
    go_wp2
    go_ret
    exact ⟨ret_bool (by rw [hst.out, y0.out, y1.out, y2.out]; rfl), btrans b2 k4⟩
def PlB (w : World) (len : Nat) (G : Nat → Pl) : Prop := ∀ k, k < len → ISl w (G k).ba (G k).bl (G k).bf ∧ (G k).bl ≤ 1048576
theorem PlB.below {w w' : World} {len : Nat} {G : Nat → Pl} (h : PlB w len G) (hb : Below w.heap.size w w') : PlB w' len G := fun k hk => ⟨(h k hk).1.below hb, (h k hk).2⟩
theorem plClo_any (n x y h e : Int) (ba : Option Addr) (bl bc : Nat) (bf : Nat → Int) (nb : Nat) (me : Int) (up gone gate : Bool) (inc now sq turn : Int) (ta : Option Addr) (tl tc : Nat) (ca : Option Addr) (cl cc : Nat) (pn ps pq : Int) (pa : Bool) (da : Option Addr) (dl dc : Nat) (cx cy ch ce : Int) (pla : Option Addr) (pll plc : Nat) (oa : Option Addr) (ol oc : Nat) (pb : Nat) (w : World) (hp : w.cell? ⟨pb, 0, none⟩ = some (.func (.func 170) #[] #[.pointer (some ⟨nb, 0, none⟩)])) (hN : w.rangeAt nb 0 [.int .i64 me, .bool up, .bool gone, .bool gate, .int .i64 inc, .int .i64 now, .int .i64 sq, .int .i64 turn, .slice ta tl tc, .slice ca cl cc, .int .i64 pn, .int .i64 ps, .int .i64 pq, .bool pa, .slice da dl dc, .int .i64 cx, .int .i64 cy, .int .i64 ch, .int .i64 ce, .slice pla pll plc, .slice oa ol oc]) (hB : ISl w ba bl bf) (hbl : bl ≤ 1048576) (b : Bool) (hb : plcB me n x y h e bl bf = b) :
  Calls Tryz.prog 227 #[.agg #[.int .i64 n, .int .i64 x, .int .i64 y, .int .i64 h, .int .i64 e, .slice ba bl bc], .pointer (some ⟨pb, 0, none⟩)] w fun r w' => r = .returned (.bool (!b)) ∧ Below w.heap.size w w' := by
 have hb' : Hid (plcB me n x y h e bl bf = b) := hb
 clear hb
 go_enter Tryz.func227, Tryz.ntmps227
 go_upto_region 1 with fail
 generalize hu : w.alloc (.cells _ _) = u
 obtain ⟨X, b0⟩ := box1 hu
 clear hu
 have dp := keep_below b0 hp
 have hN' := range_below' hN b0
 have hB' := hB.below b0
 have ee0 := X.c 0 (.int .i64 n) rfl
 have ee1 := X.c 1 (.int .i64 x) rfl
 have ee2 := X.c 2 (.int .i64 y) rfl
 have ee3 := X.c 3 (.int .i64 h) rfl
 have ee4 := X.c 4 (.int .i64 e) rfl
 have ee5 := X.c 5 (.slice ba bl bc) rfl
 clear X
 go_wp2_with fail
 refine (plc_any n x y h e ba bl bc bf nb me up gone gate inc now sq turn ta tl tc ca cl cc pn ps pq pa da dl dc cx cy ch ce pla pll plc oa ol oc _ hN' hB' hbl).mono ?_
 rintro r w2 ⟨rfl, k2⟩
 rw [hb'.out]
 clear dp hp ee0 ee1 ee2 ee3 ee4 ee5
 go_wp2
 go_ret
 exact ⟨rfl, btrans b0 k2⟩
def plA (me : Int) (len : Nat) (G : Nat → Pl) : Bool := decide (∀ k, k < len → plcB me (G k).n (G k).x (G k).y (G k).h (G k).e (G k).bl (G k).bf = true)
theorem plIdx_any (a : Option Addr) (len cap : Nat) (G : Nat → Pl) (nb : Nat) (me : Int) (up gone gate : Bool) (inc now sq turn : Int) (ta : Option Addr) (tl tc : Nat) (ca : Option Addr) (cl cc : Nat) (pn ps pq : Int) (pa : Bool) (da : Option Addr) (dl dc : Nat) (cx cy ch ce : Int) (pla : Option Addr) (pll plc : Nat) (oa : Option Addr) (ol oc : Nat) (pb : Nat) (w : World) (hG : PlSl w a len G) (hm : len ≤ 1048576) (hB : PlB w len G) (hp : w.cell? ⟨pb, 0, none⟩ = some (.func (.func 170) #[] #[.pointer (some ⟨nb, 0, none⟩)])) (hN : w.rangeAt nb 0 [.int .i64 me, .bool up, .bool gone, .bool gate, .int .i64 inc, .int .i64 now, .int .i64 sq, .int .i64 turn, .slice ta tl tc, .slice ca cl cc, .int .i64 pn, .int .i64 ps, .int .i64 pq, .bool pa, .slice da dl dc, .int .i64 cx, .int .i64 cy, .int .i64 ch, .int .i64 ce, .slice pla pll plc, .slice oa ol oc]) :
  Calls Tryz.prog 260 #[.slice a len cap, .func (.func 227) #[] #[.pointer (some ⟨pb, 0, none⟩)]] w fun e w' => ∃ r : Int, e = .returned (.int .i64 r) ∧ ((plA me len G = true ∧ r = -1) ∨ (plA me len G = false ∧ 0 ≤ r)) ∧ Below w.heap.size w w' := by
 go_enter Tryz.func260, Tryz.ntmps260
 go_wp2
 go_loopw [5, 8] (fun _ i wr => ∃ k : Nat, k ≤ len ∧ i = .int .i64 k ∧ Below w.heap.size w wr ∧ (∀ j, j < k → plcB me (G j).n (G j).x (G j).y (G j).h (G j).e (G j).bl (G j).bf = true)) (fun _ i _ => len - (intOf i).toNat)
 case atStart => exact ⟨0, by omega, rfl, Below.refl _ _, fun j h1 => by omega⟩
 case round =>
  obtain ⟨k, hk, rfl, hb, hall⟩ := hrel
  by_cases hlt : k < len
  ·obtain ⟨b, off, rfl, hbl, hf⟩ := hG (by omega)
   obtain ⟨c0, c1, c2, c3, c4, c5⟩ := (hf.below hb hbl) k hlt
   have i0 : (0 : Int) ≤ (k : Int) := by omega
   have i1 : (k : Int) < (len : Int) := by omega
   have hpr := keep_below hb hp
   have hNr := range_below' hN hb
   cases ho : plcB me (G k).n (G k).x (G k).y (G k).h (G k).e (G k).bl (G k).bf
   ·have ho' : Hid (plcB me (G k).n (G k).x (G k).y (G k).h (G k).e (G k).bl (G k).bf = false) := ho
    clear ho
    go_wp2_with (go_at_call 227; refine (plClo_any _ _ _ _ _ _ _ _ _ nb me up gone gate inc now sq turn ta tl tc ca cl cc pn ps pq pa da dl dc cx cy ch ce pla pll plc oa ol oc pb _ hpr hNr ((hB k hlt).1.below hb) (hB k hlt).2 false ho'.out).mono ?_; rintro e w1 ⟨rfl, b1⟩)
    go_ret
    refine ⟨k, rfl, .inr ⟨?_, by omega⟩, btrans hb b1⟩
    unfold plA
    refine decide_eq_false fun h => ?_
    have h1 := h k hlt
    rw [ho'.out] at h1
    cases h1
   ·have ho' : Hid (plcB me (G k).n (G k).x (G k).y (G k).h (G k).e (G k).bl (G k).bf = true) := ho
    clear ho
    go_wp2_with (go_at_call 227; refine (plClo_any _ _ _ _ _ _ _ _ _ nb me up gone gate inc now sq turn ta tl tc ca cl cc pn ps pq pa da dl dc cx cy ch ce pla pll plc oa ol oc pb _ hpr hNr ((hB k hlt).1.below hb) (hB k hlt).2 true ho'.out).mono ?_; rintro e w1 ⟨rfl, b1⟩)
    go_roundw
    case rel => exact ⟨k + 1, by omega, by go_num, btrans hb b1, fun j hj => by
     by_cases e : j = k
     ·subst e; exact ho'.out
     ·exact hall j (by omega)⟩
    case measure => simp [intOf]; omega
  ·go_wp2
   go_ret
   refine ⟨-1, rfl, .inl ⟨?_, rfl⟩, hb⟩
   unfold plA
   rw [decide_eq_true_iff]
   exact fun j hj => hall j (by omega)
theorem plCont_any (a : Option Addr) (len cap : Nat) (G : Nat → Pl) (nb : Nat) (me : Int) (up gone gate : Bool) (inc now sq turn : Int) (ta : Option Addr) (tl tc : Nat) (ca : Option Addr) (cl cc : Nat) (pn ps pq : Int) (pa : Bool) (da : Option Addr) (dl dc : Nat) (cx cy ch ce : Int) (pla : Option Addr) (pll plc : Nat) (oa : Option Addr) (ol oc : Nat) (pb : Nat) (w : World) (hG : PlSl w a len G) (hm : len ≤ 1048576) (hB : PlB w len G) (hp : w.cell? ⟨pb, 0, none⟩ = some (.func (.func 170) #[] #[.pointer (some ⟨nb, 0, none⟩)])) (hN : w.rangeAt nb 0 [.int .i64 me, .bool up, .bool gone, .bool gate, .int .i64 inc, .int .i64 now, .int .i64 sq, .int .i64 turn, .slice ta tl tc, .slice ca cl cc, .int .i64 pn, .int .i64 ps, .int .i64 pq, .bool pa, .slice da dl dc, .int .i64 cx, .int .i64 cy, .int .i64 ch, .int .i64 ce, .slice pla pll plc, .slice oa ol oc]) :
  Calls Tryz.prog 226 #[.slice a len cap, .func (.func 227) #[] #[.pointer (some ⟨pb, 0, none⟩)]] w fun e w' => e = .returned (.bool (!plA me len G)) ∧ Below w.heap.size w w' := by
 go_enter Tryz.func226, Tryz.ntmps226
 go_wp2_with fail
 refine (plIdx_any a len cap G nb me up gone gate inc now sq turn ta tl tc ca cl cc pn ps pq pa da dl dc cx cy ch ce pla pll plc oa ol oc pb _ hG hm hB hp hN).mono ?_
 rintro e w1 ⟨r, rfl, hr, b1⟩
 rcases hr with ⟨hs, rfl⟩ | ⟨hs, hr⟩
 ·have hs' : Hid (plA me len G = true) := hs
  clear hs
  go_wp2
  go_ret
  exact ⟨ret_bool (by rw [hs'.out]; rfl), b1⟩
 ·have hs' : Hid (plA me len G = false) := hs
  clear hs
  go_wp2
  go_ret
  exact ⟨ret_bool (by rw [hs'.out]; simp <;> omega), b1⟩
theorem plAll_any (a : Option Addr) (len cap : Nat) (G : Nat → Pl) (nb : Nat) (me : Int) (up gone gate : Bool) (inc now sq turn : Int) (ta : Option Addr) (tl tc : Nat) (ca : Option Addr) (cl cc : Nat) (pn ps pq : Int) (pa : Bool) (da : Option Addr) (dl dc : Nat) (cx cy ch ce : Int) (pla : Option Addr) (pll plc : Nat) (oa : Option Addr) (ol oc : Nat) (w : World) (hG : PlSl w a len G) (hm : len ≤ 1048576) (hB : PlB w len G) (hN : w.rangeAt nb 0 [.int .i64 me, .bool up, .bool gone, .bool gate, .int .i64 inc, .int .i64 now, .int .i64 sq, .int .i64 turn, .slice ta tl tc, .slice ca cl cc, .int .i64 pn, .int .i64 ps, .int .i64 pq, .bool pa, .slice da dl dc, .int .i64 cx, .int .i64 cy, .int .i64 ch, .int .i64 ce, .slice pla pll plc, .slice oa ol oc]) :
  Calls Tryz.prog 169 #[.slice a len cap, (.func (.func 170) #[] #[.pointer (some ⟨nb, 0, none⟩)])] w fun e w' => e = .returned (.bool (plA me len G)) ∧ Below w.heap.size w w' := by
 go_enter Tryz.func169, Tryz.ntmps169
 go_upto_region 1 with fail
 generalize hu : w.alloc (.cells _ _) = u
 obtain ⟨X, b0⟩ := box1 hu
 clear hu
 have dp := X.c 0 (.func (.func 170) #[] #[.pointer (some ⟨nb, 0, none⟩)]) rfl
 have hN' := range_below' hN b0
 clear X
 go_wp2_with fail
 refine (plCont_any a len cap G nb me up gone gate inc now sq turn ta tl tc ca cl cc pn ps pq pa da dl dc cx cy ch ce pla pll plc oa ol oc _ _ (hG.below b0) hm (hB.below b0) dp hN').mono ?_
 rintro e w1 ⟨rfl, b1⟩
 clear dp
 go_wp2
 go_ret
 exact ⟨ret_bool (by simp), btrans b0 b1⟩
def plsB (me : Int) (len : Nat) (G : Nat → Pl) : Bool := Plasc len G && plA me len G
theorem places_any (me : Int) (up gone gate : Bool) (inc now sq turn : Int) (ta : Option Addr) (tl tc : Nat) (ca : Option Addr) (cl cc : Nat) (pn ps pq : Int) (pa : Bool) (da : Option Addr) (dl dc : Nat) (cx cy ch ce : Int) (pla : Option Addr) (pll plc : Nat) (oa : Option Addr) (ol oc : Nat) (G : Nat → Pl) (w : World) (hG : PlSl w pla pll G) (hm : pll ≤ 1048576) (hB : PlB w pll G) :
  Calls Tryz.prog 105 #[.agg #[.int .i64 me, .bool up, .bool gone, .bool gate, .int .i64 inc, .int .i64 now, .int .i64 sq, .int .i64 turn, .slice ta tl tc, .slice ca cl cc, .int .i64 pn, .int .i64 ps, .int .i64 pq, .bool pa, .slice da dl dc, .int .i64 cx, .int .i64 cy, .int .i64 ch, .int .i64 ce, .slice pla pll plc, .slice oa ol oc]] w fun r w' => r = .returned (.bool (plsB me pll G)) ∧ Below w.heap.size w w' := by
 go_enter Tryz.func105, Tryz.ntmps105
 go_upto_region 1 with fail
 generalize hu : w.alloc (.cells _ _) = u
 obtain ⟨X, b0⟩ := box1 hu
 clear hu
 have r8 := X.range
 have d19 := X.c 19 (.slice pla pll plc) rfl
 clear X
 go_wp2_with fail
 refine (Plasc_any pla pll plc G _ (hG.below b0) hm).mono ?_
 rintro r w1 ⟨rfl, k1⟩
 have b1 := btrans b0 k1
 have e19 := keep_below k1 d19
 have r9 := range_below' r8 k1
 clear d19 k1 r8
 have hst : Hid (plsB me pll G = (Plasc pll G && plA me pll G)) := rfl
 generalize Plasc pll G = q at *
 cases q
 ·go_wp2
  go_ret
  exact ⟨ret_bool (by rw [hst.out]; rfl), b1⟩
 ·go_wp2_with fail
  refine (plAll_any pla pll plc G _ me up gone gate inc now sq turn ta tl tc ca cl cc pn ps pq pa da dl dc cx cy ch ce pla pll plc oa ol oc _ (hG.below b1) hm (hB.below b1) r9).mono ?_
  rintro r w2 ⟨rfl, k2⟩
  clear e19
  go_wp2
  go_ret
  exact ⟨ret_bool (by rw [hst.out]; rfl), btrans b1 k2⟩
end Go.Proofs.YtgcdcfjaeehnbaaGreat
