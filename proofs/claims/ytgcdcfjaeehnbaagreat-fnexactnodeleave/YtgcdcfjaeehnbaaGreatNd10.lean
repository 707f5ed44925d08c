/- Nodes: their doubts. -/
import Derived.Test.YtgcdcfjaeehnbaaGreatNd9
namespace Go.Proofs.YtgcdcfjaeehnbaaGreat
open Go.ChangeShapes Go.WideShapes Go.ChangeAt Go.RowKit
set_option maxRecDepth 20000
set_option maxHeartbeats 4000000
attribute [local go_sem ↓] Go.wp_at_zero Go.wp_at_succ
def dbtB (me now : Int) (tl : Nat) (F : Nat → Fc) (n i s : Int) (bl : Nat) (bf : Nat → Int) : Bool :=
 decide ((fo F (fnd tl F n)).s = 2) && decide ((fo F (fnd tl F n)).i = i) && inb s 0 now && decide (0 < bl) && risB bl bf && obA me bl bf
theorem dbt_any (n i s : Int) (ba : Option Addr) (bl bc : Nat) (bf : Nat → Int) (nb : Nat) (F : Nat → Fc) (me : Int) (up gone gate : Bool) (inc now sq turn : Int) (ta : Option Addr) (tl tc : Nat) (ca : Option Addr) (cl cc : Nat) (pn ps pq : Int) (pa : Bool) (da : Option Addr) (dl dc : Nat) (cx cy ch ce : Int) (pla : Option Addr) (pll plc : Nat) (oa : Option Addr) (ol oc : Nat) (w : World) (hN : w.rangeAt nb 0 [.int .i64 me, .bool up, .bool gone, .bool gate, .int .i64 inc, .int .i64 now, .int .i64 sq, .int .i64 turn, .slice ta tl tc, .slice ca cl cc, .int .i64 pn, .int .i64 ps, .int .i64 pq, .bool pa, .slice da dl dc, .int .i64 cx, .int .i64 cy, .int .i64 ch, .int .i64 ce, .slice pla pll plc, .slice oa ol oc]) (h : FSl w ta tl F) (hl : tl ≤ 1048576) (hB : ISl w ba bl bf) (hbl : bl ≤ 1048576) :
  Calls Tryz.prog 164 #[.agg #[.int .i64 n, .int .i64 i, .int .i64 s, .slice ba bl bc], .pointer (some ⟨nb, 0, none⟩)] w fun r w' => r = .returned (.bool (dbtB me now tl F n i s bl bf)) ∧ Below w.heap.size w w' := by
 have hst : Hid (dbtB me now tl F n i s bl bf = (decide ((fo F (fnd tl F n)).s = 2) && decide ((fo F (fnd tl F n)).i = i) && inb s 0 now && decide (0 < bl) && risB bl bf && obA me bl bf)) := rfl
 go_enter Tryz.func164, Tryz.ntmps164
 go_upto_region 1 with fail
 generalize hu : w.alloc (.cells _ _) = u
 obtain ⟨X, b0⟩ := box1 hu
 clear hu
 have r8 := range_below' hN b0
 have d0 := X.c 0 (.int .i64 n) rfl
 have d8 := r8 8 (.slice ta tl tc) rfl
 rw [Nat.zero_add] at d8
 go_upto_region 2 with (go_at_call 127; refine (find_any ta tl tc F n _ (h.below b0) hl).mono ?_; rintro r w1 ⟨rfl, k1⟩; unfold fcV; generalize fo F (fnd tl F n) = f at *; generalize (fnd tl F n).isSome = q at *; obtain ⟨fn, fi, fs, fg⟩ := f; dsimp only at hst ⊢)
 have b1 := balloc (.cells #[.int .i64 fn, .int .i64 fi, .int .i64 fs, .bool fg] 96) (btrans b0 k1)
 have X1 := (X.below k1).alloc (.cells #[.int .i64 fn, .int .i64 fi, .int .i64 fs, .bool fg] 96)
 have Y1 := Ws.box (w := w1) #[.int .i64 fn, .int .i64 fi, .int .i64 fs, .bool fg] 96
 have r9 := range_below' (range_below' r8 k1) (balloc (.cells #[.int .i64 fn, .int .i64 fi, .int .i64 fs, .bool fg] 96) (Below.refl w1.heap.size w1))
 generalize w1.alloc (.cells #[.int .i64 fn, .int .i64 fi, .int .i64 fs, .bool fg] 96) = u2 at *
 generalize w1.heap.size = KO at *
 have e1 := X1.c 1 (.int .i64 i) rfl
 have e2 := X1.c 2 (.int .i64 s) rfl
 have e3 := X1.c 3 (.slice ba bl bc) rfl
 have g1 := Y1.c 1 (.int .i64 fi) rfl
 have g2 := Y1.c 2 (.int .i64 fs) rfl
 have e5 := r9 5 (.int .i64 now) rfl
 rw [Nat.zero_add] at e5
 clear X Y1 d0 d8 b0 r8 k1
 by_cases a0 : fs = 2
 ·have a0' := a0.symm; subst a0'
  by_cases a1 : fi = i
  ·have a1' := a1.symm; subst a1'
   go_wp2_with fail
   cases z2 : inb s 0 now
   ·have y2 : Hid (inb s 0 now = false) := z2
    clear z2
    refine (within_lit s 0 now false y2.out _).mono ?_
    rintro r w3 ⟨rfl, hw⟩
    obtain rfl := hw.symm
    clear hw
    go_wp2
    go_ret
    exact ⟨ret_bool (by rw [hst.out, y2.out]; simp), b1⟩
   ·have y2 : Hid (inb s 0 now = true) := z2
    clear z2
    refine (within_lit s 0 now true y2.out _).mono ?_
    rintro r w3 ⟨rfl, hw⟩
    obtain rfl := hw.symm
    clear hw
    by_cases a3 : bl = 0
    ·have a3' := a3.symm; subst a3'
     go_wp2
     go_ret
     exact ⟨ret_bool (by rw [hst.out]; simp), b1⟩
    ·have a4 : (0 : Int) < (bl : Int) := by omega
     have a5 : 0 < bl := by omega
     go_wp2_with fail
     refine (rising_any ba bl bc bf _ (hB.below b1) hbl).mono ?_
     rintro r w4 ⟨rfl, k4⟩
     have b4 := btrans b1 k4
     have r10 := range_below' r9 k4
     have e3' := (X1.below k4).c 3 (.slice ba bl bc) rfl
     clear X1 e1 e2 e3 g1 g2 e5 k4 r9
     have hst2 : Hid (dbtB me now tl F n i s bl bf = (risB bl bf && obA me bl bf)) := by
      rw [Hid, hst.out, y2.out]
      simp [a5]
     clear hst
     generalize risB bl bf = q at *
     cases q
     ·clear r10
      go_wp2
      go_ret
      exact ⟨ret_bool (by rw [hst2.out]; rfl), b4⟩
     ·go_wp2_with (refine load43L (by rfl) (.tmp 1) rfl nb rfl [.int .i64 me, .bool up, .bool gone, .bool gate, .int .i64 inc, .int .i64 now, .int .i64 sq, .int .i64 turn, .slice ta tl tc, .slice ca cl cc, .int .i64 pn, .int .i64 ps, .int .i64 pq, .bool pa, .slice da dl dc, .int .i64 cx, .int .i64 cy, .int .i64 ch, .int .i64 ce, .slice pla pll plc, .slice oa ol oc] r10 rfl ?_; clear r10)
      refine (obAll_any ba bl bc bf me up gone gate inc now sq turn ta tl tc ca cl cc pn ps pq pa da dl dc cx cy ch ce pla pll plc oa ol oc _ (hB.below b4) hbl).mono ?_
      rintro r w5 ⟨rfl, k5⟩
      clear e3'
      go_wp2
      go_ret
      exact ⟨ret_bool (by rw [hst2.out]; rfl), btrans b4 k5⟩
  ·have a1' : (fi == i) = false := by simpa using a1
   clear r9
   go_wp2
   go_ret
   exact ⟨ret_bool (by rw [hst.out]; simp [a1]), b1⟩
 ·have a0' : (fs == 2) = false := by simpa using a0
  clear r9
  go_wp2
  go_ret
  exact ⟨ret_bool (by rw [hst.out]; simp [a0]), b1⟩
def DtB (w : World) (len : Nat) (G : Nat → Dt) : Prop := ∀ k, k < len → ISl w (G k).ba (G k).bl (G k).bf ∧ (G k).bl ≤ 1048576
theorem DtB.below {w w' : World} {len : Nat} {G : Nat → Dt} (h : DtB w len G) (hb : Below w.heap.size w w') : DtB w' len G := fun k hk => ⟨(h k hk).1.below hb, (h k hk).2⟩
theorem dbClo_any (n i s : Int) (ba : Option Addr) (bl bc : Nat) (bf : Nat → Int) (nb : Nat) (F : Nat → Fc) (me : Int) (up gone gate : Bool) (inc now sq turn : Int) (ta : Option Addr) (tl tc : Nat) (ca : Option Addr) (cl cc : Nat) (pn ps pq : Int) (pa : Bool) (da : Option Addr) (dl dc : Nat) (cx cy ch ce : Int) (pla : Option Addr) (pll plc : Nat) (oa : Option Addr) (ol oc : Nat) (pb : Nat) (w : World) (hp : w.cell? ⟨pb, 0, none⟩ = some (.func (.func 164) #[] #[.pointer (some ⟨nb, 0, none⟩)])) (hN : w.rangeAt nb 0 [.int .i64 me, .bool up, .bool gone, .bool gate, .int .i64 inc, .int .i64 now, .int .i64 sq, .int .i64 turn, .slice ta tl tc, .slice ca cl cc, .int .i64 pn, .int .i64 ps, .int .i64 pq, .bool pa, .slice da dl dc, .int .i64 cx, .int .i64 cy, .int .i64 ch, .int .i64 ce, .slice pla pll plc, .slice oa ol oc]) (hF : FSl w ta tl F) (hl : tl ≤ 1048576) (hB : ISl w ba bl bf) (hbl : bl ≤ 1048576) (b : Bool) (hb : dbtB me now tl F n i s bl bf = b) :
  Calls Tryz.prog 223 #[.agg #[.int .i64 n, .int .i64 i, .int .i64 s, .slice ba bl bc], .pointer (some ⟨pb, 0, none⟩)] w fun r w' => r = .returned (.bool (!b)) ∧ Below w.heap.size w w' := by
 have hb' : Hid (dbtB me now tl F n i s bl bf = b) := hb
 clear hb
 go_enter Tryz.func223, Tryz.ntmps223
 go_upto_region 1 with fail
 generalize hu : w.alloc (.cells _ _) = u
 obtain ⟨X, b0⟩ := box1 hu
 clear hu
 have dp := keep_below b0 hp
 have hN' := range_below' hN b0
 have hF' := hF.below b0
 have hB' := hB.below b0
 have ee0 := X.c 0 (.int .i64 n) rfl
 have ee1 := X.c 1 (.int .i64 i) rfl
 have ee2 := X.c 2 (.int .i64 s) rfl
 have ee3 := X.c 3 (.slice ba bl bc) rfl
 clear X
 go_wp2_with fail
 refine (dbt_any n i s ba bl bc bf nb F me up gone gate inc now sq turn ta tl tc ca cl cc pn ps pq pa da dl dc cx cy ch ce pla pll plc oa ol oc _ hN' hF' hl hB' hbl).mono ?_
 rintro r w2 ⟨rfl, k2⟩
 rw [hb'.out]
 clear dp hp ee0 ee1 ee2 ee3
 go_wp2
 go_ret
 exact ⟨rfl, btrans b0 k2⟩
def dbA (me now : Int) (tl : Nat) (F : Nat → Fc) (len : Nat) (G : Nat → Dt) : Bool := decide (∀ k, k < len → dbtB me now tl F (G k).n (G k).i (G k).s (G k).bl (G k).bf = true)
theorem dbIdx_any (a : Option Addr) (len cap : Nat) (G : Nat → Dt) (nb : Nat) (F : Nat → Fc) (me : Int) (up gone gate : Bool) (inc now sq turn : Int) (ta : Option Addr) (tl tc : Nat) (ca : Option Addr) (cl cc : Nat) (pn ps pq : Int) (pa : Bool) (da : Option Addr) (dl dc : Nat) (cx cy ch ce : Int) (pla : Option Addr) (pll plc : Nat) (oa : Option Addr) (ol oc : Nat) (pb : Nat) (w : World) (hG : DtSl w a len G) (hm : len ≤ 1048576) (hB : DtB w len G) (hp : w.cell? ⟨pb, 0, none⟩ = some (.func (.func 164) #[] #[.pointer (some ⟨nb, 0, none⟩)])) (hN : w.rangeAt nb 0 [.int .i64 me, .bool up, .bool gone, .bool gate, .int .i64 inc, .int .i64 now, .int .i64 sq, .int .i64 turn, .slice ta tl tc, .slice ca cl cc, .int .i64 pn, .int .i64 ps, .int .i64 pq, .bool pa, .slice da dl dc, .int .i64 cx, .int .i64 cy, .int .i64 ch, .int .i64 ce, .slice pla pll plc, .slice oa ol oc]) (hF : FSl w ta tl F) (hl : tl ≤ 1048576) :
  Calls Tryz.prog 241 #[.slice a len cap, .func (.func 223) #[] #[.pointer (some ⟨pb, 0, none⟩)]] w fun e w' => ∃ r : Int, e = .returned (.int .i64 r) ∧ ((dbA me now tl F len G = true ∧ r = -1) ∨ (dbA me now tl F len G = false ∧ 0 ≤ r)) ∧ Below w.heap.size w w' := by
 go_enter Tryz.func241, Tryz.ntmps241
 go_wp2
 go_loopw [5, 8] (fun _ i wr => ∃ k : Nat, k ≤ len ∧ i = .int .i64 k ∧ Below w.heap.size w wr ∧ (∀ j, j < k → dbtB me now tl F (G j).n (G j).i (G j).s (G j).bl (G j).bf = true)) (fun _ i _ => len - (intOf i).toNat)
 case atStart => exact ⟨0, by omega, rfl, Below.refl _ _, fun j h1 => by omega⟩
 case round =>
  obtain ⟨k, hk, rfl, hb, hall⟩ := hrel
  by_cases hlt : k < len
  ·obtain ⟨b, off, rfl, hbl, hf⟩ := hG (by omega)
   obtain ⟨c0, c1, c2, c3⟩ := (hf.below hb hbl) k hlt
   have i0 : (0 : Int) ≤ (k : Int) := by omega
   have i1 : (k : Int) < (len : Int) := by omega
   have hpr := keep_below hb hp
   have hNr := range_below' hN hb
   have hFr := hF.below hb
   cases ho : dbtB me now tl F (G k).n (G k).i (G k).s (G k).bl (G k).bf
   ·have ho' : Hid (dbtB me now tl F (G k).n (G k).i (G k).s (G k).bl (G k).bf = false) := ho
    clear ho
    go_wp2_with (go_at_call 223; refine (dbClo_any _ _ _ _ _ _ _ nb F me up gone gate inc now sq turn ta tl tc ca cl cc pn ps pq pa da dl dc cx cy ch ce pla pll plc oa ol oc pb _ hpr hNr hFr hl ((hB k hlt).1.below hb) (hB k hlt).2 false ho'.out).mono ?_; rintro e w1 ⟨rfl, b1⟩)
    go_ret
    refine ⟨k, rfl, .inr ⟨?_, by omega⟩, btrans hb b1⟩
    unfold dbA
    refine decide_eq_false fun h => ?_
    have h1 := h k hlt
    rw [ho'.out] at h1
    cases h1
   ·have ho' : Hid (dbtB me now tl F (G k).n (G k).i (G k).s (G k).bl (G k).bf = true) := ho
    clear ho
    go_wp2_with (go_at_call 223; refine (dbClo_any _ _ _ _ _ _ _ nb F me up gone gate inc now sq turn ta tl tc ca cl cc pn ps pq pa da dl dc cx cy ch ce pla pll plc oa ol oc pb _ hpr hNr hFr hl ((hB k hlt).1.below hb) (hB k hlt).2 true ho'.out).mono ?_; rintro e w1 ⟨rfl, b1⟩)
    go_roundw
    case rel => exact ⟨k + 1, by omega, by go_num, btrans hb b1, fun j hj => by
     by_cases e : j = k
     ·subst e; exact ho'.out
     ·exact hall j (by omega)⟩
    case measure => simp [intOf]; omega
  ·go_wp2
   go_ret
   refine ⟨-1, rfl, .inl ⟨?_, rfl⟩, hb⟩
   unfold dbA
   rw [decide_eq_true_iff]
   exact fun j hj => hall j (by omega)
theorem dbCont_any (a : Option Addr) (len cap : Nat) (G : Nat → Dt) (nb : Nat) (F : Nat → Fc) (me : Int) (up gone gate : Bool) (inc now sq turn : Int) (ta : Option Addr) (tl tc : Nat) (ca : Option Addr) (cl cc : Nat) (pn ps pq : Int) (pa : Bool) (da : Option Addr) (dl dc : Nat) (cx cy ch ce : Int) (pla : Option Addr) (pll plc : Nat) (oa : Option Addr) (ol oc : Nat) (pb : Nat) (w : World) (hG : DtSl w a len G) (hm : len ≤ 1048576) (hB : DtB w len G) (hp : w.cell? ⟨pb, 0, none⟩ = some (.func (.func 164) #[] #[.pointer (some ⟨nb, 0, none⟩)])) (hN : w.rangeAt nb 0 [.int .i64 me, .bool up, .bool gone, .bool gate, .int .i64 inc, .int .i64 now, .int .i64 sq, .int .i64 turn, .slice ta tl tc, .slice ca cl cc, .int .i64 pn, .int .i64 ps, .int .i64 pq, .bool pa, .slice da dl dc, .int .i64 cx, .int .i64 cy, .int .i64 ch, .int .i64 ce, .slice pla pll plc, .slice oa ol oc]) (hF : FSl w ta tl F) (hl : tl ≤ 1048576) :
  Calls Tryz.prog 222 #[.slice a len cap, .func (.func 223) #[] #[.pointer (some ⟨pb, 0, none⟩)]] w fun e w' => e = .returned (.bool (!dbA me now tl F len G)) ∧ Below w.heap.size w w' := by
 go_enter Tryz.func222, Tryz.ntmps222
 go_wp2_with fail
 refine (dbIdx_any a len cap G nb F me up gone gate inc now sq turn ta tl tc ca cl cc pn ps pq pa da dl dc cx cy ch ce pla pll plc oa ol oc pb _ hG hm hB hp hN hF hl).mono ?_
 rintro e w1 ⟨r, rfl, hr, b1⟩
 rcases hr with ⟨hs, rfl⟩ | ⟨hs, hr⟩
 ·have hs' : Hid (dbA me now tl F len G = true) := hs
  clear hs
  go_wp2
  go_ret
  exact ⟨ret_bool (by rw [hs'.out]; rfl), b1⟩
 ·have hs' : Hid (dbA me now tl F len G = false) := hs
  clear hs
  go_wp2
  go_ret
  exact ⟨ret_bool (by rw [hs'.out]; simp <;> omega), b1⟩
theorem dbAll_any (a : Option Addr) (len cap : Nat) (G : Nat → Dt) (nb : Nat) (F : Nat → Fc) (me : Int) (up gone gate : Bool) (inc now sq turn : Int) (ta : Option Addr) (tl tc : Nat) (ca : Option Addr) (cl cc : Nat) (pn ps pq : Int) (pa : Bool) (da : Option Addr) (dl dc : Nat) (cx cy ch ce : Int) (pla : Option Addr) (pll plc : Nat) (oa : Option Addr) (ol oc : Nat) (w : World) (hG : DtSl w a len G) (hm : len ≤ 1048576) (hB : DtB w len G) (hN : w.rangeAt nb 0 [.int .i64 me, .bool up, .bool gone, .bool gate, .int .i64 inc, .int .i64 now, .int .i64 sq, .int .i64 turn, .slice ta tl tc, .slice ca cl cc, .int .i64 pn, .int .i64 ps, .int .i64 pq, .bool pa, .slice da dl dc, .int .i64 cx, .int .i64 cy, .int .i64 ch, .int .i64 ce, .slice pla pll plc, .slice oa ol oc]) (hF : FSl w ta tl F) (hl : tl ≤ 1048576) :
  Calls Tryz.prog 163 #[.slice a len cap, (.func (.func 164) #[] #[.pointer (some ⟨nb, 0, none⟩)])] w fun e w' => e = .returned (.bool (dbA me now tl F len G)) ∧ Below w.heap.size w w' := by
 go_enter Tryz.func163, Tryz.ntmps163
 go_upto_region 1 with fail
 generalize hu : w.alloc (.cells _ _) = u
 obtain ⟨X, b0⟩ := box1 hu
 clear hu
 have dp := X.c 0 (.func (.func 164) #[] #[.pointer (some ⟨nb, 0, none⟩)]) rfl
 have hN' := range_below' hN b0
 have hF' := hF.below b0
 clear X
 go_wp2_with fail
 refine (dbCont_any a len cap G nb F me up gone gate inc now sq turn ta tl tc ca cl cc pn ps pq pa da dl dc cx cy ch ce pla pll plc oa ol oc _ _ (hG.below b0) hm (hB.below b0) dp hN' hF' hl).mono ?_
 rintro e w1 ⟨rfl, b1⟩
 clear dp
 go_wp2
 go_ret
 exact ⟨ret_bool (by simp), btrans b0 b1⟩
theorem DtSl.drew {w : World} {a : Option Addr} {len : Nat} {F : Nat → Dt} (h : DtSl w a len F) : DtSl w.drew a len F := h.below (Below.refl w.heap.size w).drew
theorem DtB.drew {w : World} {len : Nat} {F : Nat → Dt} (h : DtB w len F) : DtB w.drew len F := h.below (Below.refl w.heap.size w).drew
theorem Dtasc_lit (a : Option Addr) (len cap : Nat) (F : Nat → Dt) (b : Bool) (hb : Dtasc len F = b) (w : World) (h : DtSl w a len F) (hl : len ≤ 1048576) :
  Calls Tryz.prog 161 #[.slice a len cap] w fun e w' => e = .returned (.bool b) ∧ Below w.heap.size w w' := hb ▸ Dtasc_any a len cap F w h hl
def dbsB (me now : Int) (tl : Nat) (F : Nat → Fc) (len : Nat) (G : Nat → Dt) : Bool := Dtasc len G && ((len : Int) == cntT tl F 2) && dbA me now tl F len G
abbrev S10 (w : World) (xs : List Value) (ta : Option Addr) (tl tc : Nat) (da : Option Addr) (dl dc : Nat) (F : Nat → Fc) (G : Nat → Dt) (w' : World) : Prop := w'.rangeAt w.heap.size 0 xs ∧ w'.cell? ⟨w.heap.size, 14, none⟩ = some (.slice da dl dc) ∧ w'.cell? ⟨w.heap.size, 8, none⟩ = some (.slice ta tl tc) ∧ FSl w' ta tl F ∧ DtSl w' da dl G ∧ DtB w' dl G ∧ Below w.heap.size w w'
theorem S10.keep {w w1 w2 : World} {xs : List Value} {ta da : Option Addr} {tl tc dl dc : Nat} {F : Nat → Fc} {G : Nat → Dt} (h : S10 w xs ta tl tc da dl dc F G w1) (k : Below w1.heap.size w1 w2) : S10 w xs ta tl tc da dl dc F G w2 := ⟨fun j x hx => keep_below k (h.1 j x hx), keep_below k h.2.1, keep_below k h.2.2.1, h.2.2.2.1.below k, h.2.2.2.2.1.below k, h.2.2.2.2.2.1.below k, btrans h.2.2.2.2.2.2 k⟩
theorem doubts_any (me : Int) (up gone gate : Bool) (inc now sq turn : Int) (ta : Option Addr) (tl tc : Nat) (ca : Option Addr) (cl cc : Nat) (pn ps pq : Int) (pa : Bool) (da : Option Addr) (dl dc : Nat) (cx cy ch ce : Int) (pla : Option Addr) (pll plc : Nat) (oa : Option Addr) (ol oc : Nat) (F : Nat → Fc) (G : Nat → Dt) (w : World) (h : FSl w ta tl F) (hl : tl ≤ 1048576) (hG : DtSl w da dl G) (hm : dl ≤ 1048576) (hB : DtB w dl G) :
  Calls Tryz.prog 104 #[.agg #[.int .i64 me, .bool up, .bool gone, .bool gate, .int .i64 inc, .int .i64 now, .int .i64 sq, .int .i64 turn, .slice ta tl tc, .slice ca cl cc, .int .i64 pn, .int .i64 ps, .int .i64 pq, .bool pa, .slice da dl dc, .int .i64 cx, .int .i64 cy, .int .i64 ch, .int .i64 ce, .slice pla pll plc, .slice oa ol oc]] w fun r w' => r = .returned (.bool (dbsB me now tl F dl G)) ∧ Below w.heap.size w w' := by
 go_enter Tryz.func104, Tryz.ntmps104
 go_upto_region 1 with fail
 generalize hu : w.alloc (.cells _ _) = u
 obtain ⟨X, b0⟩ := box1 hu
 clear hu
 have q0 := X.range
 have q1 := X.c 14 (.slice da dl dc) rfl
 have q2 := X.c 8 (.slice ta tl tc) rfl
 have q3 := h.below b0
 have q4 := hG.below b0
 have q5 := hB.below b0
 have q6 := b0
 clear X h hG hB b0
 have hst : Hid (dbsB me now tl F dl G = (Dtasc dl G && ((dl : Int) == cntT tl F 2) && dbA me now tl F dl G)) := rfl
 obtain ⟨c, hc⟩ : ∃ c, Hid (cntT tl F 2 = c) := ⟨_, rfl⟩
 cases z0 : Dtasc dl G
 ·have y0 : Hid (Dtasc dl G = false) := z0
  clear z0
  refine wp_region_held_drew (S := S10 w [.int .i64 me, .bool up, .bool gone, .bool gate, .int .i64 inc, .int .i64 now, .int .i64 sq, .int .i64 turn, .slice ta tl tc, .slice ca cl cc, .int .i64 pn, .int .i64 ps, .int .i64 pq, .bool pa, .slice da dl dc, .int .i64 cx, .int .i64 cy, .int .i64 ch, .int .i64 ce, .slice pla pll plc, .slice oa ol oc] ta tl tc da dl dc F G) (by kernel_rfl) ?_ (fun hHeld => ?_)
  ·(try dsimp only); (first | exact ⟨range_drew q0, keep_drew q1, keep_drew q2, q3.drew', q4.drew, q5.drew, q6.drew⟩ | exact hHeld.keep k5 | exact hHeld.keep k4 | exact hHeld.keep k3 | exact hHeld.keep k2)
  refine tlT (i := 0) rfl ?_; refine tlT (i := 1) rfl ?_
  refine wpAnyH_ready (rs := [2]) (by kernel_rfl) (by simp) ?_
  refine AllReadyH.cons (o := _) rfl (fun K hK => ?_) AllReadyH.nil
  go_simp
  refine (Dtasc_lit da dl dc G false y0.out _ hHeld.2.2.2.2.1 hm).mono ?_; rintro r w2 ⟨rfl, k2⟩
  go_wp2_with fail
  refine hK.out _ _ ?_ (fun hHeld => ?_)
  ·(try dsimp only); (first | exact ⟨range_drew q0, keep_drew q1, keep_drew q2, q3.drew', q4.drew, q5.drew, q6.drew⟩ | exact hHeld.keep k5 | exact hHeld.keep k4 | exact hHeld.keep k3 | exact hHeld.keep k2)
  clear hK K
  (try simp only [putP]); refine tlT (i := 3) rfl ?_; refine tzT (i := 4) rfl ?_; refine tzT (i := 5) rfl ?_; refine tzT (i := 6) rfl ?_; refine tzT (i := 7) rfl ?_; refine tzT (i := 8) rfl ?_; refine tzT (i := 9) rfl ?_; refine tzT (i := 10) rfl ?_; refine tlT (i := 11) rfl ?_; refine tlT (i := 12) rfl ?_; refine tzT (i := 13) rfl ?_; refine tzT (i := 14) rfl ?_; refine tzT (i := 15) rfl ?_; refine tzT (i := 16) rfl ?_; refine tlT (i := 17) rfl ?_; refine tlT (i := 18) rfl ?_
  refine wpAnyH_done (by kernel_rfl) ?_ _
  go_wp2
  go_ret
  exact ⟨ret_bool (by rw [hst.out, y0.out]; rfl), hHeld.2.2.2.2.2.2⟩
 ·have y0 : Hid (Dtasc dl G = true) := z0
  clear z0
  by_cases e0 : (dl : Int) = c
  ·subst e0
   refine wp_region_held_drew (S := S10 w [.int .i64 me, .bool up, .bool gone, .bool gate, .int .i64 inc, .int .i64 now, .int .i64 sq, .int .i64 turn, .slice ta tl tc, .slice ca cl cc, .int .i64 pn, .int .i64 ps, .int .i64 pq, .bool pa, .slice da dl dc, .int .i64 cx, .int .i64 cy, .int .i64 ch, .int .i64 ce, .slice pla pll plc, .slice oa ol oc] ta tl tc da dl dc F G) (by kernel_rfl) ?_ (fun hHeld => ?_)
   ·(try dsimp only); (first | exact ⟨range_drew q0, keep_drew q1, keep_drew q2, q3.drew', q4.drew, q5.drew, q6.drew⟩ | exact hHeld.keep k5 | exact hHeld.keep k4 | exact hHeld.keep k3 | exact hHeld.keep k2)
   refine tlT (i := 0) rfl ?_; refine tlT (i := 1) rfl ?_
   refine wpAnyH_ready (rs := [2]) (by kernel_rfl) (by simp) ?_
   refine AllReadyH.cons (o := _) rfl (fun K hK => ?_) AllReadyH.nil
   go_simp
   refine (Dtasc_lit da dl dc G true y0.out _ hHeld.2.2.2.2.1 hm).mono ?_; rintro r w2 ⟨rfl, k2⟩
   go_wp2_with fail
   refine hK.out _ _ ?_ (fun hHeld => ?_)
   ·(try dsimp only); (first | exact ⟨range_drew q0, keep_drew q1, keep_drew q2, q3.drew', q4.drew, q5.drew, q6.drew⟩ | exact hHeld.keep k5 | exact hHeld.keep k4 | exact hHeld.keep k3 | exact hHeld.keep k2)
   clear hK K
   (try simp only [putP]); refine tlT (i := 3) rfl ?_; refine tlT (i := 4) rfl ?_; refine tlT (i := 5) rfl ?_; refine tlT (i := 6) rfl ?_; refine tlT (i := 7) rfl ?_; refine tlT (i := 8) rfl ?_
   refine wpAnyH_ready (rs := [9]) (by kernel_rfl) (by simp) ?_
   refine AllReadyH.cons (o := _) rfl (fun K hK => ?_) AllReadyH.nil
   go_simp
   refine (cnt_any ta tl tc F 2 _ hHeld.2.2.2.1 hl).mono ?_; rintro r w3 ⟨rfl, k3⟩; rw [hc.out]
   go_wp2_with fail
   refine hK.out _ _ ?_ (fun hHeld => ?_)
   ·(try dsimp only); (first | exact ⟨range_drew q0, keep_drew q1, keep_drew q2, q3.drew', q4.drew, q5.drew, q6.drew⟩ | exact hHeld.keep k5 | exact hHeld.keep k4 | exact hHeld.keep k3 | exact hHeld.keep k2)
   clear hK K
   (try simp only [putP]); refine tlT (i := 10) rfl ?_; refine tlT (i := 11) rfl ?_; refine tlT (i := 12) rfl ?_; refine tlT (i := 13) rfl ?_; refine tlT (i := 14) rfl ?_; refine tlT (i := 15) rfl ?_
   refine wpAnyH_ready (rs := [16]) (by kernel_rfl) (by simp) ?_
   refine AllReadyH.cons (o := _) rfl (fun K hK => ?_) AllReadyH.nil
   go_simp
   refine (dbAll_any da dl dc G _ F me up gone gate inc now sq turn ta tl tc ca cl cc pn ps pq pa da dl dc cx cy ch ce pla pll plc oa ol oc _ hHeld.2.2.2.2.1 hm hHeld.2.2.2.2.2.1 hHeld.1 hHeld.2.2.2.1 hl).mono ?_; rintro r w4 ⟨rfl, k4⟩
   go_wp2_with fail
   refine hK.out _ _ ?_ (fun hHeld => ?_)
   ·(try dsimp only); (first | exact ⟨range_drew q0, keep_drew q1, keep_drew q2, q3.drew', q4.drew, q5.drew, q6.drew⟩ | exact hHeld.keep k5 | exact hHeld.keep k4 | exact hHeld.keep k3 | exact hHeld.keep k2)
   clear hK K
   (try simp only [putP]); refine tlT (i := 17) rfl ?_; refine tlT (i := 18) rfl ?_
   refine wpAnyH_done (by kernel_rfl) ?_ _
   go_wp2
   go_ret
   exact ⟨ret_bool (by rw [hst.out, y0.out, hc.out]; simp), hHeld.2.2.2.2.2.2⟩
  ·have e1 : ((dl : Int) == c) = false := by simpa using e0
   refine wp_region_held_drew (S := S10 w [.int .i64 me, .bool up, .bool gone, .bool gate, .int .i64 inc, .int .i64 now, .int .i64 sq, .int .i64 turn, .slice ta tl tc, .slice ca cl cc, .int .i64 pn, .int .i64 ps, .int .i64 pq, .bool pa, .slice da dl dc, .int .i64 cx, .int .i64 cy, .int .i64 ch, .int .i64 ce, .slice pla pll plc, .slice oa ol oc] ta tl tc da dl dc F G) (by kernel_rfl) ?_ (fun hHeld => ?_)
   ·(try dsimp only); (first | exact ⟨range_drew q0, keep_drew q1, keep_drew q2, q3.drew', q4.drew, q5.drew, q6.drew⟩ | exact hHeld.keep k5 | exact hHeld.keep k4 | exact hHeld.keep k3 | exact hHeld.keep k2)
   refine tlT (i := 0) rfl ?_; refine tlT (i := 1) rfl ?_
   refine wpAnyH_ready (rs := [2]) (by kernel_rfl) (by simp) ?_
   refine AllReadyH.cons (o := _) rfl (fun K hK => ?_) AllReadyH.nil
   go_simp
   refine (Dtasc_lit da dl dc G true y0.out _ hHeld.2.2.2.2.1 hm).mono ?_; rintro r w2 ⟨rfl, k2⟩
   go_wp2_with fail
   refine hK.out _ _ ?_ (fun hHeld => ?_)
   ·(try dsimp only); (first | exact ⟨range_drew q0, keep_drew q1, keep_drew q2, q3.drew', q4.drew, q5.drew, q6.drew⟩ | exact hHeld.keep k5 | exact hHeld.keep k4 | exact hHeld.keep k3 | exact hHeld.keep k2)
   clear hK K
   (try simp only [putP]); refine tlT (i := 3) rfl ?_; refine tlT (i := 4) rfl ?_; refine tlT (i := 5) rfl ?_; refine tlT (i := 6) rfl ?_; refine tlT (i := 7) rfl ?_; refine tlT (i := 8) rfl ?_
   refine wpAnyH_ready (rs := [9]) (by kernel_rfl) (by simp) ?_
   refine AllReadyH.cons (o := _) rfl (fun K hK => ?_) AllReadyH.nil
   go_simp
   refine (cnt_any ta tl tc F 2 _ hHeld.2.2.2.1 hl).mono ?_; rintro r w3 ⟨rfl, k3⟩; rw [hc.out]
   go_wp2_with fail
   refine hK.out _ _ ?_ (fun hHeld => ?_)
   ·(try dsimp only); (first | exact ⟨range_drew q0, keep_drew q1, keep_drew q2, q3.drew', q4.drew, q5.drew, q6.drew⟩ | exact hHeld.keep k5 | exact hHeld.keep k4 | exact hHeld.keep k3 | exact hHeld.keep k2)
   clear hK K
   (try simp only [putP]); refine tlT (i := 10) rfl ?_; refine tlT (i := 11) rfl ?_; refine tlT (i := 12) rfl ?_; refine tzT (i := 13) rfl ?_; refine tzT (i := 14) rfl ?_; refine tzT (i := 15) rfl ?_; refine tzT (i := 16) rfl ?_; refine tlT (i := 17) rfl ?_; refine tlT (i := 18) rfl ?_
   refine wpAnyH_done (by kernel_rfl) ?_ _
   go_wp2
   go_ret
   exact ⟨ret_bool (by rw [hst.out, y0.out, hc.out, e1]; rfl), hHeld.2.2.2.2.2.2⟩
end Go.Proofs.YtgcdcfjaeehnbaaGreat
