/- Nodes: what they know of other sites. -/
import Derived.Test.YtgcdcfjaeehnbaaGreatNd10
import Derived.Test.YtgcdcfjaeehnbaaGreatInts
namespace Go.Proofs.YtgcdcfjaeehnbaaGreat
open Go.ChangeShapes Go.WideShapes Go.ChangeAt Go.RowKit
set_option maxRecDepth 20000
set_option maxHeartbeats 4000000
attribute [local go_sem ↓] Go.wp_at_zero Go.wp_at_succ
def s145_1 : List Stp := [⟨some 4, .fieldAddr 123 (.tmp 2) 0, 0, none, 0⟩, ⟨some 5, .load 3 (.tmp 4), 3, none, 0⟩, ⟨some 6, .call { callee := .value (.func 176), args := #[.const (.int .i64 7)], argTypes := #[3] }, 3, none, 1⟩, ⟨some 7, .call { callee := .value (.func 150), args := #[.tmp 5, .const (.int .i64 0), .tmp 6], argTypes := #[3, 3, 3] }, 4, none, 1⟩, ⟨some 8, .move (.tmp 7), 4, none, 0⟩, ⟨some 9, .fieldAddr 123 (.tmp 2) 0, 0, some (8, true), 0⟩, ⟨some 10, .load 3 (.tmp 9), 3, some (8, true), 0⟩, ⟨some 11, .load 42 (.tmp 1), 42, some (8, true), 0⟩, ⟨some 12, .call { callee := .value (.func 156), args := #[.tmp 11], argTypes := #[42] }, 3, some (8, true), 1⟩, ⟨some 13, .binOp .neq 3 (.tmp 10) (.tmp 12) 3, 4, some (8, true), 2⟩, ⟨some 14, .pick (.tmp 8) (.tmp 13) (.const (.bool false)), 4, none, 0⟩, ⟨some 15, .move (.tmp 14), 4, none, 0⟩, ⟨some 16, .fieldAddr 123 (.tmp 2) 1, 0, some (15, true), 0⟩, ⟨some 17, .load 34 (.tmp 16), 34, some (15, true), 0⟩, ⟨some 18, .call { callee := .builtin .len, args := #[.tmp 17], argTypes := #[34] }, 3, some (15, true), 0⟩, ⟨some 19, .binOp .gtr 3 (.tmp 18) (.const (.int .i64 0)) 3, 4, some (15, true), 2⟩, ⟨some 20, .pick (.tmp 15) (.tmp 19) (.const (.bool false)), 4, none, 0⟩, ⟨some 21, .move (.tmp 20), 4, none, 0⟩, ⟨some 22, .fieldAddr 123 (.tmp 2) 1, 0, some (21, true), 0⟩, ⟨some 23, .load 34 (.tmp 22), 34, some (21, true), 0⟩, ⟨some 24, .call { callee := .value (.func 154), args := #[.tmp 23], argTypes := #[34] }, 4, some (21, true), 1⟩, ⟨some 25, .pick (.tmp 21) (.tmp 24) (.const (.bool false)), 4, none, 0⟩, ⟨some 26, .move (.tmp 25), 4, none, 0⟩, ⟨some 27, .fieldAddr 123 (.tmp 2) 1, 0, some (26, true), 0⟩, ⟨some 28, .load 34 (.tmp 27), 34, some (26, true), 0⟩, ⟨some 29, .fieldAddr 123 (.tmp 2) 0, 0, some (26, true), 0⟩, ⟨some 30, .load 3 (.tmp 29), 3, some (26, true), 0⟩, ⟨some 31, .call { callee := .value (.func 155), args := #[.tmp 28, .tmp 30], argTypes := #[34, 3] }, 4, some (26, true), 1⟩, ⟨some 32, .pick (.tmp 26) (.tmp 31) (.const (.bool false)), 4, none, 0⟩, ⟨some 3, .assign (.tmp 32), 4, none, 0⟩]
def t145_1 : List (Nat × Nat) := [(0, 0), (1, 0), (2, 1), (3, 1), (4, 0), (5, 0), (6, 0), (7, 0), (8, 1), (9, 2), (10, 0), (11, 0), (12, 0), (13, 0), (14, 0), (15, 2), (16, 0), (17, 0), (18, 0), (19, 0), (20, 1), (21, 0), (22, 0), (23, 0), (24, 0), (25, 0), (26, 0), (27, 1), (28, 0), (29, 0)]
theorem siteOf_lit (w : World) : Calls Tryz.prog 176 #[.int .i64 7] w fun r w' => r = .returned (.int .i64 1) ∧ w' = w := by
 have e : ste 7 = 1 := by simp [ste, wrap64]
 exact e ▸ siteOf_any 7 w
def othB (me n : Int) (bl : Nat) (bf : Nat → Fc) : Bool := inb n 0 1 && decide (n ≠ ste me) && decide (0 < bl) && tokB bl bf && sitB bl bf n
set_option linter.unusedSimpArgs false in
theorem oth_any (n : Int) (ba : Option Addr) (bl bc : Nat) (bf : Nat → Fc) (nb : Nat) (me : Int) (up gone gate : Bool) (inc now sq turn : Int) (ta : Option Addr) (tl tc : Nat) (ca : Option Addr) (cl cc : Nat) (pn ps pq : Int) (pa : Bool) (da : Option Addr) (dl dc : Nat) (cx cy ch ce : Int) (pla : Option Addr) (pll plc : Nat) (oa : Option Addr) (ol oc : Nat) (w : World) (hN : w.rangeAt nb 0 [.int .i64 me, .bool up, .bool gone, .bool gate, .int .i64 inc, .int .i64 now, .int .i64 sq, .int .i64 turn, .slice ta tl tc, .slice ca cl cc, .int .i64 pn, .int .i64 ps, .int .i64 pq, .bool pa, .slice da dl dc, .int .i64 cx, .int .i64 cy, .int .i64 ch, .int .i64 ce, .slice pla pll plc, .slice oa ol oc]) (hB : FSl w ba bl bf) (hbl : bl ≤ 1048576) :
  Calls Tryz.prog 175 #[.agg #[.int .i64 n, .slice ba bl bc], .pointer (some ⟨nb, 0, none⟩)] w fun r w' => r = .returned (.bool (othB me n bl bf)) ∧ Below w.heap.size w w' := by
 have hst : Hid (othB me n bl bf = (inb n 0 1 && decide (n ≠ ste me) && decide (0 < bl) && tokB bl bf && sitB bl bf n)) := rfl
 obtain ⟨sm, hsm⟩ : ∃ sm, Hid (ste me = sm) := ⟨_, rfl⟩
 go_enter Tryz.func175, Tryz.ntmps175
 go_upto_region 1 with fail
 generalize hu : w.alloc (.cells _ _) = u
 obtain ⟨X, b0⟩ := box1 hu
 clear hu
 have q0 := range_below' hN b0
 have q1 := X.c 0 (.int .i64 n) rfl
 have q2 := X.c 1 (.slice ba bl bc) rfl
 have q3 := hB.below b0
 have q4 := b0
 clear X b0 hB hN
 cases z1 : inb n 0 1
 ·have y1 : Hid (inb n 0 1 = false) := z1
  clear z1
  refine wp_region_q s145_1 t145_1 (fun hbq => ?_)
  refine qY ?_
  refine qL ?_
  refine qJ (siteOf_lit _) hbq ?_
  refine qJ (within_lit n 0 1 false y1.out _) hbq ?_
  refine qY ?_
  iterate 5 refine qN ?_
  iterate 2 refine qY ?_
  iterate 4 refine qN ?_
  iterate 2 refine qY ?_
  iterate 3 refine qN ?_
  iterate 2 refine qY ?_
  iterate 5 refine qN ?_
  iterate 2 refine qY ?_
  refine qE ?_
  go_wp2
  go_ret
  exact ⟨ret_bool (by rw [hst.out, y1.out]; rfl), btrans q4 hbq⟩
 ·have y1 : Hid (inb n 0 1 = true) := z1
  clear z1
  by_cases e0 : n = sm
  ·subst e0
   refine wp_region_q s145_1 t145_1 (fun hbq => ?_)
   refine qY ?_
   refine qL ?_
   refine qJ (siteOf_lit _) hbq ?_
   refine qJ (within_lit n 0 1 true y1.out _) hbq ?_
   iterate 2 refine qY ?_
   refine qL ?_
   refine qR ?_
   refine qC (fun K hK => ?_)
   go_simp
   refine (site_any me up gone gate inc now sq turn ta tl tc ca cl cc pn ps pq pa da dl dc cx cy ch ce pla pll plc oa ol oc _).mono ?_; rintro r w3 ⟨rfl, k3⟩; rw [hsm.out]
   go_wp2_with fail
   refine hK.out _ _ (btrans hbq k3) (.inl ?_)
   clear hK K
   replace hbq := btrans hbq k3
   clear k3
   try simp only [putQ]
   refine qV (.bool false) ?_
   iterate 2 refine qY ?_
   iterate 4 refine qN ?_
   iterate 2 refine qY ?_
   iterate 3 refine qN ?_
   iterate 2 refine qY ?_
   iterate 5 refine qN ?_
   iterate 2 refine qY ?_
   refine qE ?_
   go_wp2
   go_ret
   exact ⟨ret_bool (by rw [hst.out, y1.out, hsm.out]; simp), btrans q4 hbq⟩
  ·have e1 : (n != sm) = true := by simpa using e0
   by_cases e2 : bl = 0
   ·have e3 : ¬ 0 < bl := by omega
    refine wp_region_q s145_1 t145_1 (fun hbq => ?_)
    refine qY ?_
    refine qL ?_
    refine qJ (siteOf_lit _) hbq ?_
    refine qJ (within_lit n 0 1 true y1.out _) hbq ?_
    iterate 2 refine qY ?_
    refine qL ?_
    refine qR ?_
    refine qC (fun K hK => ?_)
    go_simp
    refine (site_any me up gone gate inc now sq turn ta tl tc ca cl cc pn ps pq pa da dl dc cx cy ch ce pla pll plc oa ol oc _).mono ?_; rintro r w3 ⟨rfl, k3⟩; rw [hsm.out]
    go_wp2_with fail
    refine hK.out _ _ (btrans hbq k3) (.inl ?_)
    clear hK K
    replace hbq := btrans hbq k3
    clear k3
    try simp only [putQ]
    refine qV (.bool true) ?_
    iterate 3 refine qY ?_
    refine qL ?_
    refine qY ?_
    refine qV (.bool false) ?_
    iterate 2 refine qY ?_
    iterate 3 refine qN ?_
    iterate 2 refine qY ?_
    iterate 5 refine qN ?_
    iterate 2 refine qY ?_
    refine qE ?_
    go_wp2
    go_ret
    exact ⟨ret_bool (by rw [hst.out, y1.out]; simp [e3]), btrans q4 hbq⟩
   ·have e3 : 0 < bl := by omega
    cases z4 : tokB bl bf
    ·have y4 : Hid (tokB bl bf = false) := z4
     clear z4
     refine wp_region_q s145_1 t145_1 (fun hbq => ?_)
     refine qY ?_
     refine qL ?_
     refine qJ (siteOf_lit _) hbq ?_
     refine qJ (within_lit n 0 1 true y1.out _) hbq ?_
     iterate 2 refine qY ?_
     refine qL ?_
     refine qR ?_
     refine qC (fun K hK => ?_)
     go_simp
     refine (site_any me up gone gate inc now sq turn ta tl tc ca cl cc pn ps pq pa da dl dc cx cy ch ce pla pll plc oa ol oc _).mono ?_; rintro r w3 ⟨rfl, k3⟩; rw [hsm.out]
     go_wp2_with fail
     refine hK.out _ _ (btrans hbq k3) (.inl ?_)
     clear hK K
     replace hbq := btrans hbq k3
     clear k3
     try simp only [putQ]
     refine qV (.bool true) ?_
     iterate 3 refine qY ?_
     refine qL ?_
     refine qY ?_
     refine qV (.bool true) ?_
     iterate 3 refine qY ?_
     refine qL ?_
     refine qK (tok_lit ba bl bc bf false _ (q3.below hbq) hbl y4.out) hbq (fun w4 hbq => ?_)
     iterate 2 refine qY ?_
     iterate 5 refine qN ?_
     iterate 2 refine qY ?_
     refine qE ?_
     go_wp2
     go_ret
     exact ⟨ret_bool (by rw [hst.out, y4.out]; simp), btrans q4 hbq⟩
    ·have y4 : Hid (tokB bl bf = true) := z4
     clear z4
     refine wp_region_q s145_1 t145_1 (fun hbq => ?_)
     refine qY ?_
     refine qL ?_
     refine qJ (siteOf_lit _) hbq ?_
     refine qJ (within_lit n 0 1 true y1.out _) hbq ?_
     iterate 2 refine qY ?_
     refine qL ?_
     refine qR ?_
     refine qC (fun K hK => ?_)
     go_simp
     refine (site_any me up gone gate inc now sq turn ta tl tc ca cl cc pn ps pq pa da dl dc cx cy ch ce pla pll plc oa ol oc _).mono ?_; rintro r w3 ⟨rfl, k3⟩; rw [hsm.out]
     go_wp2_with fail
     refine hK.out _ _ (btrans hbq k3) (.inl ?_)
     clear hK K
     replace hbq := btrans hbq k3
     clear k3
     try simp only [putQ]
     refine qV (.bool true) ?_
     iterate 3 refine qY ?_
     refine qL ?_
     refine qY ?_
     refine qV (.bool true) ?_
     iterate 3 refine qY ?_
     refine qL ?_
     refine qK (tok_lit ba bl bc bf true _ (q3.below hbq) hbl y4.out) hbq (fun w4 hbq => ?_)
     iterate 3 refine qY ?_
     refine qL ?_
     refine qY ?_
     refine qL ?_
     refine qK (allOf_any ba bl bc bf n _ (q3.below hbq) hbl) hbq (fun w5 hbq => ?_)
     iterate 2 refine qY ?_
     refine qE ?_
     go_wp2
     go_ret
     exact ⟨ret_bool (by rw [hst.out, y1.out, y4.out, hsm.out]; simp [e0, e3]), btrans q4 hbq⟩
def FgB (w : World) (len : Nat) (G : Nat → Fg) : Prop := ∀ k, k < len → FSl w (G k).ba (G k).bl (G k).bf ∧ (G k).bl ≤ 1048576
theorem FgB.below {w w' : World} {len : Nat} {G : Nat → Fg} (h : FgB w len G) (hb : Below w.heap.size w w') : FgB w' len G := fun k hk => ⟨(h k hk).1.below hb, (h k hk).2⟩
theorem otClo_any (n : Int) (ba : Option Addr) (bl bc : Nat) (bf : Nat → Fc) (nb : Nat) (me : Int) (up gone gate : Bool) (inc now sq turn : Int) (ta : Option Addr) (tl tc : Nat) (ca : Option Addr) (cl cc : Nat) (pn ps pq : Int) (pa : Bool) (da : Option Addr) (dl dc : Nat) (cx cy ch ce : Int) (pla : Option Addr) (pll plc : Nat) (oa : Option Addr) (ol oc : Nat) (pb : Nat) (w : World) (hp : w.cell? ⟨pb, 0, none⟩ = some (.func (.func 175) #[] #[.pointer (some ⟨nb, 0, none⟩)])) (hN : w.rangeAt nb 0 [.int .i64 me, .bool up, .bool gone, .bool gate, .int .i64 inc, .int .i64 now, .int .i64 sq, .int .i64 turn, .slice ta tl tc, .slice ca cl cc, .int .i64 pn, .int .i64 ps, .int .i64 pq, .bool pa, .slice da dl dc, .int .i64 cx, .int .i64 cy, .int .i64 ch, .int .i64 ce, .slice pla pll plc, .slice oa ol oc]) (hB : FSl w ba bl bf) (hbl : bl ≤ 1048576) (b : Bool) (hb : othB me n bl bf = b) :
  Calls Tryz.prog 229 #[.agg #[.int .i64 n, .slice ba bl bc], .pointer (some ⟨pb, 0, none⟩)] w fun r w' => r = .returned (.bool (!b)) ∧ Below w.heap.size w w' := by
 have hb' : Hid (othB me n bl bf = b) := hb
 clear hb
 go_enter Tryz.func229, Tryz.ntmps229
 go_upto_region 1 with fail
 generalize hu : w.alloc (.cells _ _) = u
 obtain ⟨X, b0⟩ := box1 hu
 clear hu
 have dp := keep_below b0 hp
 have hN' := range_below' hN b0
 have hB' := hB.below b0
 have ee0 := X.c 0 (.int .i64 n) rfl
 have ee1 := X.c 1 (.slice ba bl bc) rfl
 clear X
 go_wp2_with fail
 refine (oth_any n ba bl bc bf nb me up gone gate inc now sq turn ta tl tc ca cl cc pn ps pq pa da dl dc cx cy ch ce pla pll plc oa ol oc _ hN' hB' hbl).mono ?_
 rintro r w2 ⟨rfl, k2⟩
 rw [hb'.out]
 clear dp hp ee0 ee1
 go_wp2
 go_ret
 exact ⟨rfl, btrans b0 k2⟩
def otA (me : Int) (len : Nat) (G : Nat → Fg) : Bool := decide (∀ k, k < len → othB me (G k).n (G k).bl (G k).bf = true)
theorem otIdx_any (a : Option Addr) (len cap : Nat) (G : Nat → Fg) (nb : Nat) (me : Int) (up gone gate : Bool) (inc now sq turn : Int) (ta : Option Addr) (tl tc : Nat) (ca : Option Addr) (cl cc : Nat) (pn ps pq : Int) (pa : Bool) (da : Option Addr) (dl dc : Nat) (cx cy ch ce : Int) (pla : Option Addr) (pll plc : Nat) (oa : Option Addr) (ol oc : Nat) (pb : Nat) (w : World) (hG : FgSl w a len G) (hm : len ≤ 1048576) (hB : FgB w len G) (hp : w.cell? ⟨pb, 0, none⟩ = some (.func (.func 175) #[] #[.pointer (some ⟨nb, 0, none⟩)])) (hN : w.rangeAt nb 0 [.int .i64 me, .bool up, .bool gone, .bool gate, .int .i64 inc, .int .i64 now, .int .i64 sq, .int .i64 turn, .slice ta tl tc, .slice ca cl cc, .int .i64 pn, .int .i64 ps, .int .i64 pq, .bool pa, .slice da dl dc, .int .i64 cx, .int .i64 cy, .int .i64 ch, .int .i64 ce, .slice pla pll plc, .slice oa ol oc]) :
  Calls Tryz.prog 261 #[.slice a len cap, .func (.func 229) #[] #[.pointer (some ⟨pb, 0, none⟩)]] w fun e w' => ∃ r : Int, e = .returned (.int .i64 r) ∧ ((otA me len G = true ∧ r = -1) ∨ (otA me len G = false ∧ 0 ≤ r)) ∧ Below w.heap.size w w' := by
 go_enter Tryz.func261, Tryz.ntmps261
 go_wp2
 go_loopw [5, 8] (fun _ i wr => ∃ k : Nat, k ≤ len ∧ i = .int .i64 k ∧ Below w.heap.size w wr ∧ (∀ j, j < k → othB me (G j).n (G j).bl (G j).bf = true)) (fun _ i _ => len - (intOf i).toNat)
 case atStart => exact ⟨0, by omega, rfl, Below.refl _ _, fun j h1 => by omega⟩
 case round =>
  obtain ⟨k, hk, rfl, hb, hall⟩ := hrel
  by_cases hlt : k < len
  ·obtain ⟨b, off, rfl, hbl, hf⟩ := hG (by omega)
   obtain ⟨c0, c1⟩ := (hf.below hb hbl) k hlt
   have i0 : (0 : Int) ≤ (k : Int) := by omega
   have i1 : (k : Int) < (len : Int) := by omega
   have hpr := keep_below hb hp
   have hNr := range_below' hN hb
   cases ho : othB me (G k).n (G k).bl (G k).bf
   ·have ho' : Hid (othB me (G k).n (G k).bl (G k).bf = false) := ho
    clear ho
    go_wp2_with (go_at_call 229; refine (otClo_any _ _ _ _ _ nb me up gone gate inc now sq turn ta tl tc ca cl cc pn ps pq pa da dl dc cx cy ch ce pla pll plc oa ol oc pb _ hpr hNr ((hB k hlt).1.below hb) (hB k hlt).2 false ho'.out).mono ?_; rintro e w1 ⟨rfl, b1⟩)
    go_ret
    refine ⟨k, rfl, .inr ⟨?_, by omega⟩, btrans hb b1⟩
    unfold otA
    refine decide_eq_false fun h => ?_
    have h1 := h k hlt
    rw [ho'.out] at h1
    cases h1
   ·have ho' : Hid (othB me (G k).n (G k).bl (G k).bf = true) := ho
    clear ho
    go_wp2_with (go_at_call 229; refine (otClo_any _ _ _ _ _ nb me up gone gate inc now sq turn ta tl tc ca cl cc pn ps pq pa da dl dc cx cy ch ce pla pll plc oa ol oc pb _ hpr hNr ((hB k hlt).1.below hb) (hB k hlt).2 true ho'.out).mono ?_; rintro e w1 ⟨rfl, b1⟩)
    go_roundw
    case rel => exact ⟨k + 1, by omega, by go_num, btrans hb b1, fun j hj => by
     by_cases e : j = k
     ·subst e; exact ho'.out
     ·exact hall j (by omega)⟩
    case measure => simp [intOf]; omega
  ·go_wp2
   go_ret
   refine ⟨-1, rfl, .inl ⟨?_, rfl⟩, hb⟩
   unfold otA
   rw [decide_eq_true_iff]
   exact fun j hj => hall j (by omega)
theorem otCont_any (a : Option Addr) (len cap : Nat) (G : Nat → Fg) (nb : Nat) (me : Int) (up gone gate : Bool) (inc now sq turn : Int) (ta : Option Addr) (tl tc : Nat) (ca : Option Addr) (cl cc : Nat) (pn ps pq : Int) (pa : Bool) (da : Option Addr) (dl dc : Nat) (cx cy ch ce : Int) (pla : Option Addr) (pll plc : Nat) (oa : Option Addr) (ol oc : Nat) (pb : Nat) (w : World) (hG : FgSl w a len G) (hm : len ≤ 1048576) (hB : FgB w len G) (hp : w.cell? ⟨pb, 0, none⟩ = some (.func (.func 175) #[] #[.pointer (some ⟨nb, 0, none⟩)])) (hN : w.rangeAt nb 0 [.int .i64 me, .bool up, .bool gone, .bool gate, .int .i64 inc, .int .i64 now, .int .i64 sq, .int .i64 turn, .slice ta tl tc, .slice ca cl cc, .int .i64 pn, .int .i64 ps, .int .i64 pq, .bool pa, .slice da dl dc, .int .i64 cx, .int .i64 cy, .int .i64 ch, .int .i64 ce, .slice pla pll plc, .slice oa ol oc]) :
  Calls Tryz.prog 228 #[.slice a len cap, .func (.func 229) #[] #[.pointer (some ⟨pb, 0, none⟩)]] w fun e w' => e = .returned (.bool (!otA me len G)) ∧ Below w.heap.size w w' := by
 go_enter Tryz.func228, Tryz.ntmps228
 go_wp2_with fail
 refine (otIdx_any a len cap G nb me up gone gate inc now sq turn ta tl tc ca cl cc pn ps pq pa da dl dc cx cy ch ce pla pll plc oa ol oc pb _ hG hm hB hp hN).mono ?_
 rintro e w1 ⟨r, rfl, hr, b1⟩
 rcases hr with ⟨hs, rfl⟩ | ⟨hs, hr⟩
 ·have hs' : Hid (otA me len G = true) := hs
  clear hs
  go_wp2
  go_ret
  exact ⟨ret_bool (by rw [hs'.out]; rfl), b1⟩
 ·have hs' : Hid (otA me len G = false) := hs
  clear hs
  go_wp2
  go_ret
  exact ⟨ret_bool (by rw [hs'.out]; simp <;> omega), b1⟩
theorem otAll_any (a : Option Addr) (len cap : Nat) (G : Nat → Fg) (nb : Nat) (me : Int) (up gone gate : Bool) (inc now sq turn : Int) (ta : Option Addr) (tl tc : Nat) (ca : Option Addr) (cl cc : Nat) (pn ps pq : Int) (pa : Bool) (da : Option Addr) (dl dc : Nat) (cx cy ch ce : Int) (pla : Option Addr) (pll plc : Nat) (oa : Option Addr) (ol oc : Nat) (w : World) (hG : FgSl w a len G) (hm : len ≤ 1048576) (hB : FgB w len G) (hN : w.rangeAt nb 0 [.int .i64 me, .bool up, .bool gone, .bool gate, .int .i64 inc, .int .i64 now, .int .i64 sq, .int .i64 turn, .slice ta tl tc, .slice ca cl cc, .int .i64 pn, .int .i64 ps, .int .i64 pq, .bool pa, .slice da dl dc, .int .i64 cx, .int .i64 cy, .int .i64 ch, .int .i64 ce, .slice pla pll plc, .slice oa ol oc]) :
  Calls Tryz.prog 174 #[.slice a len cap, (.func (.func 175) #[] #[.pointer (some ⟨nb, 0, none⟩)])] w fun e w' => e = .returned (.bool (otA me len G)) ∧ Below w.heap.size w w' := by
 go_enter Tryz.func174, Tryz.ntmps174
 go_upto_region 1 with fail
 generalize hu : w.alloc (.cells _ _) = u
 obtain ⟨X, b0⟩ := box1 hu
 clear hu
 have dp := X.c 0 (.func (.func 175) #[] #[.pointer (some ⟨nb, 0, none⟩)]) rfl
 have hN' := range_below' hN b0
 clear X
 go_wp2_with fail
 refine (otCont_any a len cap G nb me up gone gate inc now sq turn ta tl tc ca cl cc pn ps pq pa da dl dc cx cy ch ce pla pll plc oa ol oc _ _ (hG.below b0) hm (hB.below b0) dp hN').mono ?_
 rintro e w1 ⟨rfl, b1⟩
 clear dp
 go_wp2
 go_ret
 exact ⟨ret_bool (by simp), btrans b0 b1⟩
def othsB (me : Int) (len : Nat) (G : Nat → Fg) : Bool := Fgasc len G && otA me len G
theorem others_any (me : Int) (up gone gate : Bool) (inc now sq turn : Int) (ta : Option Addr) (tl tc : Nat) (ca : Option Addr) (cl cc : Nat) (pn ps pq : Int) (pa : Bool) (da : Option Addr) (dl dc : Nat) (cx cy ch ce : Int) (pla : Option Addr) (pll plc : Nat) (oa : Option Addr) (ol oc : Nat) (G : Nat → Fg) (w : World) (hG : FgSl w oa ol G) (hm : ol ≤ 1048576) (hB : FgB w ol G) :
  Calls Tryz.prog 106 #[.agg #[.int .i64 me, .bool up, .bool gone, .bool gate, .int .i64 inc, .int .i64 now, .int .i64 sq, .int .i64 turn, .slice ta tl tc, .slice ca cl cc, .int .i64 pn, .int .i64 ps, .int .i64 pq, .bool pa, .slice da dl dc, .int .i64 cx, .int .i64 cy, .int .i64 ch, .int .i64 ce, .slice pla pll plc, .slice oa ol oc]] w fun r w' => r = .returned (.bool (othsB me ol G)) ∧ Below w.heap.size w w' := by
 go_enter Tryz.func106, Tryz.ntmps106
 go_upto_region 1 with fail
 generalize hu : w.alloc (.cells _ _) = u
 obtain ⟨X, b0⟩ := box1 hu
 clear hu
 have r8 := X.range
 have d20 := X.c 20 (.slice oa ol oc) rfl
 clear X
 go_wp2_with fail
 refine (Fgasc_any oa ol oc G _ (hG.below b0) hm).mono ?_
 rintro r w1 ⟨rfl, k1⟩
 have b1 := btrans b0 k1
 have e20 := keep_below k1 d20
 have r9 := range_below' r8 k1
 clear d20 k1 r8
 have hst : Hid (othsB me ol G = (Fgasc ol G && otA me ol G)) := rfl
 generalize Fgasc ol G = q at *
 cases q
 ·go_wp2
  go_ret
  exact ⟨ret_bool (by rw [hst.out]; rfl), b1⟩
 ·go_wp2_with fail
  refine (otAll_any oa ol oc G _ me up gone gate inc now sq turn ta tl tc ca cl cc pn ps pq pa da dl dc cx cy ch ce pla pll plc oa ol oc _ (hG.below b1) hm (hB.below b1) r9).mono ?_
  rintro r w2 ⟨rfl, k2⟩
  clear e20
  go_wp2
  go_ret
  exact ⟨ret_bool (by rw [hst.out]; rfl), btrans b1 k2⟩
end Go.Proofs.YtgcdcfjaeehnbaaGreat
