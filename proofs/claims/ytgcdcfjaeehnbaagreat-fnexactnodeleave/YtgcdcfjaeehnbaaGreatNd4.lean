/- Nodes: their tables. -/
import Derived.Test.YtgcdcfjaeehnbaaGreatNd2
import Derived.Test.YtgcdcfjaeehnbaaGreatInts
import Derived.Deep.MidRow
namespace Go.Proofs.YtgcdcfjaeehnbaaGreat
open Go.ChangeShapes Go.WideShapes Go.ChangeAt Go.RowKit
set_option maxRecDepth 20000
set_option maxHeartbeats 4000000
attribute [local go_sem ↓] Go.wp_at_zero Go.wp_at_succ
theorem row43 : ∃ d, Tryz.prog.underlying 42 = some d ∧ d.isRow = true := by
 have h : (Tryz.prog.underlying 42).map TypeDesc.isRow = some true := by kernel_rfl
 cases e : Tryz.prog.underlying 42 with
 | none => rw [e] at h; cases h
 | some d => rw [e] at h; exact ⟨d, rfl, by simpa using h⟩
theorem size43 : (Tryz.prog.info? 42).map (·.size) = some 21 := by kernel_rfl
theorem load43 {ops : Array Oper} {S : World → Prop} {op : Oper} {a : Act} (hw : Region.wanted op (yielded ops a.tmps) = true) (x : Operand) (ho : op.op = .load 42 x) (b : Nat) (hx : a.eval x = .pointer (some ⟨b, 0, none⟩)) (xs : List Value) (hS : ∀ w, S w → w.rangeAt b 0 xs) (hn : xs.length = 21) : YieldsIf Tryz.prog ops S op (.agg xs.toArray) a := by
 obtain ⟨d, hu, hd⟩ := row43
 exact yieldsIf_load_mid hw 42 x ho b 0 hx xs d hS hu hd (hn ▸ size43)
theorem Ws.range {w : World} {b : Nat} {xs : List Value} (h : Ws w b xs) : w.rangeAt b 0 xs := fun j v hv => by
 rw [Nat.zero_add]; exact h.c j v hv
theorem range_below' {w w' : World} {b : Nat} {v : Value} {xs : List Value} (h : w.rangeAt b 0 (v :: xs)) (k : Below w.heap.size w w') : w'.rangeAt b 0 (v :: xs) := fun j x hx =>
 keep_below k (h j x hx)
theorem range_drew {w : World} {b : Nat} {xs : List Value} (h : w.rangeAt b 0 xs) : w.drew.rangeAt b 0 xs := fun j x hx => keep_drew (h j x hx)
theorem FSl.drew' {w : World} {a : Option Addr} {len : Nat} {F : Nat → Fc} (h : FSl w a len F) : FSl w.drew a len F := h.below (Below.refl w.heap.size w).drew
theorem allOf_lit (a : Option Addr) (len cap : Nat) (F : Nat → Fc) (st : Int) (b : Bool) (hb : sitB len F st = b) (w : World) (h : FSl w a len F) (hl : len ≤ 1048576) :
  Calls Tryz.prog 155 #[.slice a len cap, .int .i64 st] w fun e w' => e = .returned (.bool b) ∧ Below w.heap.size w w' := hb ▸ allOf_any a len cap F st w h hl
def feqB (a b : Fc) : Bool := decide (a.n = b.n) && decide (a.i = b.i) && decide (a.s = b.s) && (a.g == b.g)
def tbB (me : Int) (gone gate : Bool) (inc : Int) (tl : Nat) (F : Nat → Fc) : Bool := tokB tl F && sitB tl F (ste me) && feqB (fo F (fnd tl F me)) (slf me gone gate inc)
def s90_2 : List Stp := [⟨some 13, .fieldAddr 42 (.tmp 1) 8, 0, none, 0⟩, ⟨some 14, .load 34 (.tmp 13), 34, none, 0⟩, ⟨some 15, .call { callee := .value (.func 154), args := #[.tmp 14], argTypes := #[34] }, 4, none, 1⟩, ⟨some 16, .move (.tmp 15), 4, none, 0⟩, ⟨some 17, .fieldAddr 42 (.tmp 1) 8, 0, some (16, true), 0⟩, ⟨some 18, .load 34 (.tmp 17), 34, some (16, true), 0⟩, ⟨some 19, .load 42 (.tmp 1), 42, some (16, true), 0⟩, ⟨some 20, .call { callee := .value (.func 156), args := #[.tmp 19], argTypes := #[42] }, 3, some (16, true), 1⟩, ⟨some 21, .call { callee := .value (.func 155), args := #[.tmp 18, .tmp 20], argTypes := #[34, 3] }, 4, some (16, true), 1⟩, ⟨some 22, .pick (.tmp 16) (.tmp 21) (.const (.bool false)), 4, none, 0⟩, ⟨some 23, .move (.tmp 22), 4, none, 0⟩, ⟨some 24, .load 96 (.tmp 3), 96, some (23, true), 0⟩, ⟨some 25, .load 42 (.tmp 1), 42, some (23, true), 0⟩, ⟨some 26, .call { callee := .value (.func 66), args := #[.tmp 25], argTypes := #[42] }, 96, some (23, true), 1⟩, ⟨some 27, .binOp .eql 96 (.tmp 24) (.tmp 26) 96, 4, some (23, true), 2⟩, ⟨some 28, .pick (.tmp 23) (.tmp 27) (.const (.bool false)), 4, none, 0⟩, ⟨some 2, .assign (.tmp 28), 4, none, 0⟩]
def t90_2 : List (Nat × Nat) := [(0, 0), (1, 0), (2, 1), (3, 0), (4, 0), (5, 0), (6, 0), (7, 1), (8, 1), (9, 0), (10, 0), (11, 0), (12, 0), (13, 1), (14, 2), (15, 0), (16, 0)]
theorem tab_any (me : Int) (up gone gate : Bool) (inc now sq turn : Int) (ta : Option Addr) (tl tc : Nat) (ca : Option Addr) (cl cc : Nat) (pn ps pq : Int) (pa : Bool) (da : Option Addr) (dl dc : Nat) (cx cy ch ce : Int) (pla : Option Addr) (pll plc : Nat) (oa : Option Addr) (ol oc : Nat) (F : Nat → Fc) (w : World) (h : FSl w ta tl F) (hl : tl ≤ 1048576) :
  Calls Tryz.prog 101 #[.agg #[.int .i64 me, .bool up, .bool gone, .bool gate, .int .i64 inc, .int .i64 now, .int .i64 sq, .int .i64 turn, .slice ta tl tc, .slice ca cl cc, .int .i64 pn, .int .i64 ps, .int .i64 pq, .bool pa, .slice da dl dc, .int .i64 cx, .int .i64 cy, .int .i64 ch, .int .i64 ce, .slice pla pll plc, .slice oa ol oc]] w fun r w' => r = .returned (.bool (tbB me gone gate inc tl F)) ∧ Below w.heap.size w w' := by
 go_enter Tryz.func101, Tryz.ntmps101
 go_upto_region 1 with fail
 generalize hu : w.alloc (.cells _ _) = u
 obtain ⟨X, b0⟩ := box1 hu
 clear hu
 have d0 := X.c 0 (.int .i64 me) rfl
 have d8 := X.c 8 (.slice ta tl tc) rfl
 have hst : Hid (tbB me gone gate inc tl F = (tokB tl F && sitB tl F (ste me) && feqB (fo F (fnd tl F me)) (slf me gone gate inc))) := rfl
 go_upto_region 2 with (go_at_call 127; refine (find_any ta tl tc F me _ (h.below b0) hl).mono ?_; rintro r w1 ⟨rfl, k1⟩; unfold fcV; generalize fo F (fnd tl F me) = f at *; generalize (fnd tl F me).isSome = g at *; obtain ⟨fn, fi, fs, fg⟩ := f; dsimp only at hst ⊢)
 have b1 := balloc (.cells #[.int .i64 fn, .int .i64 fi, .int .i64 fs, .bool fg] 96) (btrans b0 k1)
 have X1 := (X.below k1).alloc (.cells #[.int .i64 fn, .int .i64 fi, .int .i64 fs, .bool fg] 96)
 have Y1 := Ws.box (w := w1) #[.int .i64 fn, .int .i64 fi, .int .i64 fs, .bool fg] 96
 have q6 := h.below b1
 generalize w1.alloc (.cells #[.int .i64 fn, .int .i64 fi, .int .i64 fs, .bool fg] 96) = u2 at *
 generalize w1.heap.size = KO at *
 have q0 := X1.range
 have q1 := X1.c 8 (.slice ta tl tc) rfl
 have q2 := Y1.range
 have q7 := b1
 clear X X1 Y1 d0 d8 b1 b0 h
 cases z0 : tokB tl F
 ·have y0 : Hid (tokB tl F = false) := z0
  clear z0
  refine wp_region_q s90_2 t90_2 (fun hbq => ?_)
  refine qY ?_
  refine qL ?_
  refine qK (tok_lit ta tl tc F false _ (q6.below hbq) hl y0.out) hbq (fun w2 hbq => ?_)
  refine qY ?_
  iterate 5 refine qN ?_
  iterate 2 refine qY ?_
  iterate 4 refine qN ?_
  iterate 2 refine qY ?_
  refine qE ?_
  go_wp2
  go_ret
  exact ⟨ret_bool (by rw [hst.out, y0.out]; rfl), btrans q7 hbq⟩
 ·have y0 : Hid (tokB tl F = true) := z0
  clear z0
  cases z1 : sitB tl F (ste me)
  ·have y1 : Hid (sitB tl F (ste me) = false) := z1
   clear z1
   refine wp_region_q s90_2 t90_2 (fun hbq => ?_)
   refine qY ?_
   refine qL ?_
   refine qK (tok_lit ta tl tc F true _ (q6.below hbq) hl y0.out) hbq (fun w2 hbq => ?_)
   iterate 2 refine qY ?_
   refine qL ?_
   refine qR ?_
   refine qK (site_any me up gone gate inc now sq turn ta tl tc ca cl cc pn ps pq pa da dl dc cx cy ch ce pla pll plc oa ol oc _) hbq (fun w3 hbq => ?_)
   refine qK (allOf_lit ta tl tc F (ste me) false y1.out _ (q6.below hbq) hl) hbq (fun w4 hbq => ?_)
   iterate 2 refine qY ?_
   iterate 4 refine qN ?_
   iterate 2 refine qY ?_
   refine qE ?_
   go_wp2
   go_ret
   exact ⟨ret_bool (by rw [hst.out, y0.out, y1.out]; rfl), btrans q7 hbq⟩
  ·have y1 : Hid (sitB tl F (ste me) = true) := z1
   clear z1
   obtain ⟨gs, hsl⟩ : ∃ gs, Hid (slf me gone gate inc = ⟨me, inc, gs, gate⟩) := ⟨_, rfl⟩
   by_cases e0 : fn = me
   ·have e0' := e0.symm; subst e0'
    by_cases e1 : fi = inc
    ·have e1' := e1.symm; subst e1'
     by_cases e2 : fs = gs
     ·have e2' := e2.symm; subst e2'
      by_cases e3 : fg = gate
      ·have e3' := e3.symm; subst e3'
       refine wp_region_q s90_2 t90_2 (fun hbq => ?_)
       refine qY ?_
       refine qL ?_
       refine qK (tok_lit ta tl tc F true _ (q6.below hbq) hl y0.out) hbq (fun w2 hbq => ?_)
       iterate 2 refine qY ?_
       refine qL ?_
       refine qR ?_
       refine qK (site_any me up gone gate inc now sq turn ta tl tc ca cl cc pn ps pq pa da dl dc cx cy ch ce pla pll plc oa ol oc _) hbq (fun w3 hbq => ?_)
       refine qK (allOf_lit ta tl tc F (ste me) true y1.out _ (q6.below hbq) hl) hbq (fun w4 hbq => ?_)
       iterate 2 refine qY ?_
       iterate 2 refine qR ?_
       refine qC (fun K hK => ?_)
       go_simp
       refine (self_any me up gone gate inc now sq turn ta tl tc ca cl cc pn ps pq pa da dl dc cx cy ch ce pla pll plc oa ol oc _).mono ?_; rintro r w5 ⟨rfl, k5⟩; simp only [hsl.out, fcV]
       go_wp2_with fail
       refine hK.out _ _ (btrans hbq k5) (.inl ?_)
       clear hK K
       replace hbq := btrans hbq k5
       clear k5
       try simp only [putQ]
       refine qV (.bool true) ?_
       iterate 2 refine qY ?_
       refine qE ?_
       go_wp2
       go_ret
       exact ⟨ret_bool (by rw [hst.out, y0.out, y1.out, hsl.out]; simp [feqB]), btrans q7 hbq⟩
      ·have n3 : (fg == gate) = false := by simpa using e3
       refine wp_region_q s90_2 t90_2 (fun hbq => ?_)
       refine qY ?_
       refine qL ?_
       refine qK (tok_lit ta tl tc F true _ (q6.below hbq) hl y0.out) hbq (fun w2 hbq => ?_)
       iterate 2 refine qY ?_
       refine qL ?_
       refine qR ?_
       refine qK (site_any me up gone gate inc now sq turn ta tl tc ca cl cc pn ps pq pa da dl dc cx cy ch ce pla pll plc oa ol oc _) hbq (fun w3 hbq => ?_)
       refine qK (allOf_lit ta tl tc F (ste me) true y1.out _ (q6.below hbq) hl) hbq (fun w4 hbq => ?_)
       iterate 2 refine qY ?_
       iterate 2 refine qR ?_
       refine qC (fun K hK => ?_)
       go_simp
       refine (self_any me up gone gate inc now sq turn ta tl tc ca cl cc pn ps pq pa da dl dc cx cy ch ce pla pll plc oa ol oc _).mono ?_; rintro r w5 ⟨rfl, k5⟩; simp only [hsl.out, fcV]
       go_wp2_with fail
       refine hK.out _ _ (btrans hbq k5) (.inl ?_)
       clear hK K
       replace hbq := btrans hbq k5
       clear k5
       try simp only [putQ]
       refine qV (.bool false) ?_
       iterate 2 refine qY ?_
       refine qE ?_
       go_wp2
       go_ret
       exact ⟨ret_bool (by rw [hst.out, y0.out, y1.out, hsl.out]; simp [feqB, e3]), btrans q7 hbq⟩
     ·have n2 : (fs == gs) = false := by simpa using e2
      refine wp_region_q s90_2 t90_2 (fun hbq => ?_)
      refine qY ?_
      refine qL ?_
      refine qK (tok_lit ta tl tc F true _ (q6.below hbq) hl y0.out) hbq (fun w2 hbq => ?_)
      iterate 2 refine qY ?_
      refine qL ?_
      refine qR ?_
      refine qK (site_any me up gone gate inc now sq turn ta tl tc ca cl cc pn ps pq pa da dl dc cx cy ch ce pla pll plc oa ol oc _) hbq (fun w3 hbq => ?_)
      refine qK (allOf_lit ta tl tc F (ste me) true y1.out _ (q6.below hbq) hl) hbq (fun w4 hbq => ?_)
      iterate 2 refine qY ?_
      iterate 2 refine qR ?_
      refine qC (fun K hK => ?_)
      go_simp
      refine (self_any me up gone gate inc now sq turn ta tl tc ca cl cc pn ps pq pa da dl dc cx cy ch ce pla pll plc oa ol oc _).mono ?_; rintro r w5 ⟨rfl, k5⟩; simp only [hsl.out, fcV]
      go_wp2_with fail
      refine hK.out _ _ (btrans hbq k5) (.inl ?_)
      clear hK K
      replace hbq := btrans hbq k5
      clear k5
      try simp only [putQ]
      refine qV (.bool false) ?_
      iterate 2 refine qY ?_
      refine qE ?_
      go_wp2
      go_ret
      exact ⟨ret_bool (by rw [hst.out, y0.out, y1.out, hsl.out]; simp [feqB, e2]), btrans q7 hbq⟩
    ·have n1 : (fi == inc) = false := by simpa using e1
     refine wp_region_q s90_2 t90_2 (fun hbq => ?_)
     refine qY ?_
     refine qL ?_
     refine qK (tok_lit ta tl tc F true _ (q6.below hbq) hl y0.out) hbq (fun w2 hbq => ?_)
     iterate 2 refine qY ?_
     refine qL ?_
     refine qR ?_
     refine qK (site_any me up gone gate inc now sq turn ta tl tc ca cl cc pn ps pq pa da dl dc cx cy ch ce pla pll plc oa ol oc _) hbq (fun w3 hbq => ?_)
     refine qK (allOf_lit ta tl tc F (ste me) true y1.out _ (q6.below hbq) hl) hbq (fun w4 hbq => ?_)
     iterate 2 refine qY ?_
     iterate 2 refine qR ?_
     refine qC (fun K hK => ?_)
     go_simp
     refine (self_any me up gone gate inc now sq turn ta tl tc ca cl cc pn ps pq pa da dl dc cx cy ch ce pla pll plc oa ol oc _).mono ?_; rintro r w5 ⟨rfl, k5⟩; simp only [hsl.out, fcV]
     go_wp2_with fail
     refine hK.out _ _ (btrans hbq k5) (.inl ?_)
     clear hK K
     replace hbq := btrans hbq k5
     clear k5
     try simp only [putQ]
     refine qV (.bool false) ?_
     iterate 2 refine qY ?_
     refine qE ?_
     go_wp2
     go_ret
     exact ⟨ret_bool (by rw [hst.out, y0.out, y1.out, hsl.out]; simp [feqB, e1]), btrans q7 hbq⟩
   ·have n0 : (fn == me) = false := by simpa using e0
    refine wp_region_q s90_2 t90_2 (fun hbq => ?_)
    refine qY ?_
    refine qL ?_
    refine qK (tok_lit ta tl tc F true _ (q6.below hbq) hl y0.out) hbq (fun w2 hbq => ?_)
    iterate 2 refine qY ?_
    refine qL ?_
    refine qR ?_
    refine qK (site_any me up gone gate inc now sq turn ta tl tc ca cl cc pn ps pq pa da dl dc cx cy ch ce pla pll plc oa ol oc _) hbq (fun w3 hbq => ?_)
    refine qK (allOf_lit ta tl tc F (ste me) true y1.out _ (q6.below hbq) hl) hbq (fun w4 hbq => ?_)
    iterate 2 refine qY ?_
    iterate 2 refine qR ?_
    refine qC (fun K hK => ?_)
    go_simp
    refine (self_any me up gone gate inc now sq turn ta tl tc ca cl cc pn ps pq pa da dl dc cx cy ch ce pla pll plc oa ol oc _).mono ?_; rintro r w5 ⟨rfl, k5⟩; simp only [hsl.out, fcV]
    go_wp2_with fail
    refine hK.out _ _ (btrans hbq k5) (.inl ?_)
    clear hK K
    replace hbq := btrans hbq k5
    clear k5
    try simp only [putQ]
    refine qV (.bool false) ?_
    iterate 2 refine qY ?_
    refine qE ?_
    go_wp2
    go_ret
    exact ⟨ret_bool (by rw [hst.out, y0.out, y1.out, hsl.out]; simp [feqB, e0]), btrans q7 hbq⟩
end Go.Proofs.YtgcdcfjaeehnbaaGreat
namespace Go.Proofs.YtgcdcfjaeehnbaaGreat
open Go.ChangeShapes Go.WideShapes Go.ChangeAt Go.RowKit
set_option maxRecDepth 20000
set_option maxHeartbeats 4000000
attribute [local go_sem ↓] Go.wp_at_zero Go.wp_at_succ
theorem noP_any (w : World) : Calls Tryz.prog 110 #[] w fun r w' => r = .returned (.agg #[.int .i64 (-1), .int .i64 0, .int .i64 0, .bool false]) ∧ Below w.heap.size w w' := by
 go_enter Tryz.func110, Tryz.ntmps110
 go_wp2
 try simp only [Exit.inBlock, Exit.then]
 exact bodyPost_ret (v := .agg #[.int .i64 (-1), .int .i64 0, .int .i64 0, .bool false]) (by simp [results, Tryz.results110, go_sem]) rfl ⟨rfl, balloc _ (Below.refl _ _)⟩
def peqB (pn ps pq : Int) (pa : Bool) : Bool := decide (pn = -1) && decide (ps = 0) && decide (pq = 0) && !pa
def prbB (me now sq : Int) (tl : Nat) (F : Nat → Fc) (pn ps pq : Int) (pa : Bool) : Bool :=
 peqB pn ps pq pa || (decide (pn ≠ me) && decide (stn tl F pn ≠ 0) && inb ps 0 now && inb pq 1 sq)
theorem load43L {ops : Array Oper} {rest : List Oper} {op : Oper} {a : Act} {w : World} {Q : Exit → Act → World → Prop} (hw : Region.wanted op (yielded ops a.tmps) = true) (x : Operand) (ho : op.op = .load 42 x) (b : Nat) (hx : a.eval x = .pointer (some ⟨b, 0, none⟩)) (xs : List Value) (hS : w.rangeAt b 0 xs) (hn : xs.length = 21)
  (h : wpList Tryz.prog ops Q rest (a.put op.dst (.agg xs.toArray)) w) : wpList Tryz.prog ops Q (op :: rest) a w := by
 obtain ⟨d, hu, hd⟩ := row43
 unfold wpList
 rw [if_pos hw]
 exact Or.inl (wp_load_mid 42 x ho b 0 hx xs d hS hu hd (hn ▸ size43) h)
theorem stands_lit (me : Int) (up gone gate : Bool) (inc now sq turn : Int) (ta : Option Addr) (tl tc : Nat) (ca : Option Addr) (cl cc : Nat) (pn ps pq : Int) (pa : Bool) (da : Option Addr) (dl dc : Nat) (cx cy ch ce : Int) (pla : Option Addr) (pll plc : Nat) (oa : Option Addr) (ol oc : Nat) (F : Nat → Fc) (key b : Int) (hb : stn tl F key = b) (w : World) (h : FSl w ta tl F) (hl : tl ≤ 1048576) :
  Calls Tryz.prog 74 #[.agg #[.int .i64 me, .bool up, .bool gone, .bool gate, .int .i64 inc, .int .i64 now, .int .i64 sq, .int .i64 turn, .slice ta tl tc, .slice ca cl cc, .int .i64 pn, .int .i64 ps, .int .i64 pq, .bool pa, .slice da dl dc, .int .i64 cx, .int .i64 cy, .int .i64 ch, .int .i64 ce, .slice pla pll plc, .slice oa ol oc], .int .i64 key] w fun r w' => r = .returned (.int .i64 b) ∧ Below w.heap.size w w' := hb ▸ stands_any me up gone gate inc now sq turn ta tl tc ca cl cc pn ps pq pa da dl dc cx cy ch ce pla pll plc oa ol oc F key w h hl
theorem probe_any (me : Int) (up gone gate : Bool) (inc now sq turn : Int) (ta : Option Addr) (tl tc : Nat) (ca : Option Addr) (cl cc : Nat) (pn ps pq : Int) (pa : Bool) (da : Option Addr) (dl dc : Nat) (cx cy ch ce : Int) (pla : Option Addr) (pll plc : Nat) (oa : Option Addr) (ol oc : Nat) (F : Nat → Fc) (w : World) (h : FSl w ta tl F) (hl : tl ≤ 1048576) :
  Calls Tryz.prog 103 #[.agg #[.int .i64 me, .bool up, .bool gone, .bool gate, .int .i64 inc, .int .i64 now, .int .i64 sq, .int .i64 turn, .slice ta tl tc, .slice ca cl cc, .int .i64 pn, .int .i64 ps, .int .i64 pq, .bool pa, .slice da dl dc, .int .i64 cx, .int .i64 cy, .int .i64 ch, .int .i64 ce, .slice pla pll plc, .slice oa ol oc]] w fun r w' => r = .returned (.bool (prbB me now sq tl F pn ps pq pa)) ∧ Below w.heap.size w w' := by
 go_enter Tryz.func103, Tryz.ntmps103
 go_upto_region 1 with fail
 generalize hu : w.alloc (.cells _ _) = u
 obtain ⟨X, b0⟩ := box1 hu
 clear hu
 have d10 := X.c 10 (.int .i64 pn) rfl
 have d11 := X.c 11 (.int .i64 ps) rfl
 have d12 := X.c 12 (.int .i64 pq) rfl
 have d13 := X.c 13 (.bool pa) rfl
 go_upto_region 2 with fail
 have b1 := balloc (.cells #[.int .i64 pn, .int .i64 ps, .int .i64 pq, .bool pa] 36) b0
 have X1 := X.alloc (.cells #[.int .i64 pn, .int .i64 ps, .int .i64 pq, .bool pa] 36)
 have Y1 := Ws.box (w := u) #[.int .i64 pn, .int .i64 ps, .int .i64 pq, .bool pa] 36
 have q5 := h.below b1
 generalize u.alloc (.cells #[.int .i64 pn, .int .i64 ps, .int .i64 pq, .bool pa] 36) = u2 at *
 generalize u.heap.size = KO at *
 have q0 := X1.range
 have q1 := Y1.c 0 (.int .i64 pn) rfl
 have q2 := Y1.c 1 (.int .i64 ps) rfl
 have q3 := Y1.c 2 (.int .i64 pq) rfl
 have q4 := Y1.c 3 (.bool pa) rfl
 have q6 := b1
 clear X X1 Y1 d10 d11 d12 d13 b1 b0 h
 obtain ⟨q, hq⟩ : ∃ q, Hid (peqB pn ps pq pa = q) := ⟨_, rfl⟩
 refine wp_region_held_drew (S := fun w' => w'.rangeAt w.heap.size 0 [.int .i64 me, .bool up, .bool gone, .bool gate, .int .i64 inc, .int .i64 now, .int .i64 sq, .int .i64 turn, .slice ta tl tc, .slice ca cl cc, .int .i64 pn, .int .i64 ps, .int .i64 pq, .bool pa, .slice da dl dc, .int .i64 cx, .int .i64 cy, .int .i64 ch, .int .i64 ce, .slice pla pll plc, .slice oa ol oc] ∧ w'.cell? ⟨KO, 0, none⟩ = some (.int .i64 pn) ∧ w'.cell? ⟨KO, 1, none⟩ = some (.int .i64 ps) ∧ w'.cell? ⟨KO, 2, none⟩ = some (.int .i64 pq) ∧ w'.cell? ⟨KO, 3, none⟩ = some (.bool pa) ∧ FSl w' ta tl F ∧ Below w.heap.size w w') (by kernel_rfl) ?_ (fun hHeld => ?_)
 ·(try dsimp only); (first | exact ⟨range_drew q0, keep_drew q1, keep_drew q2, keep_drew q3, keep_drew q4, q5.drew', q6.drew⟩ | exact ⟨range_below' hHeld.1 k2, keep_below k2 hHeld.2.1, keep_below k2 hHeld.2.2.1, keep_below k2 hHeld.2.2.2.1, keep_below k2 hHeld.2.2.2.2.1, hHeld.2.2.2.2.2.1.below k2, btrans hHeld.2.2.2.2.2.2 k2⟩)
 refine tlT (i := 0) rfl ?_
 refine wpAnyH_ready (rs := [1]) (by kernel_rfl) (by simp) ?_
 refine AllReadyH.cons (o := _) rfl (fun K hK => ?_) AllReadyH.nil
 go_simp
 refine (noP_any _).mono ?_; rintro r w2 ⟨rfl, k2⟩
 go_wp2_with fail
 refine hK.out _ _ ?_ (fun hHeld => ?_)
 ·(try dsimp only); (first | exact ⟨range_drew q0, keep_drew q1, keep_drew q2, keep_drew q3, keep_drew q4, q5.drew', q6.drew⟩ | exact ⟨range_below' hHeld.1 k2, keep_below k2 hHeld.2.1, keep_below k2 hHeld.2.2.1, keep_below k2 hHeld.2.2.2.1, keep_below k2 hHeld.2.2.2.2.1, hHeld.2.2.2.2.2.1.below k2, btrans hHeld.2.2.2.2.2.2 k2⟩)
 clear hK K
 (try simp only [putP])
 refine wpAnyH_take (i := 2) (oi := _) (v := .bool q) rfl (by kernel_rfl) (by kernel_rfl) (by kernel_rfl) (fun _ _ _ h => h) (Or.inl ⟨by rfl, fun w _ => ?_⟩) (by assumption) ?_
 ·clear hHeld
  by_cases e0 : pn = -1
  ·have e0' := e0.symm; subst e0'
   by_cases e1 : ps = 0
   ·have e1' := e1.symm; subst e1'
    by_cases e2 : pq = 0
    ·have e2' := e2.symm; subst e2'
     cases pa
     ·obtain rfl : q = true := by rw [← hq.out]; rfl
      go_simp
      try with_reducible rfl
     ·obtain rfl : q = false := by rw [← hq.out]; rfl
      go_simp
      try with_reducible rfl
    ·obtain rfl : q = false := by rw [← hq.out]; simp [peqB, e2]
     have n2 : (pq == 0) = false := by simpa using e2
     go_simp
     try with_reducible rfl
   ·obtain rfl : q = false := by rw [← hq.out]; simp [peqB, e1]
    have n1 : (ps == 0) = false := by simpa using e1
    go_simp
    try with_reducible rfl
  ·obtain rfl : q = false := by rw [← hq.out]; simp [peqB, e0]
   have n0 : (pn == -1) = false := by simpa using e0
   go_simp
   try with_reducible rfl
 (try simp only [putP])
 refine wpAnyH_done (by kernel_rfl) ?_ _
 have r0 := hHeld.1 0 (.int .i64 me) rfl
 have r5 := hHeld.1 5 (.int .i64 now) rfl
 have r6 := hHeld.1 6 (.int .i64 sq) rfl
 rw [Nat.zero_add] at r0 r5 r6
 have r8 := hHeld.1
 have p0 := hHeld.2.1
 have p1 := hHeld.2.2.1
 have p2 := hHeld.2.2.2.1
 have p4 := hHeld.2.2.2.2.2.1
 have p5 := hHeld.2.2.2.2.2.2
 clear hHeld q0 q1 q2 q3 q4 q5 q6 k2
 cases q
 ·by_cases e0 : pn = me
  ·have n0 : (pn == me) = true := by simpa using e0
   have m0 : (pn != me) = false := by simp [e0]
   go_wp2
   go_ret
   exact ⟨ret_bool (by unfold prbB; rw [hq.out]; simp [e0]), p5⟩
  ·have n0 : (pn == me) = false := by simpa using e0
   have m0 : (pn != me) = true := by simp [e0]
   by_cases e1 : stn tl F pn = 0
   ·have y1 : Hid (stn tl F pn = 0) := e1
    clear e1
    go_wp2_with (first | (refine load43L (by rfl) (.tmp 1) rfl w.heap.size rfl [.int .i64 me, .bool up, .bool gone, .bool gate, .int .i64 inc, .int .i64 now, .int .i64 sq, .int .i64 turn, .slice ta tl tc, .slice ca cl cc, .int .i64 pn, .int .i64 ps, .int .i64 pq, .bool pa, .slice da dl dc, .int .i64 cx, .int .i64 cy, .int .i64 ch, .int .i64 ce, .slice pla pll plc, .slice oa ol oc] r8 rfl ?_; clear r8) | (go_at_call 74; refine (stands_lit me up gone gate inc now sq turn ta tl tc ca cl cc pn ps pq pa da dl dc cx cy ch ce pla pll plc oa ol oc F pn 0 y1.out _ p4 hl).mono ?_; rintro r w3 ⟨rfl, k3⟩))
    go_ret
    exact ⟨ret_bool (by unfold prbB; rw [hq.out, y1.out]; simp), btrans p5 k3⟩
   ·obtain ⟨sv, hsv⟩ : ∃ sv, Hid (stn tl F pn = sv) := ⟨_, rfl⟩
    have e2 : ¬ sv = 0 := hsv.out ▸ e1
    have n2 : (sv == 0) = false := by simpa using e2
    have m2 : (sv != 0) = true := by simp [e2]
    clear e1
    go_wp2_with (refine load43L (by rfl) (.tmp 1) rfl w.heap.size rfl [.int .i64 me, .bool up, .bool gone, .bool gate, .int .i64 inc, .int .i64 now, .int .i64 sq, .int .i64 turn, .slice ta tl tc, .slice ca cl cc, .int .i64 pn, .int .i64 ps, .int .i64 pq, .bool pa, .slice da dl dc, .int .i64 cx, .int .i64 cy, .int .i64 ch, .int .i64 ce, .slice pla pll plc, .slice oa ol oc] r8 rfl ?_; clear r8)
    refine (stands_lit me up gone gate inc now sq turn ta tl tc ca cl cc pn ps pq pa da dl dc cx cy ch ce pla pll plc oa ol oc F pn sv hsv.out _ p4 hl).mono ?_
    rintro r w3 ⟨rfl, k3⟩
    have p5' := btrans p5 k3
    have p1' := keep_below k3 p1
    have r5' := keep_below k3 r5
    have p2' := keep_below k3 p2
    have r6' := keep_below k3 r6
    clear p0 p1 p2 p4 p5 r0 r5 r6 k3
    go_wp2_with fail
    cases z3 : inb ps 0 now
    ·have y3 : Hid (inb ps 0 now = false) := z3
     clear z3
     refine (within_lit ps 0 now false y3.out _).mono ?_
     rintro r w4 ⟨rfl, hw⟩
     obtain rfl := hw.symm
     clear hw
     go_wp2
     go_ret
     exact ⟨ret_bool (by unfold prbB; rw [hq.out, y3.out]; simp), p5'⟩
    ·have y3 : Hid (inb ps 0 now = true) := z3
     clear z3
     refine (within_lit ps 0 now true y3.out _).mono ?_
     rintro r w4 ⟨rfl, hw⟩
     obtain rfl := hw.symm
     clear hw
     go_wp2_with fail
     obtain ⟨q9, hq9⟩ : ∃ q9, Hid (inb pq 1 sq = q9) := ⟨_, rfl⟩
     refine (within_lit pq 1 sq q9 hq9.out _).mono ?_
     rintro r w4 ⟨rfl, hw⟩
     obtain rfl := hw.symm
     clear hw
     go_wp2
     go_ret
     exact ⟨ret_bool (by unfold prbB; rw [hq.out, y3.out, hq9.out, hsv.out]; simp [e0, e2]), p5'⟩
 ·go_wp2
  go_ret
  exact ⟨ret_bool (by unfold prbB; rw [hq.out]; rfl), p5⟩
end Go.Proofs.YtgcdcfjaeehnbaaGreat
