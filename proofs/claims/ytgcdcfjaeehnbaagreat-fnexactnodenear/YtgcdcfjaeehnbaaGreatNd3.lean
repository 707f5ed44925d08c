/- Nodes: their tables. -/
import Derived.Test.YtgcdcfjaeehnbaaGreatNd2
import Derived.Test.YtgcdcfjaeehnbaaGreatWk
import Derived.Deep.MidRow
namespace Go.Proofs.YtgcdcfjaeehnbaaGreat
open Go.ChangeShapes Go.WideShapes Go.ChangeAt Go.RowKit
attribute [local go_sem ↓] Go.wp_at_zero Go.wp_at_succ
theorem row43 : ∃ d, Tryz.prog.underlying 42 = some d ∧ d.isRow = true := by
 have h : (Tryz.prog.underlying 42).map TypeDesc.isRow = some true := by kernel_rfl
 cases e : Tryz.prog.underlying 42 with
 | none => rw [e] at h; cases h
 | some d => rw [e] at h; exact ⟨d, rfl, by simpa using h⟩
theorem size43 : (Tryz.prog.info? 42).map (·.size) = some 21 := by kernel_rfl
theorem load43 {ops : Array Oper} {S : World → Prop} {op : Oper} {a : Act} (hw : Region.wanted op (yielded ops a.tmps) = true) (x : Operand) (ho : op.op = .load 42 x) (b : Nat) (hx : a.eval x = .pointer (some ⟨b, 0, none⟩)) (xs : List Value) (hS : ∀ w, S w → w.rangeAt b 0 xs) (hn : xs.length = 21) : YieldsIf Tryz.prog ops S op (.agg xs.toArray) a := by
 obtain ⟨d, hu, hd⟩ := row43
 exact yieldsIf_load_mid hw 42 x ho b 0 hx xs d hS hu hd (hn ▸ size43)
theorem Ws.range {w : World} {b : Nat} {xs : List Value} (h : Ws w b xs) : w.rangeAt b 0 xs := fun j v hv => by
 rw [Nat.zero_add]; exact h.c j v hv
theorem range_below' {w w' : World} {b : Nat} {v : Value} {xs : List Value} (h : w.rangeAt b 0 (v :: xs)) (k : Below w.heap.size w w') : w'.rangeAt b 0 (v :: xs) := fun j x hx =>
 keep_below k (h j x hx)
theorem range_drew {w : World} {b : Nat} {xs : List Value} (h : w.rangeAt b 0 xs) : w.drew.rangeAt b 0 xs := fun j x hx => keep_drew (h j x hx)
theorem FSl.drew' {w : World} {a : Option Addr} {len : Nat} {F : Nat → Fc} (h : FSl w a len F) : FSl w.drew a len F := h.below (Below.refl w.heap.size w).drew
theorem allOf_lit (a : Option Addr) (len cap : Nat) (F : Nat → Fc) (st : Int) (b : Bool) (hb : sitB len F st = b) (w : World) (h : FSl w a len F) (hl : len ≤ 1048576) :
  Calls Tryz.prog 155 #[.slice a len cap, .int .i64 st] w fun e w' => e = .returned (.bool b) ∧ Below w.heap.size w w' := hb ▸ allOf_any a len cap F st w h hl
/-- one fact is another -/
def feqB (a b : Fc) : Bool := decide (a.n = b.n) && decide (a.i = b.i) && decide (a.s = b.s) && (a.g == b.g)
/-- a node's table is ok -/
def tbB (me : Int) (gone gate : Bool) (inc : Int) (tl : Nat) (F : Nat → Fc) : Bool := tokB tl F && sitB tl F (ste me) && feqB (fo F (fnd tl F me)) (slf me gone gate inc)
def s90_2 : List Stp := [⟨some 13, .fieldAddr 42 (.tmp 1) 8, 0, none, 0⟩, ⟨some 14, .load 34 (.tmp 13), 34, none, 0⟩, ⟨some 15, .call { callee := .value (.func 154), args := #[.tmp 14], argTypes := #[34] }, 4, none, 1⟩, ⟨some 16, .move (.tmp 15), 4, none, 0⟩, ⟨some 17, .fieldAddr 42 (.tmp 1) 8, 0, some (16, true), 0⟩, ⟨some 18, .load 34 (.tmp 17), 34, some (16, true), 0⟩, ⟨some 19, .load 42 (.tmp 1), 42, some (16, true), 0⟩, ⟨some 20, .call { callee := .value (.func 156), args := #[.tmp 19], argTypes := #[42] }, 3, some (16, true), 1⟩, ⟨some 21, .call { callee := .value (.func 155), args := #[.tmp 18, .tmp 20], argTypes := #[34, 3] }, 4, some (16, true), 1⟩, ⟨some 22, .pick (.tmp 16) (.tmp 21) (.const (.bool false)), 4, none, 0⟩, ⟨some 23, .move (.tmp 22), 4, none, 0⟩, ⟨some 24, .load 96 (.tmp 3), 96, some (23, true), 0⟩, ⟨some 25, .load 42 (.tmp 1), 42, some (23, true), 0⟩, ⟨some 26, .call { callee := .value (.func 66), args := #[.tmp 25], argTypes := #[42] }, 96, some (23, true), 1⟩, ⟨some 27, .binOp .eql 96 (.tmp 24) (.tmp 26) 96, 4, some (23, true), 2⟩, ⟨some 28, .pick (.tmp 23) (.tmp 27) (.const (.bool false)), 4, none, 0⟩, ⟨some 2, .assign (.tmp 28), 4, none, 0⟩]
def t90_2 : List (Nat × Nat) := [(0, 0), (1, 0), (2, 1), (3, 0), (4, 0), (5, 0), (6, 0), (7, 1), (8, 1), (9, 0), (10, 0), (11, 0), (12, 0), (13, 1), (14, 2), (15, 0), (16, 0)]
set_option maxRecDepth 20000 in
set_option maxHeartbeats 4000000 in
theorem tab_any (me : Int) (up gone gate : Bool) (inc now sq turn : Int) (ta : Option Addr) (tl tc : Nat) (ca : Option Addr) (cl cc : Nat) (pn ps pq : Int) (pa : Bool) (da : Option Addr) (dl dc : Nat) (cx cy ch ce : Int) (pla : Option Addr) (pll plc : Nat) (oa : Option Addr) (ol oc : Nat) (F : Nat → Fc) (w : World) (h : FSl w ta tl F) (hl : tl ≤ 1048576) :
  Calls Tryz.prog 101 #[.agg #[.int .i64 me, .bool up, .bool gone, .bool gate, .int .i64 inc, .int .i64 now, .int .i64 sq, .int .i64 turn, .slice ta tl tc, .slice ca cl cc, .int .i64 pn, .int .i64 ps, .int .i64 pq, .bool pa, .slice da dl dc, .int .i64 cx, .int .i64 cy, .int .i64 ch, .int .i64 ce, .slice pla pll plc, .slice oa ol oc]] w fun r w' => r = .returned (.bool (tbB me gone gate inc tl F)) ∧ Below w.heap.size w w' := by
 have b0 := balloc (.cells #[.int .i64 me, .bool up, .bool gone, .bool gate, .int .i64 inc, .int .i64 now, .int .i64 sq, .int .i64 turn, .slice ta tl tc, .slice ca cl cc, .int .i64 pn, .int .i64 ps, .int .i64 pq, .bool pa, .slice da dl dc, .int .i64 cx, .int .i64 cy, .int .i64 ch, .int .i64 ce, .slice pla pll plc, .slice oa ol oc] 42) (Below.refl w.heap.size w)
 have X := Ws.box (w := w) #[.int .i64 me, .bool up, .bool gone, .bool gate, .int .i64 inc, .int .i64 now, .int .i64 sq, .int .i64 turn, .slice ta tl tc, .slice ca cl cc, .int .i64 pn, .int .i64 ps, .int .i64 pq, .bool pa, .slice da dl dc, .int .i64 cx, .int .i64 cy, .int .i64 ch, .int .i64 ce, .slice pla pll plc, .slice oa ol oc] 42
 go_enter Tryz.func101, Tryz.ntmps101
 go_upto_region 1 with fail
 generalize w.alloc (.cells #[.int .i64 me, .bool up, .bool gone, .bool gate, .int .i64 inc, .int .i64 now, .int .i64 sq, .int .i64 turn, .slice ta tl tc, .slice ca cl cc, .int .i64 pn, .int .i64 ps, .int .i64 pq, .bool pa, .slice da dl dc, .int .i64 cx, .int .i64 cy, .int .i64 ch, .int .i64 ce, .slice pla pll plc, .slice oa ol oc] 42) = u at *
 have d0 := X.c 0 (.int .i64 me) rfl
 have d8 := X.c 8 (.slice ta tl tc) rfl
 have hst : Hid (tbB me gone gate inc tl F = (tokB tl F && sitB tl F (ste me) && feqB (fo F (fnd tl F me)) (slf me gone gate inc))) := rfl
 go_upto_region 2 with (go_at_call 127; refine (find_any ta tl tc F me _ (h.below b0) hl).mono ?_; rintro r w1 ⟨rfl, k1⟩; unfold fcV; generalize fo F (fnd tl F me) = f at *; generalize (fnd tl F me).isSome = g at *; obtain ⟨fn, fi, fs, fg⟩ := f; dsimp only at hst ⊢)
 have b1 := balloc (.cells #[.int .i64 fn, .int .i64 fi, .int .i64 fs, .bool fg] 96) (btrans b0 k1)
 have X1 := (X.below k1).alloc (.cells #[.int .i64 fn, .int .i64 fi, .int .i64 fs, .bool fg] 96)
 have Y1 := Ws.box (w := w1) #[.int .i64 fn, .int .i64 fi, .int .i64 fs, .bool fg] 96
 have q6 := h.below b1
 generalize w1.alloc (.cells #[.int .i64 fn, .int .i64 fi, .int .i64 fs, .bool fg] 96) = u2 at *
 generalize w1.heap.size = KO at *
 have q0 := X1.range
 have q1 := X1.c 8 (.slice ta tl tc) rfl
 have q2 := Y1.range
 have q7 := b1
 clear X X1 Y1 d0 d8 b1 b0 h
 cases z0 : tokB tl F
 ·have y0 : Hid (tokB tl F = false) := z0
  clear z0
  refine wp_region_q s90_2 t90_2 (fun hbq => ?_)
  refine qY ?_
  refine qL ?_
  refine qC (fun K hK => ?_)
  go_simp
  refine (tok_lit ta tl tc F false _ (q6.below hbq) hl y0.out).mono ?_; rintro r w2 ⟨rfl, k2⟩
  go_wp2_with fail
  refine hK.out _ _ (btrans hbq k2) (.inl ?_)
  clear hK K
  replace hbq := btrans hbq k2
  clear k2
  try simp only [putQ]
  refine qY ?_
  iterate 5 refine qN ?_
  iterate 2 refine qY ?_
  iterate 4 refine qN ?_
  iterate 2 refine qY ?_
  refine qE ?_
  go_wp2
  go_ret
  exact ⟨ret_bool (by rw [hst.out, y0.out]; rfl), btrans q7 hbq⟩
 ·have y0 : Hid (tokB tl F = true) := z0
  clear z0
  cases z1 : sitB tl F (ste me)
  ·have y1 : Hid (sitB tl F (ste me) = false) := z1
   clear z1
   refine wp_region_q s90_2 t90_2 (fun hbq => ?_)
   refine qY ?_
   refine qL ?_
   refine qC (fun K hK => ?_)
   go_simp
   refine (tok_lit ta tl tc F true _ (q6.below hbq) hl y0.out).mono ?_; rintro r w2 ⟨rfl, k2⟩
   go_wp2_with fail
   refine hK.out _ _ (btrans hbq k2) (.inl ?_)
   clear hK K
   replace hbq := btrans hbq k2
   clear k2
   try simp only [putQ]
   iterate 2 refine qY ?_
   refine qL ?_
   refine qR ?_
   refine qC (fun K hK => ?_)
   go_simp
   refine (site_any me up gone gate inc now sq turn ta tl tc ca cl cc pn ps pq pa da dl dc cx cy ch ce pla pll plc oa ol oc _).mono ?_; rintro r w3 ⟨rfl, k3⟩
   go_wp2_with fail
   refine hK.out _ _ (btrans hbq k3) (.inl ?_)
   clear hK K
   replace hbq := btrans hbq k3
   clear k3
   try simp only [putQ]
   refine qC (fun K hK => ?_)
   go_simp
   refine (allOf_lit ta tl tc F (ste me) false y1.out _ (q6.below hbq) hl).mono ?_; rintro r w4 ⟨rfl, k4⟩
   go_wp2_with fail
   refine hK.out _ _ (btrans hbq k4) (.inl ?_)
   clear hK K
   replace hbq := btrans hbq k4
   clear k4
   try simp only [putQ]
   iterate 2 refine qY ?_
   iterate 4 refine qN ?_
   iterate 2 refine qY ?_
   refine qE ?_
   go_wp2
   go_ret
   exact ⟨ret_bool (by rw [hst.out, y0.out, y1.out]; rfl), btrans q7 hbq⟩
  ·have y1 : Hid (sitB tl F (ste me) = true) := z1
   clear z1
   obtain ⟨gs, hsl⟩ : ∃ gs, Hid (slf me gone gate inc = ⟨me, inc, gs, gate⟩) := ⟨_, rfl⟩
   by_cases e0 : fn = me
   ·have e0' := e0.symm; subst e0'
    by_cases e1 : fi = inc
    ·have e1' := e1.symm; subst e1'
     by_cases e2 : fs = gs
     ·have e2' := e2.symm; subst e2'
      by_cases e3 : fg = gate
      ·have e3' := e3.symm; subst e3'
       refine wp_region_q s90_2 t90_2 (fun hbq => ?_)
       refine qY ?_
       refine qL ?_
       refine qC (fun K hK => ?_)
       go_simp
       refine (tok_lit ta tl tc F true _ (q6.below hbq) hl y0.out).mono ?_; rintro r w2 ⟨rfl, k2⟩
       go_wp2_with fail
       refine hK.out _ _ (btrans hbq k2) (.inl ?_)
       clear hK K
       replace hbq := btrans hbq k2
       clear k2
       try simp only [putQ]
       iterate 2 refine qY ?_
       refine qL ?_
       refine qR ?_
       refine qC (fun K hK => ?_)
       go_simp
       refine (site_any me up gone gate inc now sq turn ta tl tc ca cl cc pn ps pq pa da dl dc cx cy ch ce pla pll plc oa ol oc _).mono ?_; rintro r w3 ⟨rfl, k3⟩
       go_wp2_with fail
       refine hK.out _ _ (btrans hbq k3) (.inl ?_)
       clear hK K
       replace hbq := btrans hbq k3
       clear k3
       try simp only [putQ]
       refine qC (fun K hK => ?_)
       go_simp
       refine (allOf_lit ta tl tc F (ste me) true y1.out _ (q6.below hbq) hl).mono ?_; rintro r w4 ⟨rfl, k4⟩
       go_wp2_with fail
       refine hK.out _ _ (btrans hbq k4) (.inl ?_)
       clear hK K
       replace hbq := btrans hbq k4
       clear k4
       try simp only [putQ]
       iterate 2 refine qY ?_
       iterate 2 refine qR ?_
       refine qC (fun K hK => ?_)
       go_simp
       refine (self_any me up gone gate inc now sq turn ta tl tc ca cl cc pn ps pq pa da dl dc cx cy ch ce pla pll plc oa ol oc _).mono ?_; rintro r w5 ⟨rfl, k5⟩; simp only [hsl.out, fcV]
       go_wp2_with fail
       refine hK.out _ _ (btrans hbq k5) (.inl ?_)
       clear hK K
       replace hbq := btrans hbq k5
       clear k5
       try simp only [putQ]
       refine qV (.bool true) ?_
       iterate 2 refine qY ?_
       refine qE ?_
       go_wp2
       go_ret
       exact ⟨ret_bool (by rw [hst.out, y0.out, y1.out, hsl.out]; simp [feqB]), btrans q7 hbq⟩
      ·have n3 : (fg == gate) = false := by simpa using e3
       refine wp_region_q s90_2 t90_2 (fun hbq => ?_)
       refine qY ?_
       refine qL ?_
       refine qC (fun K hK => ?_)
       go_simp
       refine (tok_lit ta tl tc F true _ (q6.below hbq) hl y0.out).mono ?_; rintro r w2 ⟨rfl, k2⟩
       go_wp2_with fail
       refine hK.out _ _ (btrans hbq k2) (.inl ?_)
       clear hK K
       replace hbq := btrans hbq k2
       clear k2
       try simp only [putQ]
       iterate 2 refine qY ?_
       refine qL ?_
       refine qR ?_
       refine qC (fun K hK => ?_)
       go_simp
       refine (site_any me up gone gate inc now sq turn ta tl tc ca cl cc pn ps pq pa da dl dc cx cy ch ce pla pll plc oa ol oc _).mono ?_; rintro r w3 ⟨rfl, k3⟩
       go_wp2_with fail
       refine hK.out _ _ (btrans hbq k3) (.inl ?_)
       clear hK K
       replace hbq := btrans hbq k3
       clear k3
       try simp only [putQ]
       refine qC (fun K hK => ?_)
       go_simp
       refine (allOf_lit ta tl tc F (ste me) true y1.out _ (q6.below hbq) hl).mono ?_; rintro r w4 ⟨rfl, k4⟩
       go_wp2_with fail
       refine hK.out _ _ (btrans hbq k4) (.inl ?_)
       clear hK K
       replace hbq := btrans hbq k4
       clear k4
       try simp only [putQ]
       iterate 2 refine qY ?_
       iterate 2 refine qR ?_
       refine qC (fun K hK => ?_)
       go_simp
       refine (self_any me up gone gate inc now sq turn ta tl tc ca cl cc pn ps pq pa da dl dc cx cy ch ce pla pll plc oa ol oc _).mono ?_; rintro r w5 ⟨rfl, k5⟩; simp only [hsl.out, fcV]
       go_wp2_with fail
       refine hK.out _ _ (btrans hbq k5) (.inl ?_)
       clear hK K
       replace hbq := btrans hbq k5
       clear k5
       try simp only [putQ]
       refine qV (.bool false) ?_
       iterate 2 refine qY ?_
       refine qE ?_
       go_wp2
       go_ret
       exact ⟨ret_bool (by rw [hst.out, y0.out, y1.out, hsl.out]; simp [feqB, e3]), btrans q7 hbq⟩
     ·have n2 : (fs == gs) = false := by simpa using e2
      refine wp_region_q s90_2 t90_2 (fun hbq => ?_)
      refine qY ?_
      refine qL ?_
      refine qC (fun K hK => ?_)
      go_simp
      refine (tok_lit ta tl tc F true _ (q6.below hbq) hl y0.out).mono ?_; rintro r w2 ⟨rfl, k2⟩
      go_wp2_with fail
      refine hK.out _ _ (btrans hbq k2) (.inl ?_)
      clear hK K
      replace hbq := btrans hbq k2
      clear k2
      try simp only [putQ]
      iterate 2 refine qY ?_
      refine qL ?_
      refine qR ?_
      refine qC (fun K hK => ?_)
      go_simp
      refine (site_any me up gone gate inc now sq turn ta tl tc ca cl cc pn ps pq pa da dl dc cx cy ch ce pla pll plc oa ol oc _).mono ?_; rintro r w3 ⟨rfl, k3⟩
      go_wp2_with fail
      refine hK.out _ _ (btrans hbq k3) (.inl ?_)
      clear hK K
      replace hbq := btrans hbq k3
      clear k3
      try simp only [putQ]
      refine qC (fun K hK => ?_)
      go_simp
      refine (allOf_lit ta tl tc F (ste me) true y1.out _ (q6.below hbq) hl).mono ?_; rintro r w4 ⟨rfl, k4⟩
      go_wp2_with fail
      refine hK.out _ _ (btrans hbq k4) (.inl ?_)
      clear hK K
      replace hbq := btrans hbq k4
      clear k4
      try simp only [putQ]
      iterate 2 refine qY ?_
      iterate 2 refine qR ?_
      refine qC (fun K hK => ?_)
      go_simp
      refine (self_any me up gone gate inc now sq turn ta tl tc ca cl cc pn ps pq pa da dl dc cx cy ch ce pla pll plc oa ol oc _).mono ?_; rintro r w5 ⟨rfl, k5⟩; simp only [hsl.out, fcV]
      go_wp2_with fail
      refine hK.out _ _ (btrans hbq k5) (.inl ?_)
      clear hK K
      replace hbq := btrans hbq k5
      clear k5
      try simp only [putQ]
      refine qV (.bool false) ?_
      iterate 2 refine qY ?_
      refine qE ?_
      go_wp2
      go_ret
      exact ⟨ret_bool (by rw [hst.out, y0.out, y1.out, hsl.out]; simp [feqB, e2]), btrans q7 hbq⟩
    ·have n1 : (fi == inc) = false := by simpa using e1
     refine wp_region_q s90_2 t90_2 (fun hbq => ?_)
     refine qY ?_
     refine qL ?_
     refine qC (fun K hK => ?_)
     go_simp
     refine (tok_lit ta tl tc F true _ (q6.below hbq) hl y0.out).mono ?_; rintro r w2 ⟨rfl, k2⟩
     go_wp2_with fail
     refine hK.out _ _ (btrans hbq k2) (.inl ?_)
     clear hK K
     replace hbq := btrans hbq k2
     clear k2
     try simp only [putQ]
     iterate 2 refine qY ?_
     refine qL ?_
     refine qR ?_
     refine qC (fun K hK => ?_)
     go_simp
     refine (site_any me up gone gate inc now sq turn ta tl tc ca cl cc pn ps pq pa da dl dc cx cy ch ce pla pll plc oa ol oc _).mono ?_; rintro r w3 ⟨rfl, k3⟩
     go_wp2_with fail
     refine hK.out _ _ (btrans hbq k3) (.inl ?_)
     clear hK K
     replace hbq := btrans hbq k3
     clear k3
     try simp only [putQ]
     refine qC (fun K hK => ?_)
     go_simp
     refine (allOf_lit ta tl tc F (ste me) true y1.out _ (q6.below hbq) hl).mono ?_; rintro r w4 ⟨rfl, k4⟩
     go_wp2_with fail
     refine hK.out _ _ (btrans hbq k4) (.inl ?_)
     clear hK K
     replace hbq := btrans hbq k4
     clear k4
     try simp only [putQ]
     iterate 2 refine qY ?_
     iterate 2 refine qR ?_
     refine qC (fun K hK => ?_)
     go_simp
     refine (self_any me up gone gate inc now sq turn ta tl tc ca cl cc pn ps pq pa da dl dc cx cy ch ce pla pll plc oa ol oc _).mono ?_; rintro r w5 ⟨rfl, k5⟩; simp only [hsl.out, fcV]
     go_wp2_with fail
     refine hK.out _ _ (btrans hbq k5) (.inl ?_)
     clear hK K
     replace hbq := btrans hbq k5
     clear k5
     try simp only [putQ]
     refine qV (.bool false) ?_
     iterate 2 refine qY ?_
     refine qE ?_
     go_wp2
     go_ret
     exact ⟨ret_bool (by rw [hst.out, y0.out, y1.out, hsl.out]; simp [feqB, e1]), btrans q7 hbq⟩
   ·have n0 : (fn == me) = false := by simpa using e0
    refine wp_region_q s90_2 t90_2 (fun hbq => ?_)
    refine qY ?_
    refine qL ?_
    refine qC (fun K hK => ?_)
    go_simp
    refine (tok_lit ta tl tc F true _ (q6.below hbq) hl y0.out).mono ?_; rintro r w2 ⟨rfl, k2⟩
    go_wp2_with fail
    refine hK.out _ _ (btrans hbq k2) (.inl ?_)
    clear hK K
    replace hbq := btrans hbq k2
    clear k2
    try simp only [putQ]
    iterate 2 refine qY ?_
    refine qL ?_
    refine qR ?_
    refine qC (fun K hK => ?_)
    go_simp
    refine (site_any me up gone gate inc now sq turn ta tl tc ca cl cc pn ps pq pa da dl dc cx cy ch ce pla pll plc oa ol oc _).mono ?_; rintro r w3 ⟨rfl, k3⟩
    go_wp2_with fail
    refine hK.out _ _ (btrans hbq k3) (.inl ?_)
    clear hK K
    replace hbq := btrans hbq k3
    clear k3
    try simp only [putQ]
    refine qC (fun K hK => ?_)
    go_simp
    refine (allOf_lit ta tl tc F (ste me) true y1.out _ (q6.below hbq) hl).mono ?_; rintro r w4 ⟨rfl, k4⟩
    go_wp2_with fail
    refine hK.out _ _ (btrans hbq k4) (.inl ?_)
    clear hK K
    replace hbq := btrans hbq k4
    clear k4
    try simp only [putQ]
    iterate 2 refine qY ?_
    iterate 2 refine qR ?_
    refine qC (fun K hK => ?_)
    go_simp
    refine (self_any me up gone gate inc now sq turn ta tl tc ca cl cc pn ps pq pa da dl dc cx cy ch ce pla pll plc oa ol oc _).mono ?_; rintro r w5 ⟨rfl, k5⟩; simp only [hsl.out, fcV]
    go_wp2_with fail
    refine hK.out _ _ (btrans hbq k5) (.inl ?_)
    clear hK K
    replace hbq := btrans hbq k5
    clear k5
    try simp only [putQ]
    refine qV (.bool false) ?_
    iterate 2 refine qY ?_
    refine qE ?_
    go_wp2
    go_ret
    exact ⟨ret_bool (by rw [hst.out, y0.out, y1.out, hsl.out]; simp [feqB, e0]), btrans q7 hbq⟩
end Go.Proofs.YtgcdcfjaeehnbaaGreat
