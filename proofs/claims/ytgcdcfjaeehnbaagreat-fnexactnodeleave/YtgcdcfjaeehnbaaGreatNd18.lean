/- Nodes, the model's way: who is ok. -/
import Derived.Test.YtgcdcfjaeehnbaaGreatNd13
import Derived.Test.YtgcdcfjaeehnbaaGreatNd15
import Derived.Test.YtgcdcfjaeehnbaaGreatNd16
import Derived.Test.YtgcdcfjaeehnbaaGreatNd20
import Derived.Test.YtgcdcfjaeehnbaaGreatInts
namespace Go.Proofs.YtgcdcfjaeehnbaaGreat
open Go.ChangeShapes Go.WideShapes Go.ChangeAt Go.RowKit
set_option maxRecDepth 20000
set_option maxHeartbeats 8000000
attribute [local go_sem ↓] Go.wp_at_zero Go.wp_at_succ
def s9_5 : List Stp := [⟨some 127, .fieldAddr 42 (.tmp 1) 8, 0, none, 0⟩, ⟨some 128, .load 34 (.tmp 127), 34, none, 0⟩, ⟨some 129, .call { callee := .value (.func 79), args := #[.tmp 128], argTypes := #[34] }, 4, none, 1⟩, ⟨some 130, .move (.tmp 129), 4, none, 0⟩, ⟨some 131, .fieldAddr 42 (.tmp 1) 8, 0, some (130, true), 0⟩, ⟨some 132, .load 34 (.tmp 131), 34, some (130, true), 0⟩, ⟨some 133, .fieldAddr 42 (.tmp 1) 0, 0, some (130, true), 0⟩, ⟨some 134, .load 3 (.tmp 133), 3, some (130, true), 0⟩, ⟨some 135, .call { callee := .value (.func 81), args := #[.tmp 134], argTypes := #[3] }, 3, some (130, true), 1⟩, ⟨some 136, .call { callee := .value (.func 80), args := #[.tmp 132, .tmp 135], argTypes := #[34, 3] }, 4, some (130, true), 1⟩, ⟨some 137, .pick (.tmp 130) (.tmp 136) (.const (.bool false)), 4, none, 0⟩, ⟨some 138, .move (.tmp 137), 4, none, 0⟩, ⟨some 139, .load 42 (.tmp 1), 42, some (138, true), 0⟩, ⟨some 140, .call { callee := .value (.func 82), args := #[.tmp 139], argTypes := #[42] }, 4, some (138, true), 1⟩, ⟨some 141, .pick (.tmp 138) (.tmp 140) (.const (.bool false)), 4, none, 0⟩, ⟨some 142, .move (.tmp 141), 4, none, 0⟩, ⟨some 143, .load 42 (.tmp 1), 42, some (142, true), 0⟩, ⟨some 144, .call { callee := .value (.func 83), args := #[.tmp 143], argTypes := #[42] }, 4, some (142, true), 1⟩, ⟨some 145, .pick (.tmp 142) (.tmp 144) (.const (.bool false)), 4, none, 0⟩, ⟨some 146, .move (.tmp 145), 4, none, 0⟩, ⟨some 147, .load 42 (.tmp 1), 42, some (146, true), 0⟩, ⟨some 148, .call { callee := .value (.func 84), args := #[.tmp 147], argTypes := #[42] }, 4, some (146, true), 1⟩, ⟨some 149, .pick (.tmp 146) (.tmp 148) (.const (.bool false)), 4, none, 0⟩, ⟨some 150, .move (.tmp 149), 4, none, 0⟩, ⟨some 151, .load 42 (.tmp 1), 42, some (150, true), 0⟩, ⟨some 152, .call { callee := .value (.func 85), args := #[.tmp 151], argTypes := #[42] }, 4, some (150, true), 1⟩, ⟨some 153, .pick (.tmp 150) (.tmp 152) (.const (.bool false)), 4, none, 0⟩, ⟨some 154, .move (.tmp 153), 4, none, 0⟩, ⟨some 155, .fieldAddr 42 (.tmp 1) 12, 0, some (154, true), 0⟩, ⟨some 156, .load 38 (.tmp 155), 38, some (154, true), 0⟩, ⟨some 157, .call { callee := .value (.func 86), args := #[.tmp 156], argTypes := #[38] }, 4, some (154, true), 1⟩, ⟨some 158, .pick (.tmp 154) (.tmp 157) (.const (.bool false)), 4, none, 0⟩, ⟨some 159, .move (.tmp 158), 4, none, 0⟩, ⟨some 160, .load 42 (.tmp 1), 42, some (159, true), 0⟩, ⟨some 161, .call { callee := .value (.func 87), args := #[.tmp 160], argTypes := #[42] }, 4, some (159, true), 1⟩, ⟨some 162, .pick (.tmp 159) (.tmp 161) (.const (.bool false)), 4, none, 0⟩, ⟨some 163, .move (.tmp 162), 4, none, 0⟩, ⟨some 164, .load 42 (.tmp 1), 42, some (163, true), 0⟩, ⟨some 165, .call { callee := .value (.func 88), args := #[.tmp 164], argTypes := #[42] }, 4, some (163, true), 1⟩, ⟨some 166, .pick (.tmp 163) (.tmp 165) (.const (.bool false)), 4, none, 0⟩, ⟨some 2, .assign (.tmp 166), 4, none, 0⟩]
def t9_5 : List (Nat × Nat) := [(0, 0), (1, 0), (2, 1), (3, 0), (4, 0), (5, 0), (6, 0), (7, 0), (8, 1), (9, 1), (10, 0), (11, 0), (12, 0), (13, 1), (14, 0), (15, 0), (16, 0), (17, 1), (18, 0), (19, 0), (20, 0), (21, 1), (22, 0), (23, 0), (24, 0), (25, 1), (26, 0), (27, 0), (28, 0), (29, 0), (30, 1), (31, 0), (32, 0), (33, 0), (34, 1), (35, 0), (36, 0), (37, 0), (38, 1), (39, 0), (40, 0)]
section
set_option linter.unusedVariables false
theorem sself_lit (me : Int) (up gone gate : Bool) (inc now sq turn : Int) (ta : Option Addr) (tl tc : Nat) (ca : Option Addr) (cl cc : Nat) (pn ps pq : Int) (pa : Bool) (da : Option Addr) (dl dc : Nat) (cx cy ch ce : Int) (pla : Option Addr) (pll plc : Nat) (oa : Option Addr) (ol oc : Nat) (F : Nat → Fc) (GI : Nat → It) (GD : Nat → Dt) (GP : Nat → Pl) (GO : Nat → Fg) (b : Bool) (hb : sslfB me gone gate inc tl F = b) (w : World) (h : NdIn w ta tl F ca cl GI da dl GD pla pll GP oa ol GO) :
  Calls Tryz.prog 82 #[.agg #[.int .i64 me, .bool up, .bool gone, .bool gate, .int .i64 inc, .int .i64 now, .int .i64 sq, .int .i64 turn, .slice ta tl tc, .slice ca cl cc, .int .i64 pn, .int .i64 ps, .int .i64 pq, .bool pa, .slice da dl dc, .int .i64 cx, .int .i64 cy, .int .i64 ch, .int .i64 ce, .slice pla pll plc, .slice oa ol oc]] w fun r w' => r = .returned (.bool b) ∧ Below w.heap.size w w' := hb ▸ sself_any me up gone gate inc now sq turn ta tl tc ca cl cc pn ps pq pa da dl dc cx cy ch ce pla pll plc oa ol oc F w h.f h.hf
theorem scast_lit (me : Int) (up gone gate : Bool) (inc now sq turn : Int) (ta : Option Addr) (tl tc : Nat) (ca : Option Addr) (cl cc : Nat) (pn ps pq : Int) (pa : Bool) (da : Option Addr) (dl dc : Nat) (cx cy ch ce : Int) (pla : Option Addr) (pll plc : Nat) (oa : Option Addr) (ol oc : Nat) (F : Nat → Fc) (GI : Nat → It) (GD : Nat → Dt) (GP : Nat → Pl) (GO : Nat → Fg) (b : Bool) (hb : scastB tl F cl GI = b) (w : World) (h : NdIn w ta tl F ca cl GI da dl GD pla pll GP oa ol GO) :
  Calls Tryz.prog 83 #[.agg #[.int .i64 me, .bool up, .bool gone, .bool gate, .int .i64 inc, .int .i64 now, .int .i64 sq, .int .i64 turn, .slice ta tl tc, .slice ca cl cc, .int .i64 pn, .int .i64 ps, .int .i64 pq, .bool pa, .slice da dl dc, .int .i64 cx, .int .i64 cy, .int .i64 ch, .int .i64 ce, .slice pla pll plc, .slice oa ol oc]] w fun r w' => r = .returned (.bool b) ∧ Below w.heap.size w w' := hb ▸ scast_any me up gone gate inc now sq turn ta tl tc ca cl cc pn ps pq pa da dl dc cx cy ch ce pla pll plc oa ol oc F GI w h.f h.hf h.i h.hi
theorem sprobe_lit (me : Int) (up gone gate : Bool) (inc now sq turn : Int) (ta : Option Addr) (tl tc : Nat) (ca : Option Addr) (cl cc : Nat) (pn ps pq : Int) (pa : Bool) (da : Option Addr) (dl dc : Nat) (cx cy ch ce : Int) (pla : Option Addr) (pll plc : Nat) (oa : Option Addr) (ol oc : Nat) (F : Nat → Fc) (GI : Nat → It) (GD : Nat → Dt) (GP : Nat → Pl) (GO : Nat → Fg) (b : Bool) (hb : sprbB me now sq tl F pn ps pq pa = b) (w : World) (h : NdIn w ta tl F ca cl GI da dl GD pla pll GP oa ol GO) :
  Calls Tryz.prog 84 #[.agg #[.int .i64 me, .bool up, .bool gone, .bool gate, .int .i64 inc, .int .i64 now, .int .i64 sq, .int .i64 turn, .slice ta tl tc, .slice ca cl cc, .int .i64 pn, .int .i64 ps, .int .i64 pq, .bool pa, .slice da dl dc, .int .i64 cx, .int .i64 cy, .int .i64 ch, .int .i64 ce, .slice pla pll plc, .slice oa ol oc]] w fun r w' => r = .returned (.bool b) ∧ Below w.heap.size w w' := hb ▸ sprobe_any me up gone gate inc now sq turn ta tl tc ca cl cc pn ps pq pa da dl dc cx cy ch ce pla pll plc oa ol oc F w h.f h.hf
theorem sdbs_lit (me : Int) (up gone gate : Bool) (inc now sq turn : Int) (ta : Option Addr) (tl tc : Nat) (ca : Option Addr) (cl cc : Nat) (pn ps pq : Int) (pa : Bool) (da : Option Addr) (dl dc : Nat) (cx cy ch ce : Int) (pla : Option Addr) (pll plc : Nat) (oa : Option Addr) (ol oc : Nat) (F : Nat → Fc) (GI : Nat → It) (GD : Nat → Dt) (GP : Nat → Pl) (GO : Nat → Fg) (b : Bool) (hb : sdbsB me now tl F dl GD = b) (w : World) (h : NdIn w ta tl F ca cl GI da dl GD pla pll GP oa ol GO) :
  Calls Tryz.prog 85 #[.agg #[.int .i64 me, .bool up, .bool gone, .bool gate, .int .i64 inc, .int .i64 now, .int .i64 sq, .int .i64 turn, .slice ta tl tc, .slice ca cl cc, .int .i64 pn, .int .i64 ps, .int .i64 pq, .bool pa, .slice da dl dc, .int .i64 cx, .int .i64 cy, .int .i64 ch, .int .i64 ce, .slice pla pll plc, .slice oa ol oc]] w fun r w' => r = .returned (.bool b) ∧ Below w.heap.size w w' := hb ▸ sdbs_any me up gone gate inc now sq turn ta tl tc ca cl cc pn ps pq pa da dl dc cx cy ch ce pla pll plc oa ol oc F GD w h.f h.hf h.d h.hd h.db
theorem splcs_lit (me : Int) (up gone gate : Bool) (inc now sq turn : Int) (ta : Option Addr) (tl tc : Nat) (ca : Option Addr) (cl cc : Nat) (pn ps pq : Int) (pa : Bool) (da : Option Addr) (dl dc : Nat) (cx cy ch ce : Int) (pla : Option Addr) (pll plc : Nat) (oa : Option Addr) (ol oc : Nat) (F : Nat → Fc) (GI : Nat → It) (GD : Nat → Dt) (GP : Nat → Pl) (GO : Nat → Fg) (b : Bool) (hb : plsB me pll GP = b) (w : World) (h : NdIn w ta tl F ca cl GI da dl GD pla pll GP oa ol GO) :
  Calls Tryz.prog 87 #[.agg #[.int .i64 me, .bool up, .bool gone, .bool gate, .int .i64 inc, .int .i64 now, .int .i64 sq, .int .i64 turn, .slice ta tl tc, .slice ca cl cc, .int .i64 pn, .int .i64 ps, .int .i64 pq, .bool pa, .slice da dl dc, .int .i64 cx, .int .i64 cy, .int .i64 ch, .int .i64 ce, .slice pla pll plc, .slice oa ol oc]] w fun r w' => r = .returned (.bool b) ∧ Below w.heap.size w w' := hb ▸ splcs_any me up gone gate inc now sq turn ta tl tc ca cl cc pn ps pq pa da dl dc cx cy ch ce pla pll plc oa ol oc GP w h.p h.hp h.pb
theorem soths_lit (me : Int) (up gone gate : Bool) (inc now sq turn : Int) (ta : Option Addr) (tl tc : Nat) (ca : Option Addr) (cl cc : Nat) (pn ps pq : Int) (pa : Bool) (da : Option Addr) (dl dc : Nat) (cx cy ch ce : Int) (pla : Option Addr) (pll plc : Nat) (oa : Option Addr) (ol oc : Nat) (F : Nat → Fc) (GI : Nat → It) (GD : Nat → Dt) (GP : Nat → Pl) (GO : Nat → Fg) (b : Bool) (hb : othsB me ol GO = b) (w : World) (h : NdIn w ta tl F ca cl GI da dl GD pla pll GP oa ol GO) :
  Calls Tryz.prog 88 #[.agg #[.int .i64 me, .bool up, .bool gone, .bool gate, .int .i64 inc, .int .i64 now, .int .i64 sq, .int .i64 turn, .slice ta tl tc, .slice ca cl cc, .int .i64 pn, .int .i64 ps, .int .i64 pq, .bool pa, .slice da dl dc, .int .i64 cx, .int .i64 cy, .int .i64 ch, .int .i64 ce, .slice pla pll plc, .slice oa ol oc]] w fun r w' => r = .returned (.bool b) ∧ Below w.heap.size w w' := hb ▸ soths_any me up gone gate inc now sq turn ta tl tc ca cl cc pn ps pq pa da dl dc cx cy ch ce pla pll plc oa ol oc GO w h.o h.ho h.ob
end
def snodB (me : Int) (up gone gate : Bool) (inc now sq turn : Int) (tl : Nat) (F : Nat → Fc) (cl : Nat) (GI : Nat → It) (pn ps pq : Int) (pa : Bool) (dl : Nat) (GD : Nat → Dt) (cx cy ch ce : Int) (pll : Nat) (GP : Nat → Pl) (ol : Nat) (GO : Nat → Fg) : Bool :=
 numB me now sq turn inc && (if up then tokB tl F && sitB tl F (ste me) && sslfB me gone gate inc tl F && scastB tl F cl GI && sprbB me now sq tl F pn ps pq pa && sdbsB me now tl F dl GD && cok cx cy ch ce && plsB me pll GP && othsB me ol GO else dwn false gone inc now sq turn tl cl dl pll ol pn ps pq pa cx cy ch ce)
set_option linter.unusedSimpArgs false in
theorem nodeOk9_up (me : Int) (gone gate : Bool) (inc now sq turn : Int) (ta : Option Addr) (tl tc : Nat) (ca : Option Addr) (cl cc : Nat) (pn ps pq : Int) (pa : Bool) (da : Option Addr) (dl dc : Nat) (cx cy ch ce : Int) (pla : Option Addr) (pll plc : Nat) (oa : Option Addr) (ol oc : Nat) (F : Nat → Fc) (GI : Nat → It) (GD : Nat → Dt) (GP : Nat → Pl) (GO : Nat → Fg) (w : World) (h : NdIn w ta tl F ca cl GI da dl GD pla pll GP oa ol GO) :
  Calls Tryz.prog 28 #[.agg #[.int .i64 me, .bool true, .bool gone, .bool gate, .int .i64 inc, .int .i64 now, .int .i64 sq, .int .i64 turn, .slice ta tl tc, .slice ca cl cc, .int .i64 pn, .int .i64 ps, .int .i64 pq, .bool pa, .slice da dl dc, .int .i64 cx, .int .i64 cy, .int .i64 ch, .int .i64 ce, .slice pla pll plc, .slice oa ol oc]] w fun r w' => r = .returned (.bool (snodB me true gone gate inc now sq turn tl F cl GI pn ps pq pa dl GD cx cy ch ce pll GP ol GO)) ∧ Below w.heap.size w w' := by
 have hbf : Hid (tl ≤ 1048576 ∧ cl ≤ 1048576 ∧ dl ≤ 1048576 ∧ pll ≤ 1048576 ∧ ol ≤ 1048576) := ⟨h.hf, h.hi, h.hd, h.hp, h.ho⟩
 go_enter Tryz.func28, Tryz.ntmps28
 go_upto_region 1 with fail
 generalize hu : w.alloc (.cells _ _) = u
 obtain ⟨X, b0⟩ := box1 hu
 clear hu
 have h0 := h.below b0
 clear h
 have d0 := X.c 0 (.int .i64 me) rfl
 have d4 := X.c 4 (.int .i64 inc) rfl
 have d5 := X.c 5 (.int .i64 now) rfl
 have d6 := X.c 6 (.int .i64 sq) rfl
 have d7 := X.c 7 (.int .i64 turn) rfl
 have hst : Hid (snodB me true gone gate inc now sq turn tl F cl GI pn ps pq pa dl GD cx cy ch ce pll GP ol GO = (inb me 0 7 && inb now 0 999999 && inb sq 0 999999 && inb turn 0 8 && inb inc 0 999 && (tokB tl F && sitB tl F (ste me) && sslfB me gone gate inc tl F && scastB tl F cl GI && sprbB me now sq tl F pn ps pq pa && sdbsB me now tl F dl GD && cok cx cy ch ce && plsB me pll GP && othsB me ol GO))) := rfl
 go_wp2_with fail
 refine (lin_any me 0 7 _).mono ?_
 rintro r w1 ⟨rfl, hw⟩
 obtain rfl := hw.symm
 clear hw
 generalize inb me 0 7 = q0 at *
 cases q0
 ·clear X h0
  go_wp2
  go_ret
  exact ⟨ret_bool (by rw [hst.out]; simp), b0⟩
 go_wp2_with fail
 refine (lin_any now 0 999999 _).mono ?_
 rintro r w1 ⟨rfl, hw⟩
 obtain rfl := hw.symm
 clear hw
 generalize inb now 0 999999 = q1 at *
 cases q1
 ·clear X h0
  go_wp2
  go_ret
  exact ⟨ret_bool (by rw [hst.out]; simp), b0⟩
 go_wp2_with fail
 refine (lin_any sq 0 999999 _).mono ?_
 rintro r w1 ⟨rfl, hw⟩
 obtain rfl := hw.symm
 clear hw
 generalize inb sq 0 999999 = q2 at *
 cases q2
 ·clear X h0
  go_wp2
  go_ret
  exact ⟨ret_bool (by rw [hst.out]; simp), b0⟩
 go_wp2_with fail
 refine (lin_any turn 0 8 _).mono ?_
 rintro r w1 ⟨rfl, hw⟩
 obtain rfl := hw.symm
 clear hw
 generalize inb turn 0 8 = q3 at *
 cases q3
 ·clear X h0
  go_wp2
  go_ret
  exact ⟨ret_bool (by rw [hst.out]; simp), b0⟩
 go_wp2_with fail
 refine (lin_any inc 0 999 _).mono ?_
 rintro r w1 ⟨rfl, hw⟩
 obtain rfl := hw.symm
 clear hw
 generalize inb inc 0 999 = q4 at *
 cases q4
 ·clear X h0
  go_wp2
  go_ret
  exact ⟨ret_bool (by rw [hst.out]; simp), b0⟩
 clear d0 d4 d5 d6 d7
 have d0 := X.c 0 (.int .i64 me) rfl
 have d1 := X.c 1 (.bool true) rfl
 have d2 := X.c 2 (.bool gone) rfl
 have d3 := X.c 3 (.bool gate) rfl
 have d4 := X.c 4 (.int .i64 inc) rfl
 have d5 := X.c 5 (.int .i64 now) rfl
 have d6 := X.c 6 (.int .i64 sq) rfl
 have d7 := X.c 7 (.int .i64 turn) rfl
 have d8 := X.c 8 (.slice ta tl tc) rfl
 have d9 := X.c 9 (.slice ca cl cc) rfl
 have d10 := X.c 10 (.int .i64 pn) rfl
 have d11 := X.c 11 (.int .i64 ps) rfl
 have d12 := X.c 12 (.int .i64 pq) rfl
 have d13 := X.c 13 (.bool pa) rfl
 have d14 := X.c 14 (.slice da dl dc) rfl
 have d15 := X.c 15 (.int .i64 cx) rfl
 have d16 := X.c 16 (.int .i64 cy) rfl
 have d17 := X.c 17 (.int .i64 ch) rfl
 have d18 := X.c 18 (.int .i64 ce) rfl
 have d19 := X.c 19 (.slice pla pll plc) rfl
 have d20 := X.c 20 (.slice oa ol oc) rfl
 have r0 := X.range
 have r15 := range4 d15 d16 d17 d18
 clear X hbf d2 d3 d4 d5 d6 d7 d9 d10 d11 d12 d13 d14 d19 d20
 go_upto_region 5 with fail
 clear d1
 obtain ⟨sm, hsm⟩ : ∃ sm, Hid (ste me = sm) := ⟨_, rfl⟩
 rw [hsm.out] at hst
 cases z : tokB tl F
 ·have y2 : Hid (tokB tl F = false) := z
  clear z
  refine wp_region_q s9_5 t9_5 (fun hbq => ?_)
  refine qY ?_
  refine qL ?_
  refine qK (stok_lit ta tl tc F false _ (h0.below hbq).f (h0.below hbq).hf y2.out) hbq (fun w2 hbq => ?_)
  refine qY ?_
  iterate 6 refine qN ?_
  iterate 2 refine qY ?_
  iterate 2 refine qN ?_
  iterate 2 refine qY ?_
  iterate 2 refine qN ?_
  iterate 2 refine qY ?_
  iterate 2 refine qN ?_
  iterate 2 refine qY ?_
  iterate 2 refine qN ?_
  iterate 2 refine qY ?_
  iterate 3 refine qN ?_
  iterate 2 refine qY ?_
  iterate 2 refine qN ?_
  iterate 2 refine qY ?_
  iterate 2 refine qN ?_
  iterate 2 refine qY ?_
  refine qE ?_
  go_wp2
  go_ret
  exact ⟨ret_bool (by rw [hst.out]; simp [y2.out]), (btrans b0 hbq)⟩
 ·have y2 : Hid (tokB tl F = true) := z
  clear z
  cases z : sitB tl F sm
  ·have y9 : Hid (sitB tl F sm = false) := z
   clear z
   refine wp_region_q s9_5 t9_5 (fun hbq => ?_)
   refine qY ?_
   refine qL ?_
   refine qK (stok_lit ta tl tc F true _ (h0.below hbq).f (h0.below hbq).hf y2.out) hbq (fun w2 hbq => ?_)
   iterate 2 refine qY ?_
   refine qL ?_
   refine qY ?_
   refine qL ?_
   refine qJ (lsite_any me _) hbq ?_; rw [hsm.out]
   refine qK (ssite_lit ta tl tc F sm false y9.out _ (h0.below hbq).f (h0.below hbq).hf) hbq (fun w3 hbq => ?_)
   iterate 2 refine qY ?_
   iterate 2 refine qN ?_
   iterate 2 refine qY ?_
   iterate 2 refine qN ?_
   iterate 2 refine qY ?_
   iterate 2 refine qN ?_
   iterate 2 refine qY ?_
   iterate 2 refine qN ?_
   iterate 2 refine qY ?_
   iterate 3 refine qN ?_
   iterate 2 refine qY ?_
   iterate 2 refine qN ?_
   iterate 2 refine qY ?_
   iterate 2 refine qN ?_
   iterate 2 refine qY ?_
   refine qE ?_
   go_wp2
   go_ret
   exact ⟨ret_bool (by rw [hst.out]; simp [y9.out]), (btrans b0 hbq)⟩
  ·have y9 : Hid (sitB tl F sm = true) := z
   clear z
   cases z : sslfB me gone gate inc tl F
   ·have y13 : Hid (sslfB me gone gate inc tl F = false) := z
    clear z
    refine wp_region_q s9_5 t9_5 (fun hbq => ?_)
    refine qY ?_
    refine qL ?_
    refine qK (stok_lit ta tl tc F true _ (h0.below hbq).f (h0.below hbq).hf y2.out) hbq (fun w2 hbq => ?_)
    iterate 2 refine qY ?_
    refine qL ?_
    refine qY ?_
    refine qL ?_
    refine qJ (lsite_any me _) hbq ?_; rw [hsm.out]
    refine qK (ssite_lit ta tl tc F sm true y9.out _ (h0.below hbq).f (h0.below hbq).hf) hbq (fun w3 hbq => ?_)
    iterate 2 refine qY ?_
    refine qR ?_
    refine qK (sself_lit me true gone gate inc now sq turn ta tl tc ca cl cc pn ps pq pa da dl dc cx cy ch ce pla pll plc oa ol oc F GI GD GP GO false y13.out _ (h0.below hbq)) hbq (fun w5 hbq => ?_)
    iterate 2 refine qY ?_
    iterate 2 refine qN ?_
    iterate 2 refine qY ?_
    iterate 2 refine qN ?_
    iterate 2 refine qY ?_
    iterate 2 refine qN ?_
    iterate 2 refine qY ?_
    iterate 3 refine qN ?_
    iterate 2 refine qY ?_
    iterate 2 refine qN ?_
    iterate 2 refine qY ?_
    iterate 2 refine qN ?_
    iterate 2 refine qY ?_
    refine qE ?_
    go_wp2
    go_ret
    exact ⟨ret_bool (by rw [hst.out]; simp [y13.out]), (btrans b0 hbq)⟩
   ·have y13 : Hid (sslfB me gone gate inc tl F = true) := z
    clear z
    cases z : scastB tl F cl GI
    ·have y17 : Hid (scastB tl F cl GI = false) := z
     clear z
     refine wp_region_q s9_5 t9_5 (fun hbq => ?_)
     refine qY ?_
     refine qL ?_
     refine qK (stok_lit ta tl tc F true _ (h0.below hbq).f (h0.below hbq).hf y2.out) hbq (fun w2 hbq => ?_)
     iterate 2 refine qY ?_
     refine qL ?_
     refine qY ?_
     refine qL ?_
     refine qJ (lsite_any me _) hbq ?_; rw [hsm.out]
     refine qK (ssite_lit ta tl tc F sm true y9.out _ (h0.below hbq).f (h0.below hbq).hf) hbq (fun w3 hbq => ?_)
     iterate 2 refine qY ?_
     refine qR ?_
     refine qK (sself_lit me true gone gate inc now sq turn ta tl tc ca cl cc pn ps pq pa da dl dc cx cy ch ce pla pll plc oa ol oc F GI GD GP GO true y13.out _ (h0.below hbq)) hbq (fun w5 hbq => ?_)
     iterate 2 refine qY ?_
     refine qR ?_
     refine qK (scast_lit me true gone gate inc now sq turn ta tl tc ca cl cc pn ps pq pa da dl dc cx cy ch ce pla pll plc oa ol oc F GI GD GP GO false y17.out _ (h0.below hbq)) hbq (fun w5 hbq => ?_)
     iterate 2 refine qY ?_
     iterate 2 refine qN ?_
     iterate 2 refine qY ?_
     iterate 2 refine qN ?_
     iterate 2 refine qY ?_
     iterate 3 refine qN ?_
     iterate 2 refine qY ?_
     iterate 2 refine qN ?_
     iterate 2 refine qY ?_
     iterate 2 refine qN ?_
     iterate 2 refine qY ?_
     refine qE ?_
     go_wp2
     go_ret
     exact ⟨ret_bool (by rw [hst.out]; simp [y17.out]), (btrans b0 hbq)⟩
    ·have y17 : Hid (scastB tl F cl GI = true) := z
     clear z
     cases z : sprbB me now sq tl F pn ps pq pa
     ·have y21 : Hid (sprbB me now sq tl F pn ps pq pa = false) := z
      clear z
      refine wp_region_q s9_5 t9_5 (fun hbq => ?_)
      refine qY ?_
      refine qL ?_
      refine qK (stok_lit ta tl tc F true _ (h0.below hbq).f (h0.below hbq).hf y2.out) hbq (fun w2 hbq => ?_)
      iterate 2 refine qY ?_
      refine qL ?_
      refine qY ?_
      refine qL ?_
      refine qJ (lsite_any me _) hbq ?_; rw [hsm.out]
      refine qK (ssite_lit ta tl tc F sm true y9.out _ (h0.below hbq).f (h0.below hbq).hf) hbq (fun w3 hbq => ?_)
      iterate 2 refine qY ?_
      refine qR ?_
      refine qK (sself_lit me true gone gate inc now sq turn ta tl tc ca cl cc pn ps pq pa da dl dc cx cy ch ce pla pll plc oa ol oc F GI GD GP GO true y13.out _ (h0.below hbq)) hbq (fun w5 hbq => ?_)
      iterate 2 refine qY ?_
      refine qR ?_
      refine qK (scast_lit me true gone gate inc now sq turn ta tl tc ca cl cc pn ps pq pa da dl dc cx cy ch ce pla pll plc oa ol oc F GI GD GP GO true y17.out _ (h0.below hbq)) hbq (fun w5 hbq => ?_)
      iterate 2 refine qY ?_
      refine qR ?_
      refine qK (sprobe_lit me true gone gate inc now sq turn ta tl tc ca cl cc pn ps pq pa da dl dc cx cy ch ce pla pll plc oa ol oc F GI GD GP GO false y21.out _ (h0.below hbq)) hbq (fun w5 hbq => ?_)
      iterate 2 refine qY ?_
      iterate 2 refine qN ?_
      iterate 2 refine qY ?_
      iterate 3 refine qN ?_
      iterate 2 refine qY ?_
      iterate 2 refine qN ?_
      iterate 2 refine qY ?_
      iterate 2 refine qN ?_
      iterate 2 refine qY ?_
      refine qE ?_
      go_wp2
      go_ret
      exact ⟨ret_bool (by rw [hst.out]; simp [y21.out]), (btrans b0 hbq)⟩
     ·have y21 : Hid (sprbB me now sq tl F pn ps pq pa = true) := z
      clear z
      cases z : sdbsB me now tl F dl GD
      ·have y25 : Hid (sdbsB me now tl F dl GD = false) := z
       clear z
       refine wp_region_q s9_5 t9_5 (fun hbq => ?_)
       refine qY ?_
       refine qL ?_
       refine qK (stok_lit ta tl tc F true _ (h0.below hbq).f (h0.below hbq).hf y2.out) hbq (fun w2 hbq => ?_)
       iterate 2 refine qY ?_
       refine qL ?_
       refine qY ?_
       refine qL ?_
       refine qJ (lsite_any me _) hbq ?_; rw [hsm.out]
       refine qK (ssite_lit ta tl tc F sm true y9.out _ (h0.below hbq).f (h0.below hbq).hf) hbq (fun w3 hbq => ?_)
       iterate 2 refine qY ?_
       refine qR ?_
       refine qK (sself_lit me true gone gate inc now sq turn ta tl tc ca cl cc pn ps pq pa da dl dc cx cy ch ce pla pll plc oa ol oc F GI GD GP GO true y13.out _ (h0.below hbq)) hbq (fun w5 hbq => ?_)
       iterate 2 refine qY ?_
       refine qR ?_
       refine qK (scast_lit me true gone gate inc now sq turn ta tl tc ca cl cc pn ps pq pa da dl dc cx cy ch ce pla pll plc oa ol oc F GI GD GP GO true y17.out _ (h0.below hbq)) hbq (fun w5 hbq => ?_)
       iterate 2 refine qY ?_
       refine qR ?_
       refine qK (sprobe_lit me true gone gate inc now sq turn ta tl tc ca cl cc pn ps pq pa da dl dc cx cy ch ce pla pll plc oa ol oc F GI GD GP GO true y21.out _ (h0.below hbq)) hbq (fun w5 hbq => ?_)
       iterate 2 refine qY ?_
       refine qR ?_
       refine qK (sdbs_lit me true gone gate inc now sq turn ta tl tc ca cl cc pn ps pq pa da dl dc cx cy ch ce pla pll plc oa ol oc F GI GD GP GO false y25.out _ (h0.below hbq)) hbq (fun w5 hbq => ?_)
       iterate 2 refine qY ?_
       iterate 3 refine qN ?_
       iterate 2 refine qY ?_
       iterate 2 refine qN ?_
       iterate 2 refine qY ?_
       iterate 2 refine qN ?_
       iterate 2 refine qY ?_
       refine qE ?_
       go_wp2
       go_ret
       exact ⟨ret_bool (by rw [hst.out]; simp [y25.out]), (btrans b0 hbq)⟩
      ·have y25 : Hid (sdbsB me now tl F dl GD = true) := z
       clear z
       cases z : cok cx cy ch ce
       ·have y30 : Hid (cok cx cy ch ce = false) := z
        clear z
        refine wp_region_q s9_5 t9_5 (fun hbq => ?_)
        refine qY ?_
        refine qL ?_
        refine qK (stok_lit ta tl tc F true _ (h0.below hbq).f (h0.below hbq).hf y2.out) hbq (fun w2 hbq => ?_)
        iterate 2 refine qY ?_
        refine qL ?_
        refine qY ?_
        refine qL ?_
        refine qJ (lsite_any me _) hbq ?_; rw [hsm.out]
        refine qK (ssite_lit ta tl tc F sm true y9.out _ (h0.below hbq).f (h0.below hbq).hf) hbq (fun w3 hbq => ?_)
        iterate 2 refine qY ?_
        refine qR ?_
        refine qK (sself_lit me true gone gate inc now sq turn ta tl tc ca cl cc pn ps pq pa da dl dc cx cy ch ce pla pll plc oa ol oc F GI GD GP GO true y13.out _ (h0.below hbq)) hbq (fun w5 hbq => ?_)
        iterate 2 refine qY ?_
        refine qR ?_
        refine qK (scast_lit me true gone gate inc now sq turn ta tl tc ca cl cc pn ps pq pa da dl dc cx cy ch ce pla pll plc oa ol oc F GI GD GP GO true y17.out _ (h0.below hbq)) hbq (fun w5 hbq => ?_)
        iterate 2 refine qY ?_
        refine qR ?_
        refine qK (sprobe_lit me true gone gate inc now sq turn ta tl tc ca cl cc pn ps pq pa da dl dc cx cy ch ce pla pll plc oa ol oc F GI GD GP GO true y21.out _ (h0.below hbq)) hbq (fun w5 hbq => ?_)
        iterate 2 refine qY ?_
        refine qR ?_
        refine qK (sdbs_lit me true gone gate inc now sq turn ta tl tc ca cl cc pn ps pq pa da dl dc cx cy ch ce pla pll plc oa ol oc F GI GD GP GO true y25.out _ (h0.below hbq)) hbq (fun w5 hbq => ?_)
        iterate 3 refine qY ?_
        refine qR ?_
        refine qK (scoord_lit cx cy ch ce false y30.out _) hbq (fun w4 hbq => ?_)
        iterate 2 refine qY ?_
        iterate 2 refine qN ?_
        iterate 2 refine qY ?_
        iterate 2 refine qN ?_
        iterate 2 refine qY ?_
        refine qE ?_
        go_wp2
        go_ret
        exact ⟨ret_bool (by rw [hst.out]; simp [y30.out]), (btrans b0 hbq)⟩
       ·have y30 : Hid (cok cx cy ch ce = true) := z
        clear z
        cases z : plsB me pll GP
        ·have y34 : Hid (plsB me pll GP = false) := z
         clear z
         refine wp_region_q s9_5 t9_5 (fun hbq => ?_)
         refine qY ?_
         refine qL ?_
         refine qK (stok_lit ta tl tc F true _ (h0.below hbq).f (h0.below hbq).hf y2.out) hbq (fun w2 hbq => ?_)
         iterate 2 refine qY ?_
         refine qL ?_
         refine qY ?_
         refine qL ?_
         refine qJ (lsite_any me _) hbq ?_; rw [hsm.out]
         refine qK (ssite_lit ta tl tc F sm true y9.out _ (h0.below hbq).f (h0.below hbq).hf) hbq (fun w3 hbq => ?_)
         iterate 2 refine qY ?_
         refine qR ?_
         refine qK (sself_lit me true gone gate inc now sq turn ta tl tc ca cl cc pn ps pq pa da dl dc cx cy ch ce pla pll plc oa ol oc F GI GD GP GO true y13.out _ (h0.below hbq)) hbq (fun w5 hbq => ?_)
         iterate 2 refine qY ?_
         refine qR ?_
         refine qK (scast_lit me true gone gate inc now sq turn ta tl tc ca cl cc pn ps pq pa da dl dc cx cy ch ce pla pll plc oa ol oc F GI GD GP GO true y17.out _ (h0.below hbq)) hbq (fun w5 hbq => ?_)
         iterate 2 refine qY ?_
         refine qR ?_
         refine qK (sprobe_lit me true gone gate inc now sq turn ta tl tc ca cl cc pn ps pq pa da dl dc cx cy ch ce pla pll plc oa ol oc F GI GD GP GO true y21.out _ (h0.below hbq)) hbq (fun w5 hbq => ?_)
         iterate 2 refine qY ?_
         refine qR ?_
         refine qK (sdbs_lit me true gone gate inc now sq turn ta tl tc ca cl cc pn ps pq pa da dl dc cx cy ch ce pla pll plc oa ol oc F GI GD GP GO true y25.out _ (h0.below hbq)) hbq (fun w5 hbq => ?_)
         iterate 3 refine qY ?_
         refine qR ?_
         refine qK (scoord_lit cx cy ch ce true y30.out _) hbq (fun w4 hbq => ?_)
         iterate 2 refine qY ?_
         refine qR ?_
         refine qK (splcs_lit me true gone gate inc now sq turn ta tl tc ca cl cc pn ps pq pa da dl dc cx cy ch ce pla pll plc oa ol oc F GI GD GP GO false y34.out _ (h0.below hbq)) hbq (fun w5 hbq => ?_)
         iterate 2 refine qY ?_
         iterate 2 refine qN ?_
         iterate 2 refine qY ?_
         refine qE ?_
         go_wp2
         go_ret
         exact ⟨ret_bool (by rw [hst.out]; simp [y34.out]), (btrans b0 hbq)⟩
        ·have y34 : Hid (plsB me pll GP = true) := z
         clear z
         cases z : othsB me ol GO
         ·have y38 : Hid (othsB me ol GO = false) := z
          clear z
          refine wp_region_q s9_5 t9_5 (fun hbq => ?_)
          refine qY ?_
          refine qL ?_
          refine qK (stok_lit ta tl tc F true _ (h0.below hbq).f (h0.below hbq).hf y2.out) hbq (fun w2 hbq => ?_)
          iterate 2 refine qY ?_
          refine qL ?_
          refine qY ?_
          refine qL ?_
          refine qJ (lsite_any me _) hbq ?_; rw [hsm.out]
          refine qK (ssite_lit ta tl tc F sm true y9.out _ (h0.below hbq).f (h0.below hbq).hf) hbq (fun w3 hbq => ?_)
          iterate 2 refine qY ?_
          refine qR ?_
          refine qK (sself_lit me true gone gate inc now sq turn ta tl tc ca cl cc pn ps pq pa da dl dc cx cy ch ce pla pll plc oa ol oc F GI GD GP GO true y13.out _ (h0.below hbq)) hbq (fun w5 hbq => ?_)
          iterate 2 refine qY ?_
          refine qR ?_
          refine qK (scast_lit me true gone gate inc now sq turn ta tl tc ca cl cc pn ps pq pa da dl dc cx cy ch ce pla pll plc oa ol oc F GI GD GP GO true y17.out _ (h0.below hbq)) hbq (fun w5 hbq => ?_)
          iterate 2 refine qY ?_
          refine qR ?_
          refine qK (sprobe_lit me true gone gate inc now sq turn ta tl tc ca cl cc pn ps pq pa da dl dc cx cy ch ce pla pll plc oa ol oc F GI GD GP GO true y21.out _ (h0.below hbq)) hbq (fun w5 hbq => ?_)
          iterate 2 refine qY ?_
          refine qR ?_
          refine qK (sdbs_lit me true gone gate inc now sq turn ta tl tc ca cl cc pn ps pq pa da dl dc cx cy ch ce pla pll plc oa ol oc F GI GD GP GO true y25.out _ (h0.below hbq)) hbq (fun w5 hbq => ?_)
          iterate 3 refine qY ?_
          refine qR ?_
          refine qK (scoord_lit cx cy ch ce true y30.out _) hbq (fun w4 hbq => ?_)
          iterate 2 refine qY ?_
          refine qR ?_
          refine qK (splcs_lit me true gone gate inc now sq turn ta tl tc ca cl cc pn ps pq pa da dl dc cx cy ch ce pla pll plc oa ol oc F GI GD GP GO true y34.out _ (h0.below hbq)) hbq (fun w5 hbq => ?_)
          iterate 2 refine qY ?_
          refine qR ?_
          refine qK (soths_lit me true gone gate inc now sq turn ta tl tc ca cl cc pn ps pq pa da dl dc cx cy ch ce pla pll plc oa ol oc F GI GD GP GO false y38.out _ (h0.below hbq)) hbq (fun w5 hbq => ?_)
          iterate 2 refine qY ?_
          refine qE ?_
          go_wp2
          go_ret
          exact ⟨ret_bool (by rw [hst.out]; simp [y38.out]), (btrans b0 hbq)⟩
         ·have y38 : Hid (othsB me ol GO = true) := z
          clear z
          refine wp_region_q s9_5 t9_5 (fun hbq => ?_)
          refine qY ?_
          refine qL ?_
          refine qK (stok_lit ta tl tc F true _ (h0.below hbq).f (h0.below hbq).hf y2.out) hbq (fun w2 hbq => ?_)
          iterate 2 refine qY ?_
          refine qL ?_
          refine qY ?_
          refine qL ?_
          refine qJ (lsite_any me _) hbq ?_; rw [hsm.out]
          refine qK (ssite_lit ta tl tc F sm true y9.out _ (h0.below hbq).f (h0.below hbq).hf) hbq (fun w3 hbq => ?_)
          iterate 2 refine qY ?_
          refine qR ?_
          refine qK (sself_lit me true gone gate inc now sq turn ta tl tc ca cl cc pn ps pq pa da dl dc cx cy ch ce pla pll plc oa ol oc F GI GD GP GO true y13.out _ (h0.below hbq)) hbq (fun w5 hbq => ?_)
          iterate 2 refine qY ?_
          refine qR ?_
          refine qK (scast_lit me true gone gate inc now sq turn ta tl tc ca cl cc pn ps pq pa da dl dc cx cy ch ce pla pll plc oa ol oc F GI GD GP GO true y17.out _ (h0.below hbq)) hbq (fun w5 hbq => ?_)
          iterate 2 refine qY ?_
          refine qR ?_
          refine qK (sprobe_lit me true gone gate inc now sq turn ta tl tc ca cl cc pn ps pq pa da dl dc cx cy ch ce pla pll plc oa ol oc F GI GD GP GO true y21.out _ (h0.below hbq)) hbq (fun w5 hbq => ?_)
          iterate 2 refine qY ?_
          refine qR ?_
          refine qK (sdbs_lit me true gone gate inc now sq turn ta tl tc ca cl cc pn ps pq pa da dl dc cx cy ch ce pla pll plc oa ol oc F GI GD GP GO true y25.out _ (h0.below hbq)) hbq (fun w5 hbq => ?_)
          iterate 3 refine qY ?_
          refine qR ?_
          refine qK (scoord_lit cx cy ch ce true y30.out _) hbq (fun w4 hbq => ?_)
          iterate 2 refine qY ?_
          refine qR ?_
          refine qK (splcs_lit me true gone gate inc now sq turn ta tl tc ca cl cc pn ps pq pa da dl dc cx cy ch ce pla pll plc oa ol oc F GI GD GP GO true y34.out _ (h0.below hbq)) hbq (fun w5 hbq => ?_)
          iterate 2 refine qY ?_
          refine qR ?_
          refine qK (soths_lit me true gone gate inc now sq turn ta tl tc ca cl cc pn ps pq pa da dl dc cx cy ch ce pla pll plc oa ol oc F GI GD GP GO true y38.out _ (h0.below hbq)) hbq (fun w5 hbq => ?_)
          iterate 2 refine qY ?_
          refine qE ?_
          go_wp2
          go_ret
          exact ⟨ret_bool (by rw [hst.out]; simp [y2.out, y9.out, y13.out, y17.out, y21.out, y25.out, y30.out, y34.out, y38.out]), (btrans b0 hbq)⟩
end Go.Proofs.YtgcdcfjaeehnbaaGreat
