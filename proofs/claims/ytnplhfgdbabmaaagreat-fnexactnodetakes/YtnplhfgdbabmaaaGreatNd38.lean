/- Nodes: which words are taken, by the model. -/
import Derived.Test.YtnplhfgdbabmaaaGreatNd25
import Derived.Test.YtnplhfgdbabmaaaGreatNd37
namespace Go.Proofs.YtnplhfgdbabmaaaGreat
open Go.ChangeShapes Go.WideShapes Go.ChangeAt Go.RowKit
attribute [local go_sem ↓] Go.wp_at_zero Go.wp_at_succ
def s68_1 : List Stp := [⟨some 6, .fieldAddr 43 (.tmp 2) 1, 0, none, 0⟩, ⟨some 7, .load 4 (.tmp 6), 4, none, 0⟩, ⟨some 8, .unOp .not 4 (.tmp 7), 4, none, 0⟩, ⟨some 9, .move (.tmp 8), 4, none, 0⟩, ⟨some 10, .fieldAddr 43 (.tmp 2) 2, 0, some (9, false), 0⟩, ⟨some 11, .load 4 (.tmp 10), 4, some (9, false), 0⟩, ⟨some 12, .pick (.tmp 9) (.const (.bool true)) (.tmp 11), 4, none, 0⟩, ⟨some 13, .move (.tmp 12), 4, none, 0⟩, ⟨some 14, .fieldAddr 52 (.tmp 3) 3, 0, some (13, false), 0⟩, ⟨some 15, .load 3 (.tmp 14), 3, some (13, false), 0⟩, ⟨some 16, .fieldAddr 43 (.tmp 2) 0, 0, some (13, false), 0⟩, ⟨some 17, .load 3 (.tmp 16), 3, some (13, false), 0⟩, ⟨some 18, .binOp .neq 3 (.tmp 15) (.tmp 17) 3, 4, some (13, false), 2⟩, ⟨some 19, .pick (.tmp 13) (.const (.bool true)) (.tmp 18), 4, none, 0⟩, ⟨some 20, .move (.tmp 19), 4, none, 0⟩, ⟨some 21, .fieldAddr 52 (.tmp 3) 2, 0, some (20, false), 0⟩, ⟨some 22, .load 3 (.tmp 21), 3, some (20, false), 0⟩, ⟨some 23, .fieldAddr 43 (.tmp 2) 0, 0, some (20, false), 0⟩, ⟨some 24, .load 3 (.tmp 23), 3, some (20, false), 0⟩, ⟨some 25, .binOp .eql 3 (.tmp 22) (.tmp 24) 3, 4, some (20, false), 2⟩, ⟨some 26, .pick (.tmp 20) (.const (.bool true)) (.tmp 25), 4, none, 0⟩]
def t68_1 : List (Nat × Nat) := [(0, 0), (1, 0), (2, 0), (3, 0), (4, 0), (5, 0), (6, 0), (7, 0), (8, 0), (9, 0), (10, 0), (11, 0), (12, 2), (13, 0), (14, 0), (15, 0), (16, 0), (17, 0), (18, 0), (19, 2), (20, 0)]
def s68_5 : List Stp := [⟨some 33, .fieldAddr 52 (.tmp 3) 1, 0, none, 0⟩, ⟨some 34, .load 3 (.tmp 33), 3, none, 0⟩, ⟨some 35, .binOp .eql 3 (.tmp 34) (.const (.int .i64 6)) 3, 4, none, 2⟩, ⟨some 36, .move (.tmp 35), 4, none, 0⟩, ⟨some 37, .fieldAddr 52 (.tmp 3) 2, 0, some (36, true), 0⟩, ⟨some 38, .load 3 (.tmp 37), 3, some (36, true), 0⟩, ⟨some 40, .move (.tmp 5), 3, some (36, true), 0⟩, ⟨some 39, .call { callee := .value (.func 36), args := #[.tmp 38], argTypes := #[3] }, 3, some (36, true), 1⟩, ⟨some 41, .binOp .neq 3 (.tmp 39) (.tmp 40) 3, 4, some (36, true), 2⟩, ⟨some 42, .pick (.tmp 36) (.tmp 41) (.const (.bool false)), 4, none, 0⟩, ⟨some 43, .move (.tmp 42), 4, none, 0⟩, ⟨some 44, .fieldAddr 52 (.tmp 3) 7, 0, some (43, true), 0⟩, ⟨some 45, .load 35 (.tmp 44), 35, some (43, true), 0⟩, ⟨some 46, .move (.tmp 5), 3, some (43, true), 0⟩, ⟨some 47, .call { callee := .value (.func 35), args := #[.tmp 45, .tmp 46], argTypes := #[35, 3] }, 4, some (43, true), 1⟩, ⟨some 48, .move (.tmp 47), 4, some (43, true), 0⟩, ⟨some 49, .fieldAddr 52 (.tmp 3) 7, 0, some (48, false), 0⟩, ⟨some 50, .load 35 (.tmp 49), 35, some (48, false), 0⟩, ⟨some 51, .fieldAddr 52 (.tmp 3) 2, 0, some (48, false), 0⟩, ⟨some 52, .load 3 (.tmp 51), 3, some (48, false), 0⟩, ⟨some 53, .call { callee := .value (.func 36), args := #[.tmp 52], argTypes := #[3] }, 3, some (48, false), 1⟩, ⟨some 54, .call { callee := .value (.func 35), args := #[.tmp 50, .tmp 53], argTypes := #[35, 3] }, 4, some (48, false), 1⟩, ⟨some 55, .pick (.tmp 48) (.const (.bool true)) (.tmp 54), 4, some (43, true), 0⟩, ⟨some 56, .pick (.tmp 43) (.tmp 55) (.const (.bool false)), 4, none, 0⟩, ⟨some 4, .assign (.tmp 56), 4, none, 0⟩]
def t68_5 : List (Nat × Nat) := [(0, 0), (1, 0), (2, 2), (3, 0), (4, 0), (5, 0), (7, 0), (6, 1), (8, 2), (9, 0), (10, 0), (11, 0), (12, 0), (13, 0), (14, 1), (15, 0), (16, 0), (17, 0), (18, 0), (19, 0), (20, 1), (21, 1), (22, 0), (23, 0), (24, 0)]
def s68_6 : List Stp := [⟨some 57, .fieldAddr 52 (.tmp 3) 2, 0, none, 0⟩, ⟨some 58, .load 3 (.tmp 57), 3, none, 0⟩, ⟨some 59, .call { callee := .value (.func 36), args := #[.tmp 58], argTypes := #[3] }, 3, none, 1⟩, ⟨some 60, .move (.tmp 5), 3, none, 0⟩, ⟨some 61, .binOp .eql 3 (.tmp 59) (.tmp 60) 3, 4, none, 2⟩, ⟨some 62, .move (.tmp 61), 4, none, 0⟩, ⟨some 63, .fieldAddr 52 (.tmp 3) 1, 0, some (62, true), 0⟩, ⟨some 64, .load 3 (.tmp 63), 3, some (62, true), 0⟩, ⟨some 65, .binOp .neq 3 (.tmp 64) (.const (.int .i64 6)) 3, 4, some (62, true), 2⟩, ⟨some 66, .move (.tmp 65), 4, some (62, true), 0⟩, ⟨some 67, .fieldAddr 52 (.tmp 3) 7, 0, some (66, false), 0⟩, ⟨some 68, .load 35 (.tmp 67), 35, some (66, false), 0⟩, ⟨some 69, .move (.tmp 5), 3, some (66, false), 0⟩, ⟨some 70, .call { callee := .value (.func 35), args := #[.tmp 68, .tmp 69], argTypes := #[35, 3] }, 4, some (66, false), 1⟩, ⟨some 71, .unOp .not 4 (.tmp 70), 4, some (66, false), 0⟩, ⟨some 72, .pick (.tmp 66) (.const (.bool true)) (.tmp 71), 4, some (62, true), 0⟩, ⟨some 73, .pick (.tmp 62) (.tmp 72) (.const (.bool false)), 4, none, 0⟩, ⟨some 4, .assign (.tmp 73), 4, none, 0⟩]
def t68_6 : List (Nat × Nat) := [(0, 0), (1, 0), (2, 1), (3, 0), (4, 2), (5, 0), (6, 0), (7, 0), (8, 2), (9, 0), (10, 0), (11, 0), (12, 0), (13, 1), (14, 0), (15, 0), (16, 0), (17, 0)]
def s14_1 : List Stp := [⟨some 5, .load 43 (.tmp 2), 43, none, 0⟩, ⟨some 6, .call { callee := .value (.func 9), args := #[.tmp 5], argTypes := #[43] }, 4, none, 1⟩, ⟨some 7, .unOp .not 4 (.tmp 6), 4, none, 0⟩, ⟨some 8, .move (.tmp 7), 4, none, 0⟩, ⟨some 9, .load 52 (.tmp 3), 52, some (8, false), 0⟩, ⟨some 10, .call { callee := .value (.func 67), args := #[.tmp 9], argTypes := #[52] }, 4, some (8, false), 1⟩, ⟨some 11, .unOp .not 4 (.tmp 10), 4, some (8, false), 0⟩, ⟨some 12, .pick (.tmp 8) (.const (.bool true)) (.tmp 11), 4, none, 0⟩]
def t14_1 : List (Nat × Nat) := [(0, 0), (1, 1), (2, 0), (3, 0), (4, 0), (5, 1), (6, 0), (7, 0)]
def s14_3 : List Stp := [⟨some 13, .load 43 (.tmp 2), 43, none, 0⟩, ⟨some 14, .load 52 (.tmp 3), 52, none, 0⟩, ⟨some 15, .call { callee := .value (.func 68), args := #[.tmp 13, .tmp 14], argTypes := #[43, 52] }, 4, none, 1⟩, ⟨some 4, .assign (.tmp 15), 4, none, 0⟩]
def t14_3 : List (Nat × Nat) := [(0, 0), (1, 0), (2, 1), (3, 0)]
/-- a word that is ok is taken, the model's way -/
def stkB (me : Int) (up gone : Bool) (wp wk wf wt : Int) (fl : Nat) (WF : Nat → Fc) : Bool := up && !gone && decide (wt = me) && !decide (wf = me) && (if wp = 2 then decide (wk = 6) && !decide (ste wf = ste me) && (sitB fl WF (ste me) || sitB fl WF (ste wf)) else decide (ste wf = ste me) && (!decide (wk = 6) || !sitB fl WF (ste me)))
theorem tks_same (me : Int) (up gone : Bool) (wp wk wf wt wn wq wx wy wz we : Int) (fl : Nat) (WF : Nat → Fc) : tksB me up gone wp wk wf wt wn wq wx wy wz we fl WF = (wokB wp wk wf wt wn wq wx wy wz we fl WF && stkB me up gone wp wk wf wt fl WF) := by
  cases hw : wokB wp wk wf wt wn wq wx wy wz we fl WF with
  | false => unfold tksB; rw [hw]; rfl
  | true =>
    have hf : inb wf 0 7 = true := by
      unfold wokB preB at hw
      simp only [Bool.and_eq_true] at hw
      exact hw.1.1.1.1.1.1.2
    unfold tksB stkB wanB lanB ofB
    rw [hw, hf]
    by_cases h2 : wp = 2
    · rw [if_pos h2, if_pos h2, Bool.or_comm (sitB fl WF (ste wf))]
      simp only [Bool.true_and]
    · rw [if_neg h2, if_neg h2, show (ste wf == ste me) = decide (ste wf = ste me) from rfl]
      simp only [Bool.true_and]
theorem swok_lit (p k f t s q x y z e : Int) (a : Option Addr) (len cap : Nat) (F : Nat → Fc) (b : Bool) (hb : wokB p k f t s q x y z e len F = b) (w : World) (h : FSl w a len F) (hl : len ≤ 1048576) :
    Calls Tryz.prog 67 #[.agg #[.int .i64 p, .int .i64 k, .int .i64 f, .int .i64 t, .int .i64 s, .int .i64 q, .int .i64 x, .int .i64 y, .int .i64 z, .int .i64 e, (.slice a len cap)]] w fun r w' => r = .returned (.bool b) ∧ Below w.heap.size w w' := hb ▸ swok_any p k f t s q x y z e a len cap F w h hl
theorem nodeOk9_lit (me : Int) (up gone gate : Bool) (inc now sq turn : Int) (ta : Option Addr) (tl tc : Nat) (ca : Option Addr) (cl cc : Nat) (pn ps pq : Int) (pa : Bool) (da : Option Addr) (dl dc : Nat) (cx cy ch ce : Int) (pla : Option Addr) (pll plc : Nat) (oa : Option Addr) (ol oc : Nat) (F : Nat → Fc) (GI : Nat → It) (GD : Nat → Dt) (GP : Nat → Pl) (GO : Nat → Fg) (b : Bool) (hb : snodB me up gone gate inc now sq turn tl F cl GI pn ps pq pa dl GD cx cy ch ce pll GP ol GO = b) (w : World) (h : NdIn w ta tl F ca cl GI da dl GD pla pll GP oa ol GO) :
    Calls Tryz.prog 9 #[.agg #[.int .i64 me, .bool up, .bool gone, .bool gate, .int .i64 inc, .int .i64 now, .int .i64 sq, .int .i64 turn, .slice ta tl tc, .slice ca cl cc, .int .i64 pn, .int .i64 ps, .int .i64 pq, .bool pa, .slice da dl dc, .int .i64 cx, .int .i64 cy, .int .i64 ch, .int .i64 ce, .slice pla pll plc, .slice oa ol oc]] w fun r w' => r = .returned (.bool b) ∧ Below w.heap.size w w' := hb ▸ nodeOk9_any me up gone gate inc now sq turn ta tl tc ca cl cc pn ps pq pa da dl dc cx cy ch ce pla pll plc oa ol oc F GI GD GP GO w h
set_option maxRecDepth 20000 in
set_option maxHeartbeats 8000000 in
set_option linter.unusedSimpArgs false in
theorem stks_any (me : Int) (up gone gate : Bool) (inc now sq turn : Int) (ta : Option Addr) (tl tc : Nat) (ca : Option Addr) (cl cc : Nat) (pn ps pq : Int) (pa : Bool) (da : Option Addr) (dl dc : Nat) (cx cy ch ce : Int) (pla : Option Addr) (pll plc : Nat) (oa : Option Addr) (ol oc : Nat) (wp wk wf wt wn wq wx wy wz we : Int) (fa : Option Addr) (fl fc : Nat) (WF : Nat → Fc) (w : World) (h : FSl w fa fl WF) (hl : fl ≤ 1048576) :
    Calls Tryz.prog 68 #[.agg #[.int .i64 me, .bool up, .bool gone, .bool gate, .int .i64 inc, .int .i64 now, .int .i64 sq, .int .i64 turn, .slice ta tl tc, .slice ca cl cc, .int .i64 pn, .int .i64 ps, .int .i64 pq, .bool pa, .slice da dl dc, .int .i64 cx, .int .i64 cy, .int .i64 ch, .int .i64 ce, .slice pla pll plc, .slice oa ol oc], .agg #[.int .i64 wp, .int .i64 wk, .int .i64 wf, .int .i64 wt, .int .i64 wn, .int .i64 wq, .int .i64 wx, .int .i64 wy, .int .i64 wz, .int .i64 we, .slice fa fl fc]] w fun r w' => r = .returned (.bool (stkB me up gone wp wk wf wt fl WF)) ∧ Below w.heap.size w w' := by
  have a0 := balloc (.cells #[.int .i64 me, .bool up, .bool gone, .bool gate, .int .i64 inc, .int .i64 now, .int .i64 sq, .int .i64 turn, .slice ta tl tc, .slice ca cl cc, .int .i64 pn, .int .i64 ps, .int .i64 pq, .bool pa, .slice da dl dc, .int .i64 cx, .int .i64 cy, .int .i64 ch, .int .i64 ce, .slice pla pll plc, .slice oa ol oc] 43) (Below.refl w.heap.size w)
  have b0 := balloc (.cells #[.int .i64 wp, .int .i64 wk, .int .i64 wf, .int .i64 wt, .int .i64 wn, .int .i64 wq, .int .i64 wx, .int .i64 wy, .int .i64 wz, .int .i64 we, .slice fa fl fc] 52) a0
  have X := (Ws.box (w := w) #[.int .i64 me, .bool up, .bool gone, .bool gate, .int .i64 inc, .int .i64 now, .int .i64 sq, .int .i64 turn, .slice ta tl tc, .slice ca cl cc, .int .i64 pn, .int .i64 ps, .int .i64 pq, .bool pa, .slice da dl dc, .int .i64 cx, .int .i64 cy, .int .i64 ch, .int .i64 ce, .slice pla pll plc, .slice oa ol oc] 43).below (balloc (.cells #[.int .i64 wp, .int .i64 wk, .int .i64 wf, .int .i64 wt, .int .i64 wn, .int .i64 wq, .int .i64 wx, .int .i64 wy, .int .i64 wz, .int .i64 we, .slice fa fl fc] 52) (Below.refl (w.alloc (.cells #[.int .i64 me, .bool up, .bool gone, .bool gate, .int .i64 inc, .int .i64 now, .int .i64 sq, .int .i64 turn, .slice ta tl tc, .slice ca cl cc, .int .i64 pn, .int .i64 ps, .int .i64 pq, .bool pa, .slice da dl dc, .int .i64 cx, .int .i64 cy, .int .i64 ch, .int .i64 ce, .slice pla pll plc, .slice oa ol oc] 43)).heap.size (w.alloc (.cells #[.int .i64 me, .bool up, .bool gone, .bool gate, .int .i64 inc, .int .i64 now, .int .i64 sq, .int .i64 turn, .slice ta tl tc, .slice ca cl cc, .int .i64 pn, .int .i64 ps, .int .i64 pq, .bool pa, .slice da dl dc, .int .i64 cx, .int .i64 cy, .int .i64 ch, .int .i64 ce, .slice pla pll plc, .slice oa ol oc] 43))))
  have Y := Ws.box (w := w.alloc (.cells #[.int .i64 me, .bool up, .bool gone, .bool gate, .int .i64 inc, .int .i64 now, .int .i64 sq, .int .i64 turn, .slice ta tl tc, .slice ca cl cc, .int .i64 pn, .int .i64 ps, .int .i64 pq, .bool pa, .slice da dl dc, .int .i64 cx, .int .i64 cy, .int .i64 ch, .int .i64 ce, .slice pla pll plc, .slice oa ol oc] 43)) #[.int .i64 wp, .int .i64 wk, .int .i64 wf, .int .i64 wt, .int .i64 wn, .int .i64 wq, .int .i64 wx, .int .i64 wy, .int .i64 wz, .int .i64 we, .slice fa fl fc] 52
  go_enter Tryz.func68, Tryz.ntmps68
  go_upto_region 1 with fail
  have hKW : (w.alloc (.cells #[.int .i64 me, .bool up, .bool gone, .bool gate, .int .i64 inc, .int .i64 now, .int .i64 sq, .int .i64 turn, .slice ta tl tc, .slice ca cl cc, .int .i64 pn, .int .i64 ps, .int .i64 pq, .bool pa, .slice da dl dc, .int .i64 cx, .int .i64 cy, .int .i64 ch, .int .i64 ce, .slice pla pll plc, .slice oa ol oc] 43)).heap.size = w.heap.size + 1 := by simp [go_sem]
  rw [hKW] at Y
  clear hKW
  generalize w.heap.size + 1 = KW at *
  generalize (w.alloc (.cells #[.int .i64 me, .bool up, .bool gone, .bool gate, .int .i64 inc, .int .i64 now, .int .i64 sq, .int .i64 turn, .slice ta tl tc, .slice ca cl cc, .int .i64 pn, .int .i64 ps, .int .i64 pq, .bool pa, .slice da dl dc, .int .i64 cx, .int .i64 cy, .int .i64 ch, .int .i64 ce, .slice pla pll plc, .slice oa ol oc] 43)).alloc (.cells #[.int .i64 wp, .int .i64 wk, .int .i64 wf, .int .i64 wt, .int .i64 wn, .int .i64 wq, .int .i64 wx, .int .i64 wy, .int .i64 wz, .int .i64 we, .slice fa fl fc] 52) = u at *
  have h0 := h.below b0
  clear h a0
  have rN : u.rangeAt w.heap.size 0 [.int .i64 me, .bool up, .bool gone, .bool gate, .int .i64 inc, .int .i64 now, .int .i64 sq, .int .i64 turn, .slice ta tl tc, .slice ca cl cc, .int .i64 pn, .int .i64 ps, .int .i64 pq, .bool pa, .slice da dl dc, .int .i64 cx, .int .i64 cy, .int .i64 ch, .int .i64 ce, .slice pla pll plc, .slice oa ol oc] := X.range
  have rW : u.rangeAt KW 0 [.int .i64 wp, .int .i64 wk, .int .i64 wf, .int .i64 wt, .int .i64 wn, .int .i64 wq, .int .i64 wx, .int .i64 wy, .int .i64 wz, .int .i64 we, .slice fa fl fc] := Y.range
  have e0 := Y.c 0 (.int .i64 wp) rfl
  have e1 := Y.c 1 (.int .i64 wk) rfl
  have e2 := Y.c 2 (.int .i64 wf) rfl
  have e3 := Y.c 3 (.int .i64 wt) rfl
  have e10 := Y.c 10 (.slice fa fl fc) rfl
  have d0 := X.c 0 (.int .i64 me) rfl
  have d1 := X.c 1 (.bool up) rfl
  have d2 := X.c 2 (.bool gone) rfl
  obtain ⟨sm, hsm⟩ : ∃ sm, Hid (ste me = sm) := ⟨_, rfl⟩
  obtain ⟨sf, hsf⟩ : ∃ sf, Hid (ste wf = sf) := ⟨_, rfl⟩
  have hst : Hid (stkB me up gone wp wk wf wt fl WF = (up && !gone && decide (wt = me) && !decide (wf = me) && (if wp = 2 then decide (wk = 6) && !decide (sf = sm) && (sitB fl WF sm || sitB fl WF sf) else decide (sf = sm) && (!decide (wk = 6) || !sitB fl WF sm)))) := by rw [Hid, stkB, hsm.out, hsf.out]
  clear X Y rN rW
  cases up
  · skip
    refine wp_region_q0 s68_1 t68_1 (fun hbq => ?_)
    refine qY ?_
    refine qL ?_
    iterate 2 refine qY ?_
    iterate 2 refine qN ?_
    iterate 2 refine qY ?_
    iterate 5 refine qN ?_
    iterate 2 refine qY ?_
    iterate 5 refine qN ?_
    refine qY ?_
    refine qE ?_
    go_wp2
    go_ret
    exact ⟨ret_bool (by rw [hst.out]; simp []), b0⟩
  · skip
    cases gone
    · skip
      by_cases q3 : wt = me
      · have yq3 : Hid (wt = me) := q3
        clear q3
        by_cases q4 : wf = me
        · have yq4 : Hid (wf = me) := q4
          clear q4
          refine wp_region_q0 s68_1 t68_1 (fun hbq => ?_)
          refine qY ?_
          refine qL ?_
          iterate 3 refine qY ?_
          refine qL ?_
          iterate 3 refine qY ?_
          refine qL ?_
          refine qY ?_
          refine qL ?_
          refine qV (.bool false) ?_ (by (intro w; go_simp; all_goals (first | with_reducible rfl | (simp [yq3.out]; done) | assumption | (simp; done) | (simp; omega))))
          iterate 3 refine qY ?_
          refine qL ?_
          refine qY ?_
          refine qL ?_
          refine qV (.bool true) ?_ (by (intro w; go_simp; all_goals (first | with_reducible rfl | (simp [yq4.out]; done) | assumption | (simp; done) | (simp; omega))))
          refine qY ?_
          refine qE ?_
          go_wp2
          go_ret
          exact ⟨ret_bool (by rw [hst.out]; simp [yq3.out, yq4.out]), b0⟩
        · have zq4 : (wf == me) = false := by simpa using q4
          refine wp_region_q0 s68_1 t68_1 (fun hbq => ?_)
          refine qY ?_
          refine qL ?_
          iterate 3 refine qY ?_
          refine qL ?_
          iterate 3 refine qY ?_
          refine qL ?_
          refine qY ?_
          refine qL ?_
          refine qV (.bool false) ?_ (by (intro w; go_simp; all_goals (first | with_reducible rfl | (simp [yq3.out]; done) | assumption | (simp; done) | (simp; omega))))
          iterate 3 refine qY ?_
          refine qL ?_
          refine qY ?_
          refine qL ?_
          refine qV (.bool false) ?_ (by (intro w; go_simp; all_goals (first | with_reducible rfl | (simp [q4]; done) | assumption | (simp; done) | (simp; omega))))
          refine qY ?_
          refine qE ?_
          have hs2 : Hid (stkB me true false wp wk wf wt fl WF = (if wp = 2 then decide (wk = 6) && !decide (sf = sm) && (sitB fl WF sm || sitB fl WF sf) else decide (sf = sm) && (!decide (wk = 6) || !sitB fl WF sm))) := by
            rw [Hid, hst.out, decide_eq_true yq3.out, decide_eq_false q4]; rfl
          clear hbq hst d1 d2 e3 q4 zq4 yq3
          go_wp2_with fail
          refine (lsite_any me _).mono ?_; rintro r w5 ⟨rfl, hw⟩; obtain rfl := hw.symm; clear hw; rw [hsm.out]
          by_cases q5 : wp = 2
          · have hs3 : Hid (stkB me true false wp wk wf wt fl WF = (decide (wk = 6) && !decide (sf = sm) && (sitB fl WF sm || sitB fl WF sf))) := by rw [Hid, hs2.out, if_pos q5]
            have yq5 : (wp == 2) = true := by simpa using q5
            clear hs2 q5
            go_upto_region 5 with fail
            by_cases q1 : wk = 6
            · have yq1 : Hid (wk = 6) := q1
              clear q1
              by_cases q2 : sf = sm
              · have yq2 : Hid (sf = sm) := q2
                clear q2
                refine wp_region_q s68_5 t68_5 (fun hbq => ?_)
                refine qY ?_
                refine qL ?_
                refine qV (.bool true) ?_ (by (intro w; go_simp; all_goals (first | with_reducible rfl | (simp [yq1.out]; done) | assumption | (simp; done) | (simp; omega))))
                iterate 2 refine qY ?_
                refine qL ?_
                refine qY ?_
                refine qC (fun K hK => ?_)
                go_simp
                refine (lsite_any wf _).mono ?_; rintro r w5 ⟨rfl, hw⟩; obtain rfl := hw.symm; clear hw; rw [hsf.out]
                go_wp2_with fail
                refine hK.out _ _ hbq (.inl ?_)
                clear hK K
                try simp only [putQ]
                refine qV (.bool false) ?_ (by (intro w; go_simp; all_goals (first | with_reducible rfl | (simp [yq2.out]; done) | assumption | (simp; done) | (simp; omega))))
                iterate 2 refine qY ?_
                iterate 12 refine qN ?_
                iterate 2 refine qY ?_
                refine qE ?_
                go_wp2
                go_ret
                exact ⟨ret_bool (by rw [hs3.out]; simp [yq1.out, yq2.out]), (btrans b0 hbq)⟩
              · have zq2 : (sf == sm) = false := by simpa using q2
                cases zb1 : sitB fl WF sm
                · have yb1 : Hid (sitB fl WF sm = false) := zb1
                  clear zb1
                  cases zb2 : sitB fl WF sf
                  · have yb2 : Hid (sitB fl WF sf = false) := zb2
                    clear zb2
                    refine wp_region_q s68_5 t68_5 (fun hbq => ?_)
                    refine qY ?_
                    refine qL ?_
                    refine qV (.bool true) ?_ (by (intro w; go_simp; all_goals (first | with_reducible rfl | (simp [yq1.out]; done) | assumption | (simp; done) | (simp; omega))))
                    iterate 2 refine qY ?_
                    refine qL ?_
                    refine qY ?_
                    refine qC (fun K hK => ?_)
                    go_simp
                    refine (lsite_any wf _).mono ?_; rintro r w5 ⟨rfl, hw⟩; obtain rfl := hw.symm; clear hw; rw [hsf.out]
                    go_wp2_with fail
                    refine hK.out _ _ hbq (.inl ?_)
                    clear hK K
                    try simp only [putQ]
                    refine qV (.bool true) ?_ (by (intro w; go_simp; all_goals (first | with_reducible rfl | (simp [q2]; done) | assumption | (simp; done) | (simp; omega))))
                    iterate 3 refine qY ?_
                    refine qL ?_
                    refine qY ?_
                    refine qC (fun K hK => ?_)
                    go_simp
                    refine (ssite_lit fa fl fc WF sm false yb1.out _ (h0.below hbq) hl).mono ?_; rintro r w5 ⟨rfl, k5⟩
                    go_wp2_with fail
                    refine hK.out _ _ (btrans hbq k5) (.inl ?_)
                    clear hK K
                    replace hbq := btrans hbq k5
                    clear k5
                    try simp only [putQ]
                    iterate 2 refine qY ?_
                    refine qL ?_
                    refine qY ?_
                    refine qL ?_
                    refine qC (fun K hK => ?_)
                    go_simp
                    refine (lsite_any wf _).mono ?_; rintro r w5 ⟨rfl, hw⟩; obtain rfl := hw.symm; clear hw; rw [hsf.out]
                    go_wp2_with fail
                    refine hK.out _ _ hbq (.inl ?_)
                    clear hK K
                    try simp only [putQ]
                    refine qC (fun K hK => ?_)
                    go_simp
                    refine (ssite_lit fa fl fc WF sf false yb2.out _ (h0.below hbq) hl).mono ?_; rintro r w5 ⟨rfl, k5⟩
                    go_wp2_with fail
                    refine hK.out _ _ (btrans hbq k5) (.inl ?_)
                    clear hK K
                    replace hbq := btrans hbq k5
                    clear k5
                    try simp only [putQ]
                    iterate 3 refine qY ?_
                    refine qE ?_
                    go_wp2
                    go_ret
                    exact ⟨ret_bool (by rw [hs3.out]; simp [yq1.out, q2, yb1.out, yb2.out]), (btrans b0 hbq)⟩
                  · have yb2 : Hid (sitB fl WF sf = true) := zb2
                    clear zb2
                    refine wp_region_q s68_5 t68_5 (fun hbq => ?_)
                    refine qY ?_
                    refine qL ?_
                    refine qV (.bool true) ?_ (by (intro w; go_simp; all_goals (first | with_reducible rfl | (simp [yq1.out]; done) | assumption | (simp; done) | (simp; omega))))
                    iterate 2 refine qY ?_
                    refine qL ?_
                    refine qY ?_
                    refine qC (fun K hK => ?_)
                    go_simp
                    refine (lsite_any wf _).mono ?_; rintro r w5 ⟨rfl, hw⟩; obtain rfl := hw.symm; clear hw; rw [hsf.out]
                    go_wp2_with fail
                    refine hK.out _ _ hbq (.inl ?_)
                    clear hK K
                    try simp only [putQ]
                    refine qV (.bool true) ?_ (by (intro w; go_simp; all_goals (first | with_reducible rfl | (simp [q2]; done) | assumption | (simp; done) | (simp; omega))))
                    iterate 3 refine qY ?_
                    refine qL ?_
                    refine qY ?_
                    refine qC (fun K hK => ?_)
                    go_simp
                    refine (ssite_lit fa fl fc WF sm false yb1.out _ (h0.below hbq) hl).mono ?_; rintro r w5 ⟨rfl, k5⟩
                    go_wp2_with fail
                    refine hK.out _ _ (btrans hbq k5) (.inl ?_)
                    clear hK K
                    replace hbq := btrans hbq k5
                    clear k5
                    try simp only [putQ]
                    iterate 2 refine qY ?_
                    refine qL ?_
                    refine qY ?_
                    refine qL ?_
                    refine qC (fun K hK => ?_)
                    go_simp
                    refine (lsite_any wf _).mono ?_; rintro r w5 ⟨rfl, hw⟩; obtain rfl := hw.symm; clear hw; rw [hsf.out]
                    go_wp2_with fail
                    refine hK.out _ _ hbq (.inl ?_)
                    clear hK K
                    try simp only [putQ]
                    refine qC (fun K hK => ?_)
                    go_simp
                    refine (ssite_lit fa fl fc WF sf true yb2.out _ (h0.below hbq) hl).mono ?_; rintro r w5 ⟨rfl, k5⟩
                    go_wp2_with fail
                    refine hK.out _ _ (btrans hbq k5) (.inl ?_)
                    clear hK K
                    replace hbq := btrans hbq k5
                    clear k5
                    try simp only [putQ]
                    iterate 3 refine qY ?_
                    refine qE ?_
                    go_wp2
                    go_ret
                    exact ⟨ret_bool (by rw [hs3.out]; simp [yq1.out, q2, yb1.out, yb2.out]), (btrans b0 hbq)⟩
                · have yb1 : Hid (sitB fl WF sm = true) := zb1
                  clear zb1
                  refine wp_region_q s68_5 t68_5 (fun hbq => ?_)
                  refine qY ?_
                  refine qL ?_
                  refine qV (.bool true) ?_ (by (intro w; go_simp; all_goals (first | with_reducible rfl | (simp [yq1.out]; done) | assumption | (simp; done) | (simp; omega))))
                  iterate 2 refine qY ?_
                  refine qL ?_
                  refine qY ?_
                  refine qC (fun K hK => ?_)
                  go_simp
                  refine (lsite_any wf _).mono ?_; rintro r w5 ⟨rfl, hw⟩; obtain rfl := hw.symm; clear hw; rw [hsf.out]
                  go_wp2_with fail
                  refine hK.out _ _ hbq (.inl ?_)
                  clear hK K
                  try simp only [putQ]
                  refine qV (.bool true) ?_ (by (intro w; go_simp; all_goals (first | with_reducible rfl | (simp [q2]; done) | assumption | (simp; done) | (simp; omega))))
                  iterate 3 refine qY ?_
                  refine qL ?_
                  refine qY ?_
                  refine qC (fun K hK => ?_)
                  go_simp
                  refine (ssite_lit fa fl fc WF sm true yb1.out _ (h0.below hbq) hl).mono ?_; rintro r w5 ⟨rfl, k5⟩
                  go_wp2_with fail
                  refine hK.out _ _ (btrans hbq k5) (.inl ?_)
                  clear hK K
                  replace hbq := btrans hbq k5
                  clear k5
                  try simp only [putQ]
                  refine qY ?_
                  iterate 6 refine qN ?_
                  iterate 3 refine qY ?_
                  refine qE ?_
                  go_wp2
                  go_ret
                  exact ⟨ret_bool (by rw [hs3.out]; simp [yq1.out, q2, yb1.out]), (btrans b0 hbq)⟩
            · have zq1 : (wk == 6) = false := by simpa using q1
              refine wp_region_q s68_5 t68_5 (fun hbq => ?_)
              refine qY ?_
              refine qL ?_
              refine qV (.bool false) ?_ (by (intro w; go_simp; all_goals (first | with_reducible rfl | (simp [q1]; done) | assumption | (simp; done) | (simp; omega))))
              refine qY ?_
              iterate 5 refine qN ?_
              iterate 2 refine qY ?_
              iterate 12 refine qN ?_
              iterate 2 refine qY ?_
              refine qE ?_
              go_wp2
              go_ret
              exact ⟨ret_bool (by rw [hs3.out]; simp [q1]), (btrans b0 hbq)⟩
          · have hs3 : Hid (stkB me true false wp wk wf wt fl WF = (decide (sf = sm) && (!decide (wk = 6) || !sitB fl WF sm))) := by rw [Hid, hs2.out, if_neg q5]
            have yq5 : (wp == 2) = false := by simpa using q5
            clear hs2
            go_upto_region 6 with fail
            by_cases q2 : sf = sm
            · have yq2 : Hid (sf = sm) := q2
              clear q2
              by_cases q1 : wk = 6
              · have yq1 : Hid (wk = 6) := q1
                clear q1
                cases zb1 : sitB fl WF sm
                · have yb1 : Hid (sitB fl WF sm = false) := zb1
                  clear zb1
                  refine wp_region_q0 s68_6 t68_6 (fun hbq => ?_)
                  refine qY ?_
                  refine qL ?_
                  refine qC (fun K hK => ?_)
                  go_simp
                  refine (lsite_any wf _).mono ?_; rintro r w5 ⟨rfl, hw⟩; obtain rfl := hw.symm; clear hw; rw [hsf.out]
                  go_wp2_with fail
                  refine hK.out _ _ hbq (.inl ?_)
                  clear hK K
                  try simp only [putQ]
                  refine qY ?_
                  refine qV (.bool true) ?_ (by (intro w; go_simp; all_goals (first | with_reducible rfl | (simp [yq2.out]; done) | assumption | (simp; done) | (simp; omega))))
                  iterate 2 refine qY ?_
                  refine qL ?_
                  refine qV (.bool false) ?_ (by (intro w; go_simp; all_goals (first | with_reducible rfl | (simp [yq1.out]; done) | assumption | (simp; done) | (simp; omega))))
                  iterate 2 refine qY ?_
                  refine qL ?_
                  refine qY ?_
                  refine qC (fun K hK => ?_)
                  go_simp
                  refine (ssite_lit fa fl fc WF sm false yb1.out _ (h0.below hbq) hl).mono ?_; rintro r w5 ⟨rfl, k5⟩
                  go_wp2_with fail
                  refine hK.out _ _ (btrans hbq k5) (.inl ?_)
                  clear hK K
                  replace hbq := btrans hbq k5
                  clear k5
                  try simp only [putQ]
                  iterate 4 refine qY ?_
                  refine qE ?_
                  go_wp2
                  go_ret
                  exact ⟨ret_bool (by rw [hs3.out]; simp [yq2.out, yq1.out, yb1.out]), (btrans b0 hbq)⟩
                · have yb1 : Hid (sitB fl WF sm = true) := zb1
                  clear zb1
                  refine wp_region_q0 s68_6 t68_6 (fun hbq => ?_)
                  refine qY ?_
                  refine qL ?_
                  refine qC (fun K hK => ?_)
                  go_simp
                  refine (lsite_any wf _).mono ?_; rintro r w5 ⟨rfl, hw⟩; obtain rfl := hw.symm; clear hw; rw [hsf.out]
                  go_wp2_with fail
                  refine hK.out _ _ hbq (.inl ?_)
                  clear hK K
                  try simp only [putQ]
                  refine qY ?_
                  refine qV (.bool true) ?_ (by (intro w; go_simp; all_goals (first | with_reducible rfl | (simp [yq2.out]; done) | assumption | (simp; done) | (simp; omega))))
                  iterate 2 refine qY ?_
                  refine qL ?_
                  refine qV (.bool false) ?_ (by (intro w; go_simp; all_goals (first | with_reducible rfl | (simp [yq1.out]; done) | assumption | (simp; done) | (simp; omega))))
                  iterate 2 refine qY ?_
                  refine qL ?_
                  refine qY ?_
                  refine qC (fun K hK => ?_)
                  go_simp
                  refine (ssite_lit fa fl fc WF sm true yb1.out _ (h0.below hbq) hl).mono ?_; rintro r w5 ⟨rfl, k5⟩
                  go_wp2_with fail
                  refine hK.out _ _ (btrans hbq k5) (.inl ?_)
                  clear hK K
                  replace hbq := btrans hbq k5
                  clear k5
                  try simp only [putQ]
                  iterate 4 refine qY ?_
                  refine qE ?_
                  go_wp2
                  go_ret
                  exact ⟨ret_bool (by rw [hs3.out]; simp [yq2.out, yq1.out, yb1.out]), (btrans b0 hbq)⟩
              · have zq1 : (wk == 6) = false := by simpa using q1
                refine wp_region_q0 s68_6 t68_6 (fun hbq => ?_)
                refine qY ?_
                refine qL ?_
                refine qC (fun K hK => ?_)
                go_simp
                refine (lsite_any wf _).mono ?_; rintro r w5 ⟨rfl, hw⟩; obtain rfl := hw.symm; clear hw; rw [hsf.out]
                go_wp2_with fail
                refine hK.out _ _ hbq (.inl ?_)
                clear hK K
                try simp only [putQ]
                refine qY ?_
                refine qV (.bool true) ?_ (by (intro w; go_simp; all_goals (first | with_reducible rfl | (simp [yq2.out]; done) | assumption | (simp; done) | (simp; omega))))
                iterate 2 refine qY ?_
                refine qL ?_
                refine qV (.bool true) ?_ (by (intro w; go_simp; all_goals (first | with_reducible rfl | (simp [q1]; done) | assumption | (simp; done) | (simp; omega))))
                refine qY ?_
                iterate 5 refine qN ?_
                iterate 3 refine qY ?_
                refine qE ?_
                go_wp2
                go_ret
                exact ⟨ret_bool (by rw [hs3.out]; simp [yq2.out, q1]), (btrans b0 hbq)⟩
            · have zq2 : (sf == sm) = false := by simpa using q2
              refine wp_region_q0 s68_6 t68_6 (fun hbq => ?_)
              refine qY ?_
              refine qL ?_
              refine qC (fun K hK => ?_)
              go_simp
              refine (lsite_any wf _).mono ?_; rintro r w5 ⟨rfl, hw⟩; obtain rfl := hw.symm; clear hw; rw [hsf.out]
              go_wp2_with fail
              refine hK.out _ _ hbq (.inl ?_)
              clear hK K
              try simp only [putQ]
              refine qY ?_
              refine qV (.bool false) ?_ (by (intro w; go_simp; all_goals (first | with_reducible rfl | (simp [q2]; done) | assumption | (simp; done) | (simp; omega))))
              refine qY ?_
              iterate 10 refine qN ?_
              iterate 2 refine qY ?_
              refine qE ?_
              go_wp2
              go_ret
              exact ⟨ret_bool (by rw [hs3.out]; simp [q2]), (btrans b0 hbq)⟩
      · have zq3 : (wt == me) = false := by simpa using q3
        refine wp_region_q0 s68_1 t68_1 (fun hbq => ?_)
        refine qY ?_
        refine qL ?_
        iterate 3 refine qY ?_
        refine qL ?_
        iterate 3 refine qY ?_
        refine qL ?_
        refine qY ?_
        refine qL ?_
        refine qV (.bool true) ?_ (by (intro w; go_simp; all_goals (first | with_reducible rfl | (simp [q3]; done) | assumption | (simp; done) | (simp; omega))))
        iterate 2 refine qY ?_
        iterate 5 refine qN ?_
        refine qY ?_
        refine qE ?_
        go_wp2
        go_ret
        exact ⟨ret_bool (by rw [hst.out]; simp [q3]), b0⟩
    · skip
      refine wp_region_q0 s68_1 t68_1 (fun hbq => ?_)
      refine qY ?_
      refine qL ?_
      iterate 3 refine qY ?_
      refine qL ?_
      iterate 2 refine qY ?_
      iterate 5 refine qN ?_
      iterate 2 refine qY ?_
      iterate 5 refine qN ?_
      refine qY ?_
      refine qE ?_
      go_wp2
      go_ret
      exact ⟨ret_bool (by rw [hst.out]; simp []), b0⟩
set_option maxRecDepth 20000 in
set_option maxHeartbeats 8000000 in
set_option linter.unusedSimpArgs false in
theorem takes14_any (me : Int) (up gone gate : Bool) (inc now sq turn : Int) (ta : Option Addr) (tl tc : Nat) (ca : Option Addr) (cl cc : Nat) (pn ps pq : Int) (pa : Bool) (da : Option Addr) (dl dc : Nat) (cx cy ch ce : Int) (pla : Option Addr) (pll plc : Nat) (oa : Option Addr) (ol oc : Nat) (F : Nat → Fc) (GI : Nat → It) (GD : Nat → Dt) (GP : Nat → Pl) (GO : Nat → Fg) (wp wk wf wt wn wq wx wy wz we : Int) (fa : Option Addr) (fl fc : Nat) (WF : Nat → Fc) (w : World) (hN : NdIn w ta tl F ca cl GI da dl GD pla pll GP oa ol GO) (h : FSl w fa fl WF) (hl : fl ≤ 1048576) :
    Calls Tryz.prog 14 #[.agg #[.int .i64 me, .bool up, .bool gone, .bool gate, .int .i64 inc, .int .i64 now, .int .i64 sq, .int .i64 turn, .slice ta tl tc, .slice ca cl cc, .int .i64 pn, .int .i64 ps, .int .i64 pq, .bool pa, .slice da dl dc, .int .i64 cx, .int .i64 cy, .int .i64 ch, .int .i64 ce, .slice pla pll plc, .slice oa ol oc], .agg #[.int .i64 wp, .int .i64 wk, .int .i64 wf, .int .i64 wt, .int .i64 wn, .int .i64 wq, .int .i64 wx, .int .i64 wy, .int .i64 wz, .int .i64 we, .slice fa fl fc]] w fun r w' => r = .returned (.bool (snodB me up gone gate inc now sq turn tl F cl GI pn ps pq pa dl GD cx cy ch ce pll GP ol GO && (wokB wp wk wf wt wn wq wx wy wz we fl WF && stkB me up gone wp wk wf wt fl WF))) ∧ Below w.heap.size w w' := by
  have a0 := balloc (.cells #[.int .i64 me, .bool up, .bool gone, .bool gate, .int .i64 inc, .int .i64 now, .int .i64 sq, .int .i64 turn, .slice ta tl tc, .slice ca cl cc, .int .i64 pn, .int .i64 ps, .int .i64 pq, .bool pa, .slice da dl dc, .int .i64 cx, .int .i64 cy, .int .i64 ch, .int .i64 ce, .slice pla pll plc, .slice oa ol oc] 43) (Below.refl w.heap.size w)
  have b0 := balloc (.cells #[.int .i64 wp, .int .i64 wk, .int .i64 wf, .int .i64 wt, .int .i64 wn, .int .i64 wq, .int .i64 wx, .int .i64 wy, .int .i64 wz, .int .i64 we, .slice fa fl fc] 52) a0
  have X := (Ws.box (w := w) #[.int .i64 me, .bool up, .bool gone, .bool gate, .int .i64 inc, .int .i64 now, .int .i64 sq, .int .i64 turn, .slice ta tl tc, .slice ca cl cc, .int .i64 pn, .int .i64 ps, .int .i64 pq, .bool pa, .slice da dl dc, .int .i64 cx, .int .i64 cy, .int .i64 ch, .int .i64 ce, .slice pla pll plc, .slice oa ol oc] 43).below (balloc (.cells #[.int .i64 wp, .int .i64 wk, .int .i64 wf, .int .i64 wt, .int .i64 wn, .int .i64 wq, .int .i64 wx, .int .i64 wy, .int .i64 wz, .int .i64 we, .slice fa fl fc] 52) (Below.refl (w.alloc (.cells #[.int .i64 me, .bool up, .bool gone, .bool gate, .int .i64 inc, .int .i64 now, .int .i64 sq, .int .i64 turn, .slice ta tl tc, .slice ca cl cc, .int .i64 pn, .int .i64 ps, .int .i64 pq, .bool pa, .slice da dl dc, .int .i64 cx, .int .i64 cy, .int .i64 ch, .int .i64 ce, .slice pla pll plc, .slice oa ol oc] 43)).heap.size (w.alloc (.cells #[.int .i64 me, .bool up, .bool gone, .bool gate, .int .i64 inc, .int .i64 now, .int .i64 sq, .int .i64 turn, .slice ta tl tc, .slice ca cl cc, .int .i64 pn, .int .i64 ps, .int .i64 pq, .bool pa, .slice da dl dc, .int .i64 cx, .int .i64 cy, .int .i64 ch, .int .i64 ce, .slice pla pll plc, .slice oa ol oc] 43))))
  have Y := Ws.box (w := w.alloc (.cells #[.int .i64 me, .bool up, .bool gone, .bool gate, .int .i64 inc, .int .i64 now, .int .i64 sq, .int .i64 turn, .slice ta tl tc, .slice ca cl cc, .int .i64 pn, .int .i64 ps, .int .i64 pq, .bool pa, .slice da dl dc, .int .i64 cx, .int .i64 cy, .int .i64 ch, .int .i64 ce, .slice pla pll plc, .slice oa ol oc] 43)) #[.int .i64 wp, .int .i64 wk, .int .i64 wf, .int .i64 wt, .int .i64 wn, .int .i64 wq, .int .i64 wx, .int .i64 wy, .int .i64 wz, .int .i64 we, .slice fa fl fc] 52
  go_enter Tryz.func14, Tryz.ntmps14
  go_upto_region 1 with fail
  have hKW : (w.alloc (.cells #[.int .i64 me, .bool up, .bool gone, .bool gate, .int .i64 inc, .int .i64 now, .int .i64 sq, .int .i64 turn, .slice ta tl tc, .slice ca cl cc, .int .i64 pn, .int .i64 ps, .int .i64 pq, .bool pa, .slice da dl dc, .int .i64 cx, .int .i64 cy, .int .i64 ch, .int .i64 ce, .slice pla pll plc, .slice oa ol oc] 43)).heap.size = w.heap.size + 1 := by simp [go_sem]
  rw [hKW] at Y
  clear hKW
  generalize w.heap.size + 1 = KW at *
  generalize (w.alloc (.cells #[.int .i64 me, .bool up, .bool gone, .bool gate, .int .i64 inc, .int .i64 now, .int .i64 sq, .int .i64 turn, .slice ta tl tc, .slice ca cl cc, .int .i64 pn, .int .i64 ps, .int .i64 pq, .bool pa, .slice da dl dc, .int .i64 cx, .int .i64 cy, .int .i64 ch, .int .i64 ce, .slice pla pll plc, .slice oa ol oc] 43)).alloc (.cells #[.int .i64 wp, .int .i64 wk, .int .i64 wf, .int .i64 wt, .int .i64 wn, .int .i64 wq, .int .i64 wx, .int .i64 wy, .int .i64 wz, .int .i64 we, .slice fa fl fc] 52) = u at *
  have h0 := h.below b0
  clear h a0
  have rN : u.rangeAt w.heap.size 0 [.int .i64 me, .bool up, .bool gone, .bool gate, .int .i64 inc, .int .i64 now, .int .i64 sq, .int .i64 turn, .slice ta tl tc, .slice ca cl cc, .int .i64 pn, .int .i64 ps, .int .i64 pq, .bool pa, .slice da dl dc, .int .i64 cx, .int .i64 cy, .int .i64 ch, .int .i64 ce, .slice pla pll plc, .slice oa ol oc] := X.range
  have rW : u.rangeAt KW 0 [.int .i64 wp, .int .i64 wk, .int .i64 wf, .int .i64 wt, .int .i64 wn, .int .i64 wq, .int .i64 wx, .int .i64 wy, .int .i64 wz, .int .i64 we, .slice fa fl fc] := Y.range
  have hN0 := hN.below b0
  clear hN X Y
  cases zb0 : snodB me up gone gate inc now sq turn tl F cl GI pn ps pq pa dl GD cx cy ch ce pll GP ol GO
  · have yb0 : Hid (snodB me up gone gate inc now sq turn tl F cl GI pn ps pq pa dl GD cx cy ch ce pll GP ol GO = false) := zb0
    clear zb0
    refine wp_region_q0 s14_1 t14_1 (fun hbq => ?_)
    refine qR ?_
    refine qC (fun K hK => ?_)
    go_simp
    refine (nodeOk9_lit me up gone gate inc now sq turn ta tl tc ca cl cc pn ps pq pa da dl dc cx cy ch ce pla pll plc oa ol oc F GI GD GP GO false yb0.out _ (hN0.below hbq)).mono ?_; rintro r w5 ⟨rfl, k5⟩
    go_wp2_with fail
    refine hK.out _ _ (btrans hbq k5) (.inl ?_)
    clear hK K
    replace hbq := btrans hbq k5
    clear k5
    try simp only [putQ]
    iterate 2 refine qY ?_
    iterate 3 refine qN ?_
    refine qY ?_
    refine qE ?_
    go_wp2
    go_ret
    exact ⟨ret_bool (by simp [yb0.out]), (btrans b0 hbq)⟩
  · have yb0 : Hid (snodB me up gone gate inc now sq turn tl F cl GI pn ps pq pa dl GD cx cy ch ce pll GP ol GO = true) := zb0
    clear zb0
    cases zb1 : wokB wp wk wf wt wn wq wx wy wz we fl WF
    · have yb1 : Hid (wokB wp wk wf wt wn wq wx wy wz we fl WF = false) := zb1
      clear zb1
      refine wp_region_q0 s14_1 t14_1 (fun hbq => ?_)
      refine qR ?_
      refine qC (fun K hK => ?_)
      go_simp
      refine (nodeOk9_lit me up gone gate inc now sq turn ta tl tc ca cl cc pn ps pq pa da dl dc cx cy ch ce pla pll plc oa ol oc F GI GD GP GO true yb0.out _ (hN0.below hbq)).mono ?_; rintro r w5 ⟨rfl, k5⟩
      go_wp2_with fail
      refine hK.out _ _ (btrans hbq k5) (.inl ?_)
      clear hK K
      replace hbq := btrans hbq k5
      clear k5
      try simp only [putQ]
      iterate 2 refine qY ?_
      refine qR ?_
      refine qC (fun K hK => ?_)
      go_simp
      refine (swok_lit wp wk wf wt wn wq wx wy wz we fa fl fc WF false yb1.out _ (h0.below hbq) hl).mono ?_; rintro r w6 ⟨rfl, k6⟩
      go_wp2_with fail
      refine hK.out _ _ (btrans hbq k6) (.inl ?_)
      clear hK K
      replace hbq := btrans hbq k6
      clear k6
      try simp only [putQ]
      iterate 2 refine qY ?_
      refine qE ?_
      go_wp2
      go_ret
      exact ⟨ret_bool (by simp [yb0.out, yb1.out]), (btrans b0 hbq)⟩
    · have yb1 : Hid (wokB wp wk wf wt wn wq wx wy wz we fl WF = true) := zb1
      clear zb1
      refine wp_region_q0 s14_1 t14_1 (fun hbq => ?_)
      refine qR ?_
      refine qC (fun K hK => ?_)
      go_simp
      refine (nodeOk9_lit me up gone gate inc now sq turn ta tl tc ca cl cc pn ps pq pa da dl dc cx cy ch ce pla pll plc oa ol oc F GI GD GP GO true yb0.out _ (hN0.below hbq)).mono ?_; rintro r w5 ⟨rfl, k5⟩
      go_wp2_with fail
      refine hK.out _ _ (btrans hbq k5) (.inl ?_)
      clear hK K
      replace hbq := btrans hbq k5
      clear k5
      try simp only [putQ]
      iterate 2 refine qY ?_
      refine qR ?_
      refine qC (fun K hK => ?_)
      go_simp
      refine (swok_lit wp wk wf wt wn wq wx wy wz we fa fl fc WF true yb1.out _ (h0.below hbq) hl).mono ?_; rintro r w6 ⟨rfl, k6⟩
      go_wp2_with fail
      refine hK.out _ _ (btrans hbq k6) (.inl ?_)
      clear hK K
      replace hbq := btrans hbq k6
      clear k6
      try simp only [putQ]
      iterate 2 refine qY ?_
      refine qE ?_
      have h1 := (h0.below hbq)
      have b1 := (btrans b0 hbq)
      have sN := range_keep rN hbq
      have sW := range_keep rW hbq
      clear hbq h0 b0 rN rW hN0
      go_upto_region 3 with fail
      refine wp_region_q0 s14_3 t14_3 (fun hbq => ?_)
      iterate 2 refine qR ?_
      refine qC (fun K hK => ?_)
      go_simp
      refine (stks_any me up gone gate inc now sq turn ta tl tc ca cl cc pn ps pq pa da dl dc cx cy ch ce pla pll plc oa ol oc wp wk wf wt wn wq wx wy wz we fa fl fc WF _ (h1.below hbq) hl).mono ?_; rintro r w6 ⟨rfl, k6⟩
      go_wp2_with fail
      refine hK.out _ _ (btrans hbq k6) (.inl ?_)
      clear hK K
      replace hbq := btrans hbq k6
      clear k6
      try simp only [putQ]
      refine qY ?_
      refine qE ?_
      go_wp2
      go_ret
      exact ⟨ret_bool (by rw [yb0.out, yb1.out]; rfl), btrans b1 hbq⟩
end Go.Proofs.YtnplhfgdbabmaaaGreat
