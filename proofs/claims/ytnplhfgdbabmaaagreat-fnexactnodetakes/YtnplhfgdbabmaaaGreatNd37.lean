/- Nodes: which words are taken, by the program. -/
import Derived.Test.YtnplhfgdbabmaaaGreatNd17
import Derived.Test.YtnplhfgdbabmaaaGreatWordF
import Derived.Test.YtnplhfgdbabmaaaGreatWk
namespace Go.Proofs.YtnplhfgdbabmaaaGreat
open Go.ChangeShapes Go.WideShapes Go.ChangeAt Go.RowKit
attribute [local go_sem ↓] Go.wp_at_zero Go.wp_at_succ
def s135_1 : List Stp := [⟨some 5, .fieldAddr 52 (.tmp 3) 1, 0, none, 0⟩, ⟨some 6, .load 3 (.tmp 5), 3, none, 0⟩, ⟨some 7, .binOp .eql 3 (.tmp 6) (.const (.int .i64 6)) 3, 4, none, 2⟩, ⟨some 8, .move (.tmp 7), 4, none, 0⟩, ⟨some 9, .fieldAddr 52 (.tmp 3) 2, 0, some (8, true), 0⟩, ⟨some 10, .load 3 (.tmp 9), 3, some (8, true), 0⟩, ⟨some 12, .load 43 (.tmp 2), 43, some (8, true), 0⟩, ⟨some 11, .call { callee := .value (.func 127), args := #[.tmp 10], argTypes := #[3] }, 3, some (8, true), 1⟩, ⟨some 13, .call { callee := .value (.func 104), args := #[.tmp 12], argTypes := #[43] }, 3, some (8, true), 1⟩, ⟨some 14, .binOp .neq 3 (.tmp 11) (.tmp 13) 3, 4, some (8, true), 2⟩, ⟨some 15, .pick (.tmp 8) (.tmp 14) (.const (.bool false)), 4, none, 0⟩, ⟨some 16, .move (.tmp 15), 4, none, 0⟩, ⟨some 17, .fieldAddr 52 (.tmp 3) 7, 0, some (16, true), 0⟩, ⟨some 18, .load 35 (.tmp 17), 35, some (16, true), 0⟩, ⟨some 19, .fieldAddr 52 (.tmp 3) 2, 0, some (16, true), 0⟩, ⟨some 20, .load 3 (.tmp 19), 3, some (16, true), 0⟩, ⟨some 21, .call { callee := .value (.func 127), args := #[.tmp 20], argTypes := #[3] }, 3, some (16, true), 1⟩, ⟨some 22, .call { callee := .value (.func 103), args := #[.tmp 18, .tmp 21], argTypes := #[35, 3] }, 4, some (16, true), 1⟩, ⟨some 23, .move (.tmp 22), 4, some (16, true), 0⟩, ⟨some 24, .fieldAddr 52 (.tmp 3) 7, 0, some (23, false), 0⟩, ⟨some 25, .load 35 (.tmp 24), 35, some (23, false), 0⟩, ⟨some 26, .load 43 (.tmp 2), 43, some (23, false), 0⟩, ⟨some 27, .call { callee := .value (.func 104), args := #[.tmp 26], argTypes := #[43] }, 3, some (23, false), 1⟩, ⟨some 28, .call { callee := .value (.func 103), args := #[.tmp 25, .tmp 27], argTypes := #[35, 3] }, 4, some (23, false), 1⟩, ⟨some 29, .pick (.tmp 23) (.const (.bool true)) (.tmp 28), 4, some (16, true), 0⟩, ⟨some 30, .pick (.tmp 16) (.tmp 29) (.const (.bool false)), 4, none, 0⟩, ⟨some 4, .assign (.tmp 30), 4, none, 0⟩]
def t135_1 : List (Nat × Nat) := [(0, 0), (1, 0), (2, 2), (3, 0), (4, 0), (5, 0), (7, 0), (6, 1), (8, 1), (9, 2), (10, 0), (11, 0), (12, 0), (13, 0), (14, 0), (15, 0), (16, 1), (17, 1), (18, 0), (19, 0), (20, 0), (21, 0), (22, 1), (23, 1), (24, 0), (25, 0), (26, 0)]
def s136_1 : List Stp := [⟨some 5, .load 43 (.tmp 2), 43, none, 0⟩, ⟨some 6, .fieldAddr 52 (.tmp 3) 2, 0, none, 0⟩, ⟨some 7, .load 3 (.tmp 6), 3, none, 0⟩, ⟨some 8, .call { callee := .value (.func 118), args := #[.tmp 5, .tmp 7], argTypes := #[43, 3] }, 4, none, 1⟩, ⟨some 9, .move (.tmp 8), 4, none, 0⟩, ⟨some 10, .fieldAddr 52 (.tmp 3) 1, 0, some (9, true), 0⟩, ⟨some 11, .load 3 (.tmp 10), 3, some (9, true), 0⟩, ⟨some 12, .binOp .neq 3 (.tmp 11) (.const (.int .i64 6)) 3, 4, some (9, true), 2⟩, ⟨some 13, .move (.tmp 12), 4, some (9, true), 0⟩, ⟨some 14, .fieldAddr 52 (.tmp 3) 7, 0, some (13, false), 0⟩, ⟨some 15, .load 35 (.tmp 14), 35, some (13, false), 0⟩, ⟨some 16, .load 43 (.tmp 2), 43, some (13, false), 0⟩, ⟨some 17, .call { callee := .value (.func 104), args := #[.tmp 16], argTypes := #[43] }, 3, some (13, false), 1⟩, ⟨some 18, .call { callee := .value (.func 103), args := #[.tmp 15, .tmp 17], argTypes := #[35, 3] }, 4, some (13, false), 1⟩, ⟨some 19, .unOp .not 4 (.tmp 18), 4, some (13, false), 0⟩, ⟨some 20, .pick (.tmp 13) (.const (.bool true)) (.tmp 19), 4, some (9, true), 0⟩, ⟨some 21, .pick (.tmp 9) (.tmp 20) (.const (.bool false)), 4, none, 0⟩, ⟨some 4, .assign (.tmp 21), 4, none, 0⟩]
def t136_1 : List (Nat × Nat) := [(0, 0), (1, 0), (2, 0), (3, 1), (4, 0), (5, 0), (6, 0), (7, 2), (8, 0), (9, 0), (10, 0), (11, 0), (12, 1), (13, 1), (14, 0), (15, 0), (16, 0), (17, 0)]
def s69_1 : List Stp := [⟨some 6, .load 52 (.tmp 3), 52, none, 0⟩, ⟨some 7, .call { callee := .value (.func 133), args := #[.tmp 6], argTypes := #[52] }, 4, none, 1⟩, ⟨some 8, .unOp .not 4 (.tmp 7), 4, none, 0⟩, ⟨some 9, .move (.tmp 8), 4, none, 0⟩, ⟨some 10, .load 43 (.tmp 2), 43, some (9, false), 0⟩, ⟨some 11, .call { callee := .value (.func 134), args := #[.tmp 10], argTypes := #[43] }, 4, some (9, false), 1⟩, ⟨some 12, .unOp .not 4 (.tmp 11), 4, some (9, false), 0⟩, ⟨some 13, .pick (.tmp 9) (.const (.bool true)) (.tmp 12), 4, none, 0⟩, ⟨some 14, .move (.tmp 13), 4, none, 0⟩, ⟨some 15, .fieldAddr 52 (.tmp 3) 3, 0, some (14, false), 0⟩, ⟨some 16, .load 3 (.tmp 15), 3, some (14, false), 0⟩, ⟨some 17, .fieldAddr 43 (.tmp 2) 0, 0, some (14, false), 0⟩, ⟨some 18, .load 3 (.tmp 17), 3, some (14, false), 0⟩, ⟨some 19, .binOp .neq 3 (.tmp 16) (.tmp 18) 3, 4, some (14, false), 2⟩, ⟨some 20, .pick (.tmp 14) (.const (.bool true)) (.tmp 19), 4, none, 0⟩, ⟨some 21, .move (.tmp 20), 4, none, 0⟩, ⟨some 22, .fieldAddr 52 (.tmp 3) 2, 0, some (21, false), 0⟩, ⟨some 23, .load 3 (.tmp 22), 3, some (21, false), 0⟩, ⟨some 24, .fieldAddr 43 (.tmp 2) 0, 0, some (21, false), 0⟩, ⟨some 25, .load 3 (.tmp 24), 3, some (21, false), 0⟩, ⟨some 26, .binOp .eql 3 (.tmp 23) (.tmp 25) 3, 4, some (21, false), 2⟩, ⟨some 27, .pick (.tmp 21) (.const (.bool true)) (.tmp 26), 4, none, 0⟩, ⟨some 5, .assign (.tmp 27), 4, none, 0⟩]
def t69_1 : List (Nat × Nat) := [(0, 0), (1, 1), (2, 0), (3, 0), (4, 0), (5, 1), (6, 0), (7, 0), (8, 0), (9, 0), (10, 0), (11, 0), (12, 0), (13, 2), (14, 0), (15, 0), (16, 0), (17, 0), (18, 0), (19, 0), (20, 2), (21, 0), (22, 0)]
def s69_4 : List Stp := [⟨some 32, .load 43 (.tmp 2), 43, none, 0⟩, ⟨some 33, .load 52 (.tmp 3), 52, none, 0⟩, ⟨some 34, .call { callee := .value (.func 135), args := #[.tmp 32, .tmp 33], argTypes := #[43, 52] }, 4, none, 1⟩, ⟨some 4, .assign (.tmp 34), 4, none, 0⟩]
def t69_4 : List (Nat × Nat) := [(0, 0), (1, 0), (2, 1), (3, 0)]
def s69_5 : List Stp := [⟨some 35, .load 43 (.tmp 2), 43, none, 0⟩, ⟨some 36, .load 52 (.tmp 3), 52, none, 0⟩, ⟨some 37, .call { callee := .value (.func 136), args := #[.tmp 35, .tmp 36], argTypes := #[43, 52] }, 4, none, 1⟩, ⟨some 4, .assign (.tmp 37), 4, none, 0⟩]
def t69_5 : List (Nat × Nat) := [(0, 0), (1, 0), (2, 1), (3, 0)]
def s16_1 : List Stp := [⟨some 5, .load 43 (.tmp 2), 43, none, 0⟩, ⟨some 6, .call { callee := .value (.func 11), args := #[.tmp 5], argTypes := #[43] }, 4, none, 1⟩, ⟨some 7, .move (.tmp 6), 4, none, 0⟩, ⟨some 8, .load 43 (.tmp 2), 43, some (7, true), 0⟩, ⟨some 9, .load 52 (.tmp 3), 52, some (7, true), 0⟩, ⟨some 10, .call { callee := .value (.func 69), args := #[.tmp 8, .tmp 9], argTypes := #[43, 52] }, 4, some (7, true), 1⟩, ⟨some 11, .pick (.tmp 7) (.tmp 10) (.const (.bool false)), 4, none, 0⟩, ⟨some 4, .assign (.tmp 11), 4, none, 0⟩]
def t16_1 : List (Nat × Nat) := [(0, 0), (1, 1), (2, 0), (3, 0), (4, 0), (5, 1), (6, 0), (7, 0)]
/-- a word from another site is taken -/
def wanB (me wk wf : Int) (fl : Nat) (WF : Nat → Fc) : Bool := decide (wk = 6) && !decide (ste wf = ste me) && (sitB fl WF (ste wf) || sitB fl WF (ste me))
/-- a word from the same site is taken -/
def lanB (me wk wf : Int) (fl : Nat) (WF : Nat → Fc) : Bool := ofB me wf && (!decide (wk = 6) || !sitB fl WF (ste me))
/-- a word is taken -/
def tksB (me : Int) (up gone : Bool) (wp wk wf wt wn wq wx wy wz we : Int) (fl : Nat) (WF : Nat → Fc) : Bool := wokB wp wk wf wt wn wq wx wy wz we fl WF && (up && !gone) && decide (wt = me) && !decide (wf = me) && (if wp = 2 then wanB me wk wf fl WF else lanB me wk wf fl WF)
theorem wok_lit (p k f t s q x y z e : Int) (a : Option Addr) (len cap : Nat) (F : Nat → Fc) (b : Bool) (hb : wokB p k f t s q x y z e len F = b) (w : World) (h : FSl w a len F) (hl : len ≤ 1048576) :
    Calls Tryz.prog 133 #[.agg #[.int .i64 p, .int .i64 k, .int .i64 f, .int .i64 t, .int .i64 s, .int .i64 q, .int .i64 x, .int .i64 y, .int .i64 z, .int .i64 e, (.slice a len cap)]] w fun r w' => r = .returned (.bool b) ∧ Below w.heap.size w w' := hb ▸ wok_any p k f t s q x y z e a len cap F w h hl
theorem ofs_lit (me : Int) (up gone gate : Bool) (inc now sq turn : Int) (ta : Option Addr) (tl tc : Nat) (ca : Option Addr) (cl cc : Nat) (pn ps pq : Int) (pa : Bool) (da : Option Addr) (dl dc : Nat) (cx cy ch ce : Int) (pla : Option Addr) (pll plc : Nat) (oa : Option Addr) (ol oc : Nat) (key : Int) (b : Bool) (hb : ofB me key = b) (w : World) :
    Calls Tryz.prog 118 #[.agg #[.int .i64 me, .bool up, .bool gone, .bool gate, .int .i64 inc, .int .i64 now, .int .i64 sq, .int .i64 turn, .slice ta tl tc, .slice ca cl cc, .int .i64 pn, .int .i64 ps, .int .i64 pq, .bool pa, .slice da dl dc, .int .i64 cx, .int .i64 cy, .int .i64 ch, .int .i64 ce, .slice pla pll plc, .slice oa ol oc], .int .i64 key] w fun r w' => r = .returned (.bool b) ∧ Below w.heap.size w w' := hb ▸ ofs_any me up gone gate inc now sq turn ta tl tc ca cl cc pn ps pq pa da dl dc cx cy ch ce pla pll plc oa ol oc key w
theorem nodeOk11_lit (me : Int) (up gone gate : Bool) (inc now sq turn : Int) (ta : Option Addr) (tl tc : Nat) (ca : Option Addr) (cl cc : Nat) (pn ps pq : Int) (pa : Bool) (da : Option Addr) (dl dc : Nat) (cx cy ch ce : Int) (pla : Option Addr) (pll plc : Nat) (oa : Option Addr) (ol oc : Nat) (F : Nat → Fc) (GI : Nat → It) (GD : Nat → Dt) (GP : Nat → Pl) (GO : Nat → Fg) (b : Bool) (hb : nodB me up gone gate inc now sq turn tl F cl GI pn ps pq pa dl GD cx cy ch ce pll GP ol GO = b) (w : World) (h : NdIn w ta tl F ca cl GI da dl GD pla pll GP oa ol GO) :
    Calls Tryz.prog 11 #[.agg #[.int .i64 me, .bool up, .bool gone, .bool gate, .int .i64 inc, .int .i64 now, .int .i64 sq, .int .i64 turn, .slice ta tl tc, .slice ca cl cc, .int .i64 pn, .int .i64 ps, .int .i64 pq, .bool pa, .slice da dl dc, .int .i64 cx, .int .i64 cy, .int .i64 ch, .int .i64 ce, .slice pla pll plc, .slice oa ol oc]] w fun r w' => r = .returned (.bool b) ∧ Below w.heap.size w w' := hb ▸ nodeOk11_any me up gone gate inc now sq turn ta tl tc ca cl cc pn ps pq pa da dl dc cx cy ch ce pla pll plc oa ol oc F GI GD GP GO w h
set_option maxRecDepth 20000 in
set_option maxHeartbeats 4000000 in
theorem awake_any (me : Int) (up gone gate : Bool) (inc now sq turn : Int) (ta : Option Addr) (tl tc : Nat) (ca : Option Addr) (cl cc : Nat) (pn ps pq : Int) (pa : Bool) (da : Option Addr) (dl dc : Nat) (cx cy ch ce : Int) (pla : Option Addr) (pll plc : Nat) (oa : Option Addr) (ol oc : Nat) (w : World) : Calls Tryz.prog 134 #[.agg #[.int .i64 me, .bool up, .bool gone, .bool gate, .int .i64 inc, .int .i64 now, .int .i64 sq, .int .i64 turn, .slice ta tl tc, .slice ca cl cc, .int .i64 pn, .int .i64 ps, .int .i64 pq, .bool pa, .slice da dl dc, .int .i64 cx, .int .i64 cy, .int .i64 ch, .int .i64 ce, .slice pla pll plc, .slice oa ol oc]] w fun r w' => r = .returned (.bool (up && !gone)) ∧ Below w.heap.size w w' := by
  have b0 := balloc (.cells #[.int .i64 me, .bool up, .bool gone, .bool gate, .int .i64 inc, .int .i64 now, .int .i64 sq, .int .i64 turn, .slice ta tl tc, .slice ca cl cc, .int .i64 pn, .int .i64 ps, .int .i64 pq, .bool pa, .slice da dl dc, .int .i64 cx, .int .i64 cy, .int .i64 ch, .int .i64 ce, .slice pla pll plc, .slice oa ol oc] 43) (Below.refl w.heap.size w)
  have X := Ws.box (w := w) #[.int .i64 me, .bool up, .bool gone, .bool gate, .int .i64 inc, .int .i64 now, .int .i64 sq, .int .i64 turn, .slice ta tl tc, .slice ca cl cc, .int .i64 pn, .int .i64 ps, .int .i64 pq, .bool pa, .slice da dl dc, .int .i64 cx, .int .i64 cy, .int .i64 ch, .int .i64 ce, .slice pla pll plc, .slice oa ol oc] 43
  go_enter Tryz.func134, Tryz.ntmps134
  go_upto_region 1 with fail
  generalize w.alloc (.cells #[.int .i64 me, .bool up, .bool gone, .bool gate, .int .i64 inc, .int .i64 now, .int .i64 sq, .int .i64 turn, .slice ta tl tc, .slice ca cl cc, .int .i64 pn, .int .i64 ps, .int .i64 pq, .bool pa, .slice da dl dc, .int .i64 cx, .int .i64 cy, .int .i64 ch, .int .i64 ce, .slice pla pll plc, .slice oa ol oc] 43) = u at *
  have d1 := X.c 1 (.bool up) rfl
  have d2 := X.c 2 (.bool gone) rfl
  clear X
  cases up <;> cases gone <;> (go_wp2; go_ret; exact ⟨rfl, b0⟩)
theorem awake_lit (me : Int) (up gone gate : Bool) (inc now sq turn : Int) (ta : Option Addr) (tl tc : Nat) (ca : Option Addr) (cl cc : Nat) (pn ps pq : Int) (pa : Bool) (da : Option Addr) (dl dc : Nat) (cx cy ch ce : Int) (pla : Option Addr) (pll plc : Nat) (oa : Option Addr) (ol oc : Nat) (b : Bool) (hb : (up && !gone) = b) (w : World) : Calls Tryz.prog 134 #[.agg #[.int .i64 me, .bool up, .bool gone, .bool gate, .int .i64 inc, .int .i64 now, .int .i64 sq, .int .i64 turn, .slice ta tl tc, .slice ca cl cc, .int .i64 pn, .int .i64 ps, .int .i64 pq, .bool pa, .slice da dl dc, .int .i64 cx, .int .i64 cy, .int .i64 ch, .int .i64 ce, .slice pla pll plc, .slice oa ol oc]] w fun r w' => r = .returned (.bool b) ∧ Below w.heap.size w w' := hb ▸ awake_any me up gone gate inc now sq turn ta tl tc ca cl cc pn ps pq pa da dl dc cx cy ch ce pla pll plc oa ol oc w
set_option maxRecDepth 20000 in
set_option maxHeartbeats 8000000 in
set_option linter.unusedSimpArgs false in
theorem wan_any (me : Int) (up gone gate : Bool) (inc now sq turn : Int) (ta : Option Addr) (tl tc : Nat) (ca : Option Addr) (cl cc : Nat) (pn ps pq : Int) (pa : Bool) (da : Option Addr) (dl dc : Nat) (cx cy ch ce : Int) (pla : Option Addr) (pll plc : Nat) (oa : Option Addr) (ol oc : Nat) (wp wk wf wt wn wq wx wy wz we : Int) (fa : Option Addr) (fl fc : Nat) (WF : Nat → Fc) (w : World) (h : FSl w fa fl WF) (hl : fl ≤ 1048576) :
    Calls Tryz.prog 135 #[.agg #[.int .i64 me, .bool up, .bool gone, .bool gate, .int .i64 inc, .int .i64 now, .int .i64 sq, .int .i64 turn, .slice ta tl tc, .slice ca cl cc, .int .i64 pn, .int .i64 ps, .int .i64 pq, .bool pa, .slice da dl dc, .int .i64 cx, .int .i64 cy, .int .i64 ch, .int .i64 ce, .slice pla pll plc, .slice oa ol oc], .agg #[.int .i64 wp, .int .i64 wk, .int .i64 wf, .int .i64 wt, .int .i64 wn, .int .i64 wq, .int .i64 wx, .int .i64 wy, .int .i64 wz, .int .i64 we, .slice fa fl fc]] w fun r w' => r = .returned (.bool (wanB me wk wf fl WF)) ∧ Below w.heap.size w w' := by
  have a0 := balloc (.cells #[.int .i64 me, .bool up, .bool gone, .bool gate, .int .i64 inc, .int .i64 now, .int .i64 sq, .int .i64 turn, .slice ta tl tc, .slice ca cl cc, .int .i64 pn, .int .i64 ps, .int .i64 pq, .bool pa, .slice da dl dc, .int .i64 cx, .int .i64 cy, .int .i64 ch, .int .i64 ce, .slice pla pll plc, .slice oa ol oc] 43) (Below.refl w.heap.size w)
  have b0 := balloc (.cells #[.int .i64 wp, .int .i64 wk, .int .i64 wf, .int .i64 wt, .int .i64 wn, .int .i64 wq, .int .i64 wx, .int .i64 wy, .int .i64 wz, .int .i64 we, .slice fa fl fc] 52) a0
  have X := (Ws.box (w := w) #[.int .i64 me, .bool up, .bool gone, .bool gate, .int .i64 inc, .int .i64 now, .int .i64 sq, .int .i64 turn, .slice ta tl tc, .slice ca cl cc, .int .i64 pn, .int .i64 ps, .int .i64 pq, .bool pa, .slice da dl dc, .int .i64 cx, .int .i64 cy, .int .i64 ch, .int .i64 ce, .slice pla pll plc, .slice oa ol oc] 43).below (balloc (.cells #[.int .i64 wp, .int .i64 wk, .int .i64 wf, .int .i64 wt, .int .i64 wn, .int .i64 wq, .int .i64 wx, .int .i64 wy, .int .i64 wz, .int .i64 we, .slice fa fl fc] 52) (Below.refl (w.alloc (.cells #[.int .i64 me, .bool up, .bool gone, .bool gate, .int .i64 inc, .int .i64 now, .int .i64 sq, .int .i64 turn, .slice ta tl tc, .slice ca cl cc, .int .i64 pn, .int .i64 ps, .int .i64 pq, .bool pa, .slice da dl dc, .int .i64 cx, .int .i64 cy, .int .i64 ch, .int .i64 ce, .slice pla pll plc, .slice oa ol oc] 43)).heap.size (w.alloc (.cells #[.int .i64 me, .bool up, .bool gone, .bool gate, .int .i64 inc, .int .i64 now, .int .i64 sq, .int .i64 turn, .slice ta tl tc, .slice ca cl cc, .int .i64 pn, .int .i64 ps, .int .i64 pq, .bool pa, .slice da dl dc, .int .i64 cx, .int .i64 cy, .int .i64 ch, .int .i64 ce, .slice pla pll plc, .slice oa ol oc] 43))))
  have Y := Ws.box (w := w.alloc (.cells #[.int .i64 me, .bool up, .bool gone, .bool gate, .int .i64 inc, .int .i64 now, .int .i64 sq, .int .i64 turn, .slice ta tl tc, .slice ca cl cc, .int .i64 pn, .int .i64 ps, .int .i64 pq, .bool pa, .slice da dl dc, .int .i64 cx, .int .i64 cy, .int .i64 ch, .int .i64 ce, .slice pla pll plc, .slice oa ol oc] 43)) #[.int .i64 wp, .int .i64 wk, .int .i64 wf, .int .i64 wt, .int .i64 wn, .int .i64 wq, .int .i64 wx, .int .i64 wy, .int .i64 wz, .int .i64 we, .slice fa fl fc] 52
  go_enter Tryz.func135, Tryz.ntmps135
  go_upto_region 1 with fail
  have hKW : (w.alloc (.cells #[.int .i64 me, .bool up, .bool gone, .bool gate, .int .i64 inc, .int .i64 now, .int .i64 sq, .int .i64 turn, .slice ta tl tc, .slice ca cl cc, .int .i64 pn, .int .i64 ps, .int .i64 pq, .bool pa, .slice da dl dc, .int .i64 cx, .int .i64 cy, .int .i64 ch, .int .i64 ce, .slice pla pll plc, .slice oa ol oc] 43)).heap.size = w.heap.size + 1 := by simp [go_sem]
  rw [hKW] at Y
  clear hKW
  generalize w.heap.size + 1 = KW at *
  generalize (w.alloc (.cells #[.int .i64 me, .bool up, .bool gone, .bool gate, .int .i64 inc, .int .i64 now, .int .i64 sq, .int .i64 turn, .slice ta tl tc, .slice ca cl cc, .int .i64 pn, .int .i64 ps, .int .i64 pq, .bool pa, .slice da dl dc, .int .i64 cx, .int .i64 cy, .int .i64 ch, .int .i64 ce, .slice pla pll plc, .slice oa ol oc] 43)).alloc (.cells #[.int .i64 wp, .int .i64 wk, .int .i64 wf, .int .i64 wt, .int .i64 wn, .int .i64 wq, .int .i64 wx, .int .i64 wy, .int .i64 wz, .int .i64 we, .slice fa fl fc] 52) = u at *
  have h0 := h.below b0
  clear h a0
  have rN : u.rangeAt w.heap.size 0 [.int .i64 me, .bool up, .bool gone, .bool gate, .int .i64 inc, .int .i64 now, .int .i64 sq, .int .i64 turn, .slice ta tl tc, .slice ca cl cc, .int .i64 pn, .int .i64 ps, .int .i64 pq, .bool pa, .slice da dl dc, .int .i64 cx, .int .i64 cy, .int .i64 ch, .int .i64 ce, .slice pla pll plc, .slice oa ol oc] := X.range
  have rW : u.rangeAt KW 0 [.int .i64 wp, .int .i64 wk, .int .i64 wf, .int .i64 wt, .int .i64 wn, .int .i64 wq, .int .i64 wx, .int .i64 wy, .int .i64 wz, .int .i64 we, .slice fa fl fc] := Y.range
  have e1 := Y.c 1 (.int .i64 wk) rfl
  have e2 := Y.c 2 (.int .i64 wf) rfl
  have e10 := Y.c 10 (.slice fa fl fc) rfl
  obtain ⟨sm, hsm⟩ : ∃ sm, Hid (ste me = sm) := ⟨_, rfl⟩
  obtain ⟨sf, hsf⟩ : ∃ sf, Hid (ste wf = sf) := ⟨_, rfl⟩
  have hst : Hid (wanB me wk wf fl WF = (decide (wk = 6) && !decide (sf = sm) && (sitB fl WF sf || sitB fl WF sm))) := by rw [Hid, wanB, hsm.out, hsf.out]
  clear X Y
  by_cases q1 : wk = 6
  · have yq1 : Hid (wk = 6) := q1
    clear q1
    by_cases q2 : sf = sm
    · have yq2 : Hid (sf = sm) := q2
      clear q2
      refine wp_region_q s135_1 t135_1 (fun hbq => ?_)
      refine qY ?_
      refine qL ?_
      refine qV (.bool true) ?_ (by (intro w; go_simp; all_goals (first | with_reducible rfl | (simp [yq1.out]; done) | assumption | (simp; done) | (simp; omega))))
      iterate 2 refine qY ?_
      refine qL ?_
      refine qR ?_
      refine qC (fun K hK => ?_)
      go_simp
      refine (siteOf_any wf _).mono ?_; rintro r w5 ⟨rfl, hw⟩; obtain rfl := hw.symm; clear hw; rw [hsf.out]
      go_wp2_with fail
      refine hK.out _ _ hbq (.inl ?_)
      clear hK K
      try simp only [putQ]
      refine qC (fun K hK => ?_)
      go_simp
      refine (site_any me up gone gate inc now sq turn ta tl tc ca cl cc pn ps pq pa da dl dc cx cy ch ce pla pll plc oa ol oc _).mono ?_; rintro r w5 ⟨rfl, k5⟩; rw [hsm.out]
      go_wp2_with fail
      refine hK.out _ _ (btrans hbq k5) (.inl ?_)
      clear hK K
      replace hbq := btrans hbq k5
      clear k5
      try simp only [putQ]
      refine qV (.bool false) ?_ (by (intro w; go_simp; all_goals (first | with_reducible rfl | (simp [yq2.out]; done) | assumption | (simp; done) | (simp; omega))))
      iterate 2 refine qY ?_
      iterate 13 refine qN ?_
      iterate 2 refine qY ?_
      refine qE ?_
      go_wp2
      go_ret
      exact ⟨ret_bool (by rw [hst.out]; simp [yq1.out, yq2.out]), (btrans b0 hbq)⟩
    · have zq2 : (sf == sm) = false := by simpa using q2
      cases zb1 : sitB fl WF sf
      · have yb1 : Hid (sitB fl WF sf = false) := zb1
        clear zb1
        cases zb2 : sitB fl WF sm
        · have yb2 : Hid (sitB fl WF sm = false) := zb2
          clear zb2
          refine wp_region_q s135_1 t135_1 (fun hbq => ?_)
          refine qY ?_
          refine qL ?_
          refine qV (.bool true) ?_ (by (intro w; go_simp; all_goals (first | with_reducible rfl | (simp [yq1.out]; done) | assumption | (simp; done) | (simp; omega))))
          iterate 2 refine qY ?_
          refine qL ?_
          refine qR ?_
          refine qC (fun K hK => ?_)
          go_simp
          refine (siteOf_any wf _).mono ?_; rintro r w5 ⟨rfl, hw⟩; obtain rfl := hw.symm; clear hw; rw [hsf.out]
          go_wp2_with fail
          refine hK.out _ _ hbq (.inl ?_)
          clear hK K
          try simp only [putQ]
          refine qC (fun K hK => ?_)
          go_simp
          refine (site_any me up gone gate inc now sq turn ta tl tc ca cl cc pn ps pq pa da dl dc cx cy ch ce pla pll plc oa ol oc _).mono ?_; rintro r w5 ⟨rfl, k5⟩; rw [hsm.out]
          go_wp2_with fail
          refine hK.out _ _ (btrans hbq k5) (.inl ?_)
          clear hK K
          replace hbq := btrans hbq k5
          clear k5
          try simp only [putQ]
          refine qV (.bool true) ?_ (by (intro w; go_simp; all_goals (first | with_reducible rfl | (simp [q2]; done) | assumption | (simp; done) | (simp; omega))))
          iterate 3 refine qY ?_
          refine qL ?_
          refine qY ?_
          refine qL ?_
          refine qC (fun K hK => ?_)
          go_simp
          refine (siteOf_any wf _).mono ?_; rintro r w5 ⟨rfl, hw⟩; obtain rfl := hw.symm; clear hw; rw [hsf.out]
          go_wp2_with fail
          refine hK.out _ _ hbq (.inl ?_)
          clear hK K
          try simp only [putQ]
          refine qC (fun K hK => ?_)
          go_simp
          refine (allOf_lit fa fl fc WF sf false yb1.out _ (h0.below hbq) hl).mono ?_; rintro r w5 ⟨rfl, k5⟩
          go_wp2_with fail
          refine hK.out _ _ (btrans hbq k5) (.inl ?_)
          clear hK K
          replace hbq := btrans hbq k5
          clear k5
          try simp only [putQ]
          iterate 2 refine qY ?_
          refine qL ?_
          refine qR ?_
          refine qC (fun K hK => ?_)
          go_simp
          refine (site_any me up gone gate inc now sq turn ta tl tc ca cl cc pn ps pq pa da dl dc cx cy ch ce pla pll plc oa ol oc _).mono ?_; rintro r w5 ⟨rfl, k5⟩; rw [hsm.out]
          go_wp2_with fail
          refine hK.out _ _ (btrans hbq k5) (.inl ?_)
          clear hK K
          replace hbq := btrans hbq k5
          clear k5
          try simp only [putQ]
          refine qC (fun K hK => ?_)
          go_simp
          refine (allOf_lit fa fl fc WF sm false yb2.out _ (h0.below hbq) hl).mono ?_; rintro r w5 ⟨rfl, k5⟩
          go_wp2_with fail
          refine hK.out _ _ (btrans hbq k5) (.inl ?_)
          clear hK K
          replace hbq := btrans hbq k5
          clear k5
          try simp only [putQ]
          iterate 3 refine qY ?_
          refine qE ?_
          go_wp2
          go_ret
          exact ⟨ret_bool (by rw [hst.out]; simp [yq1.out, q2, yb1.out, yb2.out]), (btrans b0 hbq)⟩
        · have yb2 : Hid (sitB fl WF sm = true) := zb2
          clear zb2
          refine wp_region_q s135_1 t135_1 (fun hbq => ?_)
          refine qY ?_
          refine qL ?_
          refine qV (.bool true) ?_ (by (intro w; go_simp; all_goals (first | with_reducible rfl | (simp [yq1.out]; done) | assumption | (simp; done) | (simp; omega))))
          iterate 2 refine qY ?_
          refine qL ?_
          refine qR ?_
          refine qC (fun K hK => ?_)
          go_simp
          refine (siteOf_any wf _).mono ?_; rintro r w5 ⟨rfl, hw⟩; obtain rfl := hw.symm; clear hw; rw [hsf.out]
          go_wp2_with fail
          refine hK.out _ _ hbq (.inl ?_)
          clear hK K
          try simp only [putQ]
          refine qC (fun K hK => ?_)
          go_simp
          refine (site_any me up gone gate inc now sq turn ta tl tc ca cl cc pn ps pq pa da dl dc cx cy ch ce pla pll plc oa ol oc _).mono ?_; rintro r w5 ⟨rfl, k5⟩; rw [hsm.out]
          go_wp2_with fail
          refine hK.out _ _ (btrans hbq k5) (.inl ?_)
          clear hK K
          replace hbq := btrans hbq k5
          clear k5
          try simp only [putQ]
          refine qV (.bool true) ?_ (by (intro w; go_simp; all_goals (first | with_reducible rfl | (simp [q2]; done) | assumption | (simp; done) | (simp; omega))))
          iterate 3 refine qY ?_
          refine qL ?_
          refine qY ?_
          refine qL ?_
          refine qC (fun K hK => ?_)
          go_simp
          refine (siteOf_any wf _).mono ?_; rintro r w5 ⟨rfl, hw⟩; obtain rfl := hw.symm; clear hw; rw [hsf.out]
          go_wp2_with fail
          refine hK.out _ _ hbq (.inl ?_)
          clear hK K
          try simp only [putQ]
          refine qC (fun K hK => ?_)
          go_simp
          refine (allOf_lit fa fl fc WF sf false yb1.out _ (h0.below hbq) hl).mono ?_; rintro r w5 ⟨rfl, k5⟩
          go_wp2_with fail
          refine hK.out _ _ (btrans hbq k5) (.inl ?_)
          clear hK K
          replace hbq := btrans hbq k5
          clear k5
          try simp only [putQ]
          iterate 2 refine qY ?_
          refine qL ?_
          refine qR ?_
          refine qC (fun K hK => ?_)
          go_simp
          refine (site_any me up gone gate inc now sq turn ta tl tc ca cl cc pn ps pq pa da dl dc cx cy ch ce pla pll plc oa ol oc _).mono ?_; rintro r w5 ⟨rfl, k5⟩; rw [hsm.out]
          go_wp2_with fail
          refine hK.out _ _ (btrans hbq k5) (.inl ?_)
          clear hK K
          replace hbq := btrans hbq k5
          clear k5
          try simp only [putQ]
          refine qC (fun K hK => ?_)
          go_simp
          refine (allOf_lit fa fl fc WF sm true yb2.out _ (h0.below hbq) hl).mono ?_; rintro r w5 ⟨rfl, k5⟩
          go_wp2_with fail
          refine hK.out _ _ (btrans hbq k5) (.inl ?_)
          clear hK K
          replace hbq := btrans hbq k5
          clear k5
          try simp only [putQ]
          iterate 3 refine qY ?_
          refine qE ?_
          go_wp2
          go_ret
          exact ⟨ret_bool (by rw [hst.out]; simp [yq1.out, q2, yb1.out, yb2.out]), (btrans b0 hbq)⟩
      · have yb1 : Hid (sitB fl WF sf = true) := zb1
        clear zb1
        refine wp_region_q s135_1 t135_1 (fun hbq => ?_)
        refine qY ?_
        refine qL ?_
        refine qV (.bool true) ?_ (by (intro w; go_simp; all_goals (first | with_reducible rfl | (simp [yq1.out]; done) | assumption | (simp; done) | (simp; omega))))
        iterate 2 refine qY ?_
        refine qL ?_
        refine qR ?_
        refine qC (fun K hK => ?_)
        go_simp
        refine (siteOf_any wf _).mono ?_; rintro r w5 ⟨rfl, hw⟩; obtain rfl := hw.symm; clear hw; rw [hsf.out]
        go_wp2_with fail
        refine hK.out _ _ hbq (.inl ?_)
        clear hK K
        try simp only [putQ]
        refine qC (fun K hK => ?_)
        go_simp
        refine (site_any me up gone gate inc now sq turn ta tl tc ca cl cc pn ps pq pa da dl dc cx cy ch ce pla pll plc oa ol oc _).mono ?_; rintro r w5 ⟨rfl, k5⟩; rw [hsm.out]
        go_wp2_with fail
        refine hK.out _ _ (btrans hbq k5) (.inl ?_)
        clear hK K
        replace hbq := btrans hbq k5
        clear k5
        try simp only [putQ]
        refine qV (.bool true) ?_ (by (intro w; go_simp; all_goals (first | with_reducible rfl | (simp [q2]; done) | assumption | (simp; done) | (simp; omega))))
        iterate 3 refine qY ?_
        refine qL ?_
        refine qY ?_
        refine qL ?_
        refine qC (fun K hK => ?_)
        go_simp
        refine (siteOf_any wf _).mono ?_; rintro r w5 ⟨rfl, hw⟩; obtain rfl := hw.symm; clear hw; rw [hsf.out]
        go_wp2_with fail
        refine hK.out _ _ hbq (.inl ?_)
        clear hK K
        try simp only [putQ]
        refine qC (fun K hK => ?_)
        go_simp
        refine (allOf_lit fa fl fc WF sf true yb1.out _ (h0.below hbq) hl).mono ?_; rintro r w5 ⟨rfl, k5⟩
        go_wp2_with fail
        refine hK.out _ _ (btrans hbq k5) (.inl ?_)
        clear hK K
        replace hbq := btrans hbq k5
        clear k5
        try simp only [putQ]
        refine qY ?_
        iterate 5 refine qN ?_
        iterate 3 refine qY ?_
        refine qE ?_
        go_wp2
        go_ret
        exact ⟨ret_bool (by rw [hst.out]; simp [yq1.out, q2, yb1.out]), (btrans b0 hbq)⟩
  · have zq1 : (wk == 6) = false := by simpa using q1
    refine wp_region_q s135_1 t135_1 (fun hbq => ?_)
    refine qY ?_
    refine qL ?_
    refine qV (.bool false) ?_ (by (intro w; go_simp; all_goals (first | with_reducible rfl | (simp [q1]; done) | assumption | (simp; done) | (simp; omega))))
    refine qY ?_
    iterate 6 refine qN ?_
    iterate 2 refine qY ?_
    iterate 13 refine qN ?_
    iterate 2 refine qY ?_
    refine qE ?_
    go_wp2
    go_ret
    exact ⟨ret_bool (by rw [hst.out]; simp [q1]), (btrans b0 hbq)⟩
set_option maxRecDepth 20000 in
set_option maxHeartbeats 8000000 in
set_option linter.unusedSimpArgs false in
theorem lan_any (me : Int) (up gone gate : Bool) (inc now sq turn : Int) (ta : Option Addr) (tl tc : Nat) (ca : Option Addr) (cl cc : Nat) (pn ps pq : Int) (pa : Bool) (da : Option Addr) (dl dc : Nat) (cx cy ch ce : Int) (pla : Option Addr) (pll plc : Nat) (oa : Option Addr) (ol oc : Nat) (wp wk wf wt wn wq wx wy wz we : Int) (fa : Option Addr) (fl fc : Nat) (WF : Nat → Fc) (w : World) (h : FSl w fa fl WF) (hl : fl ≤ 1048576) :
    Calls Tryz.prog 136 #[.agg #[.int .i64 me, .bool up, .bool gone, .bool gate, .int .i64 inc, .int .i64 now, .int .i64 sq, .int .i64 turn, .slice ta tl tc, .slice ca cl cc, .int .i64 pn, .int .i64 ps, .int .i64 pq, .bool pa, .slice da dl dc, .int .i64 cx, .int .i64 cy, .int .i64 ch, .int .i64 ce, .slice pla pll plc, .slice oa ol oc], .agg #[.int .i64 wp, .int .i64 wk, .int .i64 wf, .int .i64 wt, .int .i64 wn, .int .i64 wq, .int .i64 wx, .int .i64 wy, .int .i64 wz, .int .i64 we, .slice fa fl fc]] w fun r w' => r = .returned (.bool (lanB me wk wf fl WF)) ∧ Below w.heap.size w w' := by
  have a0 := balloc (.cells #[.int .i64 me, .bool up, .bool gone, .bool gate, .int .i64 inc, .int .i64 now, .int .i64 sq, .int .i64 turn, .slice ta tl tc, .slice ca cl cc, .int .i64 pn, .int .i64 ps, .int .i64 pq, .bool pa, .slice da dl dc, .int .i64 cx, .int .i64 cy, .int .i64 ch, .int .i64 ce, .slice pla pll plc, .slice oa ol oc] 43) (Below.refl w.heap.size w)
  have b0 := balloc (.cells #[.int .i64 wp, .int .i64 wk, .int .i64 wf, .int .i64 wt, .int .i64 wn, .int .i64 wq, .int .i64 wx, .int .i64 wy, .int .i64 wz, .int .i64 we, .slice fa fl fc] 52) a0
  have X := (Ws.box (w := w) #[.int .i64 me, .bool up, .bool gone, .bool gate, .int .i64 inc, .int .i64 now, .int .i64 sq, .int .i64 turn, .slice ta tl tc, .slice ca cl cc, .int .i64 pn, .int .i64 ps, .int .i64 pq, .bool pa, .slice da dl dc, .int .i64 cx, .int .i64 cy, .int .i64 ch, .int .i64 ce, .slice pla pll plc, .slice oa ol oc] 43).below (balloc (.cells #[.int .i64 wp, .int .i64 wk, .int .i64 wf, .int .i64 wt, .int .i64 wn, .int .i64 wq, .int .i64 wx, .int .i64 wy, .int .i64 wz, .int .i64 we, .slice fa fl fc] 52) (Below.refl (w.alloc (.cells #[.int .i64 me, .bool up, .bool gone, .bool gate, .int .i64 inc, .int .i64 now, .int .i64 sq, .int .i64 turn, .slice ta tl tc, .slice ca cl cc, .int .i64 pn, .int .i64 ps, .int .i64 pq, .bool pa, .slice da dl dc, .int .i64 cx, .int .i64 cy, .int .i64 ch, .int .i64 ce, .slice pla pll plc, .slice oa ol oc] 43)).heap.size (w.alloc (.cells #[.int .i64 me, .bool up, .bool gone, .bool gate, .int .i64 inc, .int .i64 now, .int .i64 sq, .int .i64 turn, .slice ta tl tc, .slice ca cl cc, .int .i64 pn, .int .i64 ps, .int .i64 pq, .bool pa, .slice da dl dc, .int .i64 cx, .int .i64 cy, .int .i64 ch, .int .i64 ce, .slice pla pll plc, .slice oa ol oc] 43))))
  have Y := Ws.box (w := w.alloc (.cells #[.int .i64 me, .bool up, .bool gone, .bool gate, .int .i64 inc, .int .i64 now, .int .i64 sq, .int .i64 turn, .slice ta tl tc, .slice ca cl cc, .int .i64 pn, .int .i64 ps, .int .i64 pq, .bool pa, .slice da dl dc, .int .i64 cx, .int .i64 cy, .int .i64 ch, .int .i64 ce, .slice pla pll plc, .slice oa ol oc] 43)) #[.int .i64 wp, .int .i64 wk, .int .i64 wf, .int .i64 wt, .int .i64 wn, .int .i64 wq, .int .i64 wx, .int .i64 wy, .int .i64 wz, .int .i64 we, .slice fa fl fc] 52
  go_enter Tryz.func136, Tryz.ntmps136
  go_upto_region 1 with fail
  have hKW : (w.alloc (.cells #[.int .i64 me, .bool up, .bool gone, .bool gate, .int .i64 inc, .int .i64 now, .int .i64 sq, .int .i64 turn, .slice ta tl tc, .slice ca cl cc, .int .i64 pn, .int .i64 ps, .int .i64 pq, .bool pa, .slice da dl dc, .int .i64 cx, .int .i64 cy, .int .i64 ch, .int .i64 ce, .slice pla pll plc, .slice oa ol oc] 43)).heap.size = w.heap.size + 1 := by simp [go_sem]
  rw [hKW] at Y
  clear hKW
  generalize w.heap.size + 1 = KW at *
  generalize (w.alloc (.cells #[.int .i64 me, .bool up, .bool gone, .bool gate, .int .i64 inc, .int .i64 now, .int .i64 sq, .int .i64 turn, .slice ta tl tc, .slice ca cl cc, .int .i64 pn, .int .i64 ps, .int .i64 pq, .bool pa, .slice da dl dc, .int .i64 cx, .int .i64 cy, .int .i64 ch, .int .i64 ce, .slice pla pll plc, .slice oa ol oc] 43)).alloc (.cells #[.int .i64 wp, .int .i64 wk, .int .i64 wf, .int .i64 wt, .int .i64 wn, .int .i64 wq, .int .i64 wx, .int .i64 wy, .int .i64 wz, .int .i64 we, .slice fa fl fc] 52) = u at *
  have h0 := h.below b0
  clear h a0
  have rN : u.rangeAt w.heap.size 0 [.int .i64 me, .bool up, .bool gone, .bool gate, .int .i64 inc, .int .i64 now, .int .i64 sq, .int .i64 turn, .slice ta tl tc, .slice ca cl cc, .int .i64 pn, .int .i64 ps, .int .i64 pq, .bool pa, .slice da dl dc, .int .i64 cx, .int .i64 cy, .int .i64 ch, .int .i64 ce, .slice pla pll plc, .slice oa ol oc] := X.range
  have rW : u.rangeAt KW 0 [.int .i64 wp, .int .i64 wk, .int .i64 wf, .int .i64 wt, .int .i64 wn, .int .i64 wq, .int .i64 wx, .int .i64 wy, .int .i64 wz, .int .i64 we, .slice fa fl fc] := Y.range
  have e1 := Y.c 1 (.int .i64 wk) rfl
  have e2 := Y.c 2 (.int .i64 wf) rfl
  have e10 := Y.c 10 (.slice fa fl fc) rfl
  obtain ⟨sm, hsm⟩ : ∃ sm, Hid (ste me = sm) := ⟨_, rfl⟩
  have hst : Hid (lanB me wk wf fl WF = (ofB me wf && (!decide (wk = 6) || !sitB fl WF sm))) := by rw [Hid, lanB, hsm.out]
  clear X Y
  cases zb0 : ofB me wf
  · have yb0 : Hid (ofB me wf = false) := zb0
    clear zb0
    refine wp_region_q s136_1 t136_1 (fun hbq => ?_)
    refine qR ?_
    refine qY ?_
    refine qL ?_
    refine qC (fun K hK => ?_)
    go_simp
    refine (ofs_lit me up gone gate inc now sq turn ta tl tc ca cl cc pn ps pq pa da dl dc cx cy ch ce pla pll plc oa ol oc wf false yb0.out _).mono ?_; rintro r w5 ⟨rfl, k5⟩
    go_wp2_with fail
    refine hK.out _ _ (btrans hbq k5) (.inl ?_)
    clear hK K
    replace hbq := btrans hbq k5
    clear k5
    try simp only [putQ]
    refine qY ?_
    iterate 11 refine qN ?_
    iterate 2 refine qY ?_
    refine qE ?_
    go_wp2
    go_ret
    exact ⟨ret_bool (by rw [hst.out]; simp [yb0.out]), (btrans b0 hbq)⟩
  · have yb0 : Hid (ofB me wf = true) := zb0
    clear zb0
    by_cases q1 : wk = 6
    · have yq1 : Hid (wk = 6) := q1
      clear q1
      cases zb2 : sitB fl WF sm
      · have yb2 : Hid (sitB fl WF sm = false) := zb2
        clear zb2
        refine wp_region_q s136_1 t136_1 (fun hbq => ?_)
        refine qR ?_
        refine qY ?_
        refine qL ?_
        refine qC (fun K hK => ?_)
        go_simp
        refine (ofs_lit me up gone gate inc now sq turn ta tl tc ca cl cc pn ps pq pa da dl dc cx cy ch ce pla pll plc oa ol oc wf true yb0.out _).mono ?_; rintro r w5 ⟨rfl, k5⟩
        go_wp2_with fail
        refine hK.out _ _ (btrans hbq k5) (.inl ?_)
        clear hK K
        replace hbq := btrans hbq k5
        clear k5
        try simp only [putQ]
        iterate 2 refine qY ?_
        refine qL ?_
        refine qV (.bool false) ?_ (by (intro w; go_simp; all_goals (first | with_reducible rfl | (simp [yq1.out]; done) | assumption | (simp; done) | (simp; omega))))
        iterate 2 refine qY ?_
        refine qL ?_
        refine qR ?_
        refine qC (fun K hK => ?_)
        go_simp
        refine (site_any me up gone gate inc now sq turn ta tl tc ca cl cc pn ps pq pa da dl dc cx cy ch ce pla pll plc oa ol oc _).mono ?_; rintro r w5 ⟨rfl, k5⟩; rw [hsm.out]
        go_wp2_with fail
        refine hK.out _ _ (btrans hbq k5) (.inl ?_)
        clear hK K
        replace hbq := btrans hbq k5
        clear k5
        try simp only [putQ]
        refine qC (fun K hK => ?_)
        go_simp
        refine (allOf_lit fa fl fc WF sm false yb2.out _ (h0.below hbq) hl).mono ?_; rintro r w5 ⟨rfl, k5⟩
        go_wp2_with fail
        refine hK.out _ _ (btrans hbq k5) (.inl ?_)
        clear hK K
        replace hbq := btrans hbq k5
        clear k5
        try simp only [putQ]
        iterate 4 refine qY ?_
        refine qE ?_
        go_wp2
        go_ret
        exact ⟨ret_bool (by rw [hst.out]; simp [yb0.out, yq1.out, yb2.out]), (btrans b0 hbq)⟩
      · have yb2 : Hid (sitB fl WF sm = true) := zb2
        clear zb2
        refine wp_region_q s136_1 t136_1 (fun hbq => ?_)
        refine qR ?_
        refine qY ?_
        refine qL ?_
        refine qC (fun K hK => ?_)
        go_simp
        refine (ofs_lit me up gone gate inc now sq turn ta tl tc ca cl cc pn ps pq pa da dl dc cx cy ch ce pla pll plc oa ol oc wf true yb0.out _).mono ?_; rintro r w5 ⟨rfl, k5⟩
        go_wp2_with fail
        refine hK.out _ _ (btrans hbq k5) (.inl ?_)
        clear hK K
        replace hbq := btrans hbq k5
        clear k5
        try simp only [putQ]
        iterate 2 refine qY ?_
        refine qL ?_
        refine qV (.bool false) ?_ (by (intro w; go_simp; all_goals (first | with_reducible rfl | (simp [yq1.out]; done) | assumption | (simp; done) | (simp; omega))))
        iterate 2 refine qY ?_
        refine qL ?_
        refine qR ?_
        refine qC (fun K hK => ?_)
        go_simp
        refine (site_any me up gone gate inc now sq turn ta tl tc ca cl cc pn ps pq pa da dl dc cx cy ch ce pla pll plc oa ol oc _).mono ?_; rintro r w5 ⟨rfl, k5⟩; rw [hsm.out]
        go_wp2_with fail
        refine hK.out _ _ (btrans hbq k5) (.inl ?_)
        clear hK K
        replace hbq := btrans hbq k5
        clear k5
        try simp only [putQ]
        refine qC (fun K hK => ?_)
        go_simp
        refine (allOf_lit fa fl fc WF sm true yb2.out _ (h0.below hbq) hl).mono ?_; rintro r w5 ⟨rfl, k5⟩
        go_wp2_with fail
        refine hK.out _ _ (btrans hbq k5) (.inl ?_)
        clear hK K
        replace hbq := btrans hbq k5
        clear k5
        try simp only [putQ]
        iterate 4 refine qY ?_
        refine qE ?_
        go_wp2
        go_ret
        exact ⟨ret_bool (by rw [hst.out]; simp [yb0.out, yq1.out, yb2.out]), (btrans b0 hbq)⟩
    · have zq1 : (wk == 6) = false := by simpa using q1
      refine wp_region_q s136_1 t136_1 (fun hbq => ?_)
      refine qR ?_
      refine qY ?_
      refine qL ?_
      refine qC (fun K hK => ?_)
      go_simp
      refine (ofs_lit me up gone gate inc now sq turn ta tl tc ca cl cc pn ps pq pa da dl dc cx cy ch ce pla pll plc oa ol oc wf true yb0.out _).mono ?_; rintro r w5 ⟨rfl, k5⟩
      go_wp2_with fail
      refine hK.out _ _ (btrans hbq k5) (.inl ?_)
      clear hK K
      replace hbq := btrans hbq k5
      clear k5
      try simp only [putQ]
      iterate 2 refine qY ?_
      refine qL ?_
      refine qV (.bool true) ?_ (by (intro w; go_simp; all_goals (first | with_reducible rfl | (simp [q1]; done) | assumption | (simp; done) | (simp; omega))))
      refine qY ?_
      iterate 6 refine qN ?_
      iterate 3 refine qY ?_
      refine qE ?_
      go_wp2
      go_ret
      exact ⟨ret_bool (by rw [hst.out]; simp [yb0.out, q1]), (btrans b0 hbq)⟩
set_option maxRecDepth 20000 in
set_option maxHeartbeats 8000000 in
set_option linter.unusedSimpArgs false in
theorem tks_any (me : Int) (up gone gate : Bool) (inc now sq turn : Int) (ta : Option Addr) (tl tc : Nat) (ca : Option Addr) (cl cc : Nat) (pn ps pq : Int) (pa : Bool) (da : Option Addr) (dl dc : Nat) (cx cy ch ce : Int) (pla : Option Addr) (pll plc : Nat) (oa : Option Addr) (ol oc : Nat) (wp wk wf wt wn wq wx wy wz we : Int) (fa : Option Addr) (fl fc : Nat) (WF : Nat → Fc) (w : World) (h : FSl w fa fl WF) (hl : fl ≤ 1048576) :
    Calls Tryz.prog 69 #[.agg #[.int .i64 me, .bool up, .bool gone, .bool gate, .int .i64 inc, .int .i64 now, .int .i64 sq, .int .i64 turn, .slice ta tl tc, .slice ca cl cc, .int .i64 pn, .int .i64 ps, .int .i64 pq, .bool pa, .slice da dl dc, .int .i64 cx, .int .i64 cy, .int .i64 ch, .int .i64 ce, .slice pla pll plc, .slice oa ol oc], .agg #[.int .i64 wp, .int .i64 wk, .int .i64 wf, .int .i64 wt, .int .i64 wn, .int .i64 wq, .int .i64 wx, .int .i64 wy, .int .i64 wz, .int .i64 we, .slice fa fl fc]] w fun r w' => r = .returned (.bool (tksB me up gone wp wk wf wt wn wq wx wy wz we fl WF)) ∧ Below w.heap.size w w' := by
  have a0 := balloc (.cells #[.int .i64 me, .bool up, .bool gone, .bool gate, .int .i64 inc, .int .i64 now, .int .i64 sq, .int .i64 turn, .slice ta tl tc, .slice ca cl cc, .int .i64 pn, .int .i64 ps, .int .i64 pq, .bool pa, .slice da dl dc, .int .i64 cx, .int .i64 cy, .int .i64 ch, .int .i64 ce, .slice pla pll plc, .slice oa ol oc] 43) (Below.refl w.heap.size w)
  have b0 := balloc (.cells #[.int .i64 wp, .int .i64 wk, .int .i64 wf, .int .i64 wt, .int .i64 wn, .int .i64 wq, .int .i64 wx, .int .i64 wy, .int .i64 wz, .int .i64 we, .slice fa fl fc] 52) a0
  have X := (Ws.box (w := w) #[.int .i64 me, .bool up, .bool gone, .bool gate, .int .i64 inc, .int .i64 now, .int .i64 sq, .int .i64 turn, .slice ta tl tc, .slice ca cl cc, .int .i64 pn, .int .i64 ps, .int .i64 pq, .bool pa, .slice da dl dc, .int .i64 cx, .int .i64 cy, .int .i64 ch, .int .i64 ce, .slice pla pll plc, .slice oa ol oc] 43).below (balloc (.cells #[.int .i64 wp, .int .i64 wk, .int .i64 wf, .int .i64 wt, .int .i64 wn, .int .i64 wq, .int .i64 wx, .int .i64 wy, .int .i64 wz, .int .i64 we, .slice fa fl fc] 52) (Below.refl (w.alloc (.cells #[.int .i64 me, .bool up, .bool gone, .bool gate, .int .i64 inc, .int .i64 now, .int .i64 sq, .int .i64 turn, .slice ta tl tc, .slice ca cl cc, .int .i64 pn, .int .i64 ps, .int .i64 pq, .bool pa, .slice da dl dc, .int .i64 cx, .int .i64 cy, .int .i64 ch, .int .i64 ce, .slice pla pll plc, .slice oa ol oc] 43)).heap.size (w.alloc (.cells #[.int .i64 me, .bool up, .bool gone, .bool gate, .int .i64 inc, .int .i64 now, .int .i64 sq, .int .i64 turn, .slice ta tl tc, .slice ca cl cc, .int .i64 pn, .int .i64 ps, .int .i64 pq, .bool pa, .slice da dl dc, .int .i64 cx, .int .i64 cy, .int .i64 ch, .int .i64 ce, .slice pla pll plc, .slice oa ol oc] 43))))
  have Y := Ws.box (w := w.alloc (.cells #[.int .i64 me, .bool up, .bool gone, .bool gate, .int .i64 inc, .int .i64 now, .int .i64 sq, .int .i64 turn, .slice ta tl tc, .slice ca cl cc, .int .i64 pn, .int .i64 ps, .int .i64 pq, .bool pa, .slice da dl dc, .int .i64 cx, .int .i64 cy, .int .i64 ch, .int .i64 ce, .slice pla pll plc, .slice oa ol oc] 43)) #[.int .i64 wp, .int .i64 wk, .int .i64 wf, .int .i64 wt, .int .i64 wn, .int .i64 wq, .int .i64 wx, .int .i64 wy, .int .i64 wz, .int .i64 we, .slice fa fl fc] 52
  go_enter Tryz.func69, Tryz.ntmps69
  go_upto_region 1 with fail
  have hKW : (w.alloc (.cells #[.int .i64 me, .bool up, .bool gone, .bool gate, .int .i64 inc, .int .i64 now, .int .i64 sq, .int .i64 turn, .slice ta tl tc, .slice ca cl cc, .int .i64 pn, .int .i64 ps, .int .i64 pq, .bool pa, .slice da dl dc, .int .i64 cx, .int .i64 cy, .int .i64 ch, .int .i64 ce, .slice pla pll plc, .slice oa ol oc] 43)).heap.size = w.heap.size + 1 := by simp [go_sem]
  rw [hKW] at Y
  clear hKW
  generalize w.heap.size + 1 = KW at *
  generalize (w.alloc (.cells #[.int .i64 me, .bool up, .bool gone, .bool gate, .int .i64 inc, .int .i64 now, .int .i64 sq, .int .i64 turn, .slice ta tl tc, .slice ca cl cc, .int .i64 pn, .int .i64 ps, .int .i64 pq, .bool pa, .slice da dl dc, .int .i64 cx, .int .i64 cy, .int .i64 ch, .int .i64 ce, .slice pla pll plc, .slice oa ol oc] 43)).alloc (.cells #[.int .i64 wp, .int .i64 wk, .int .i64 wf, .int .i64 wt, .int .i64 wn, .int .i64 wq, .int .i64 wx, .int .i64 wy, .int .i64 wz, .int .i64 we, .slice fa fl fc] 52) = u at *
  have h0 := h.below b0
  clear h a0
  have rN : u.rangeAt w.heap.size 0 [.int .i64 me, .bool up, .bool gone, .bool gate, .int .i64 inc, .int .i64 now, .int .i64 sq, .int .i64 turn, .slice ta tl tc, .slice ca cl cc, .int .i64 pn, .int .i64 ps, .int .i64 pq, .bool pa, .slice da dl dc, .int .i64 cx, .int .i64 cy, .int .i64 ch, .int .i64 ce, .slice pla pll plc, .slice oa ol oc] := X.range
  have rW : u.rangeAt KW 0 [.int .i64 wp, .int .i64 wk, .int .i64 wf, .int .i64 wt, .int .i64 wn, .int .i64 wq, .int .i64 wx, .int .i64 wy, .int .i64 wz, .int .i64 we, .slice fa fl fc] := Y.range
  have e0 := Y.c 0 (.int .i64 wp) rfl
  have e2 := Y.c 2 (.int .i64 wf) rfl
  have e3 := Y.c 3 (.int .i64 wt) rfl
  have d0 := X.c 0 (.int .i64 me) rfl
  have hst : Hid (tksB me up gone wp wk wf wt wn wq wx wy wz we fl WF = (wokB wp wk wf wt wn wq wx wy wz we fl WF && (up && !gone) && decide (wt = me) && !decide (wf = me) && (if wp = 2 then wanB me wk wf fl WF else lanB me wk wf fl WF))) := rfl
  clear X Y
  cases zb0 : wokB wp wk wf wt wn wq wx wy wz we fl WF
  · have yb0 : Hid (wokB wp wk wf wt wn wq wx wy wz we fl WF = false) := zb0
    clear zb0
    refine wp_region_q0 s69_1 t69_1 (fun hbq => ?_)
    refine qR ?_
    refine qC (fun K hK => ?_)
    go_simp
    refine (wok_lit wp wk wf wt wn wq wx wy wz we fa fl fc WF false yb0.out _ (h0.below hbq) hl).mono ?_; rintro r w5 ⟨rfl, k5⟩
    go_wp2_with fail
    refine hK.out _ _ (btrans hbq k5) (.inl ?_)
    clear hK K
    replace hbq := btrans hbq k5
    clear k5
    try simp only [putQ]
    iterate 2 refine qY ?_
    iterate 3 refine qN ?_
    iterate 2 refine qY ?_
    iterate 5 refine qN ?_
    iterate 2 refine qY ?_
    iterate 5 refine qN ?_
    iterate 2 refine qY ?_
    refine qE ?_
    go_wp2
    go_ret
    exact ⟨ret_bool (by rw [hst.out]; simp [yb0.out]), (btrans b0 hbq)⟩
  · have yb0 : Hid (wokB wp wk wf wt wn wq wx wy wz we fl WF = true) := zb0
    clear zb0
    cases zb1 : (up && !gone)
    · have yb1 : Hid ((up && !gone) = false) := zb1
      clear zb1
      refine wp_region_q0 s69_1 t69_1 (fun hbq => ?_)
      refine qR ?_
      refine qC (fun K hK => ?_)
      go_simp
      refine (wok_lit wp wk wf wt wn wq wx wy wz we fa fl fc WF true yb0.out _ (h0.below hbq) hl).mono ?_; rintro r w5 ⟨rfl, k5⟩
      go_wp2_with fail
      refine hK.out _ _ (btrans hbq k5) (.inl ?_)
      clear hK K
      replace hbq := btrans hbq k5
      clear k5
      try simp only [putQ]
      iterate 2 refine qY ?_
      refine qR ?_
      refine qC (fun K hK => ?_)
      go_simp
      refine (awake_lit me up gone gate inc now sq turn ta tl tc ca cl cc pn ps pq pa da dl dc cx cy ch ce pla pll plc oa ol oc false yb1.out _).mono ?_; rintro r w5 ⟨rfl, k5⟩
      go_wp2_with fail
      refine hK.out _ _ (btrans hbq k5) (.inl ?_)
      clear hK K
      replace hbq := btrans hbq k5
      clear k5
      try simp only [putQ]
      iterate 3 refine qY ?_
      iterate 5 refine qN ?_
      iterate 2 refine qY ?_
      iterate 5 refine qN ?_
      iterate 2 refine qY ?_
      refine qE ?_
      go_wp2
      go_ret
      exact ⟨ret_bool (by rw [hst.out]; simp [yb0.out, yb1.out]), (btrans b0 hbq)⟩
    · have yb1 : Hid ((up && !gone) = true) := zb1
      clear zb1
      by_cases q3 : wt = me
      · have yq3 : Hid (wt = me) := q3
        clear q3
        by_cases q4 : wf = me
        · have yq4 : Hid (wf = me) := q4
          clear q4
          refine wp_region_q0 s69_1 t69_1 (fun hbq => ?_)
          refine qR ?_
          refine qC (fun K hK => ?_)
          go_simp
          refine (wok_lit wp wk wf wt wn wq wx wy wz we fa fl fc WF true yb0.out _ (h0.below hbq) hl).mono ?_; rintro r w5 ⟨rfl, k5⟩
          go_wp2_with fail
          refine hK.out _ _ (btrans hbq k5) (.inl ?_)
          clear hK K
          replace hbq := btrans hbq k5
          clear k5
          try simp only [putQ]
          iterate 2 refine qY ?_
          refine qR ?_
          refine qC (fun K hK => ?_)
          go_simp
          refine (awake_lit me up gone gate inc now sq turn ta tl tc ca cl cc pn ps pq pa da dl dc cx cy ch ce pla pll plc oa ol oc true yb1.out _).mono ?_; rintro r w5 ⟨rfl, k5⟩
          go_wp2_with fail
          refine hK.out _ _ (btrans hbq k5) (.inl ?_)
          clear hK K
          replace hbq := btrans hbq k5
          clear k5
          try simp only [putQ]
          iterate 4 refine qY ?_
          refine qL ?_
          refine qY ?_
          refine qL ?_
          refine qV (.bool false) ?_ (by (intro w; go_simp; all_goals (first | with_reducible rfl | (simp [yq3.out]; done) | assumption | (simp; done) | (simp; omega))))
          iterate 3 refine qY ?_
          refine qL ?_
          refine qY ?_
          refine qL ?_
          refine qV (.bool true) ?_ (by (intro w; go_simp; all_goals (first | with_reducible rfl | (simp [yq4.out]; done) | assumption | (simp; done) | (simp; omega))))
          iterate 2 refine qY ?_
          refine qE ?_
          go_wp2
          go_ret
          exact ⟨ret_bool (by rw [hst.out]; simp [yb0.out, yb1.out, yq3.out, yq4.out]), (btrans b0 hbq)⟩
        · have zq4 : (wf == me) = false := by simpa using q4
          refine wp_region_q0 s69_1 t69_1 (fun hbq => ?_)
          refine qR ?_
          refine qC (fun K hK => ?_)
          go_simp
          refine (wok_lit wp wk wf wt wn wq wx wy wz we fa fl fc WF true yb0.out _ (h0.below hbq) hl).mono ?_; rintro r w5 ⟨rfl, k5⟩
          go_wp2_with fail
          refine hK.out _ _ (btrans hbq k5) (.inl ?_)
          clear hK K
          replace hbq := btrans hbq k5
          clear k5
          try simp only [putQ]
          iterate 2 refine qY ?_
          refine qR ?_
          refine qC (fun K hK => ?_)
          go_simp
          refine (awake_lit me up gone gate inc now sq turn ta tl tc ca cl cc pn ps pq pa da dl dc cx cy ch ce pla pll plc oa ol oc true yb1.out _).mono ?_; rintro r w5 ⟨rfl, k5⟩
          go_wp2_with fail
          refine hK.out _ _ (btrans hbq k5) (.inl ?_)
          clear hK K
          replace hbq := btrans hbq k5
          clear k5
          try simp only [putQ]
          iterate 4 refine qY ?_
          refine qL ?_
          refine qY ?_
          refine qL ?_
          refine qV (.bool false) ?_ (by (intro w; go_simp; all_goals (first | with_reducible rfl | (simp [yq3.out]; done) | assumption | (simp; done) | (simp; omega))))
          iterate 3 refine qY ?_
          refine qL ?_
          refine qY ?_
          refine qL ?_
          refine qV (.bool false) ?_ (by (intro w; go_simp; all_goals (first | with_reducible rfl | (simp [q4]; done) | assumption | (simp; done) | (simp; omega))))
          iterate 2 refine qY ?_
          refine qE ?_
          have h1 := (h0.below hbq)
          have b1 := (btrans b0 hbq)
          have f0 := keep_below hbq e0
          have sN := range_keep rN hbq
          have sW := range_keep rW hbq
          have hs2 : Hid (tksB me up gone wp wk wf wt wn wq wx wy wz we fl WF = (if wp = 2 then wanB me wk wf fl WF else lanB me wk wf fl WF)) := by
            rw [Hid, hst.out, yb0.out, yb1.out, decide_eq_true yq3.out, decide_eq_false q4]; rfl
          clear hbq h0 b0 e0 e2 e3 d0 rN rW hst
          by_cases q5 : wp = 2
          · have hs3 : Hid (tksB me up gone wp wk wf wt wn wq wx wy wz we fl WF = wanB me wk wf fl WF) := by rw [Hid, hs2.out, if_pos q5]
            have yq5 : (wp == 2) = true := by simpa using q5
            clear hs2 q5
            go_upto_region 4 with fail
            refine wp_region_q0 s69_4 t69_4 (fun hbq => ?_)
            iterate 2 refine qR ?_
            refine qC (fun K hK => ?_)
            go_simp
            refine (wan_any me up gone gate inc now sq turn ta tl tc ca cl cc pn ps pq pa da dl dc cx cy ch ce pla pll plc oa ol oc wp wk wf wt wn wq wx wy wz we fa fl fc WF _ (h1.below hbq) hl).mono ?_; rintro r w6 ⟨rfl, k6⟩
            go_wp2_with fail
            refine hK.out _ _ (btrans hbq k6) (.inl ?_)
            clear hK K
            replace hbq := btrans hbq k6
            clear k6
            try simp only [putQ]
            refine qY ?_
            refine qE ?_
            go_wp2
            go_ret
            exact ⟨ret_bool hs3.out.symm, btrans b1 hbq⟩
          · have hs3 : Hid (tksB me up gone wp wk wf wt wn wq wx wy wz we fl WF = lanB me wk wf fl WF) := by rw [Hid, hs2.out, if_neg q5]
            have yq5 : (wp == 2) = false := by simpa using q5
            clear hs2
            go_upto_region 5 with fail
            refine wp_region_q0 s69_5 t69_5 (fun hbq => ?_)
            iterate 2 refine qR ?_
            refine qC (fun K hK => ?_)
            go_simp
            refine (lan_any me up gone gate inc now sq turn ta tl tc ca cl cc pn ps pq pa da dl dc cx cy ch ce pla pll plc oa ol oc wp wk wf wt wn wq wx wy wz we fa fl fc WF _ (h1.below hbq) hl).mono ?_; rintro r w6 ⟨rfl, k6⟩
            go_wp2_with fail
            refine hK.out _ _ (btrans hbq k6) (.inl ?_)
            clear hK K
            replace hbq := btrans hbq k6
            clear k6
            try simp only [putQ]
            refine qY ?_
            refine qE ?_
            go_wp2
            go_ret
            exact ⟨ret_bool hs3.out.symm, btrans b1 hbq⟩
      · have zq3 : (wt == me) = false := by simpa using q3
        refine wp_region_q0 s69_1 t69_1 (fun hbq => ?_)
        refine qR ?_
        refine qC (fun K hK => ?_)
        go_simp
        refine (wok_lit wp wk wf wt wn wq wx wy wz we fa fl fc WF true yb0.out _ (h0.below hbq) hl).mono ?_; rintro r w5 ⟨rfl, k5⟩
        go_wp2_with fail
        refine hK.out _ _ (btrans hbq k5) (.inl ?_)
        clear hK K
        replace hbq := btrans hbq k5
        clear k5
        try simp only [putQ]
        iterate 2 refine qY ?_
        refine qR ?_
        refine qC (fun K hK => ?_)
        go_simp
        refine (awake_lit me up gone gate inc now sq turn ta tl tc ca cl cc pn ps pq pa da dl dc cx cy ch ce pla pll plc oa ol oc true yb1.out _).mono ?_; rintro r w5 ⟨rfl, k5⟩
        go_wp2_with fail
        refine hK.out _ _ (btrans hbq k5) (.inl ?_)
        clear hK K
        replace hbq := btrans hbq k5
        clear k5
        try simp only [putQ]
        iterate 4 refine qY ?_
        refine qL ?_
        refine qY ?_
        refine qL ?_
        refine qV (.bool true) ?_ (by (intro w; go_simp; all_goals (first | with_reducible rfl | (simp [q3]; done) | assumption | (simp; done) | (simp; omega))))
        iterate 2 refine qY ?_
        iterate 5 refine qN ?_
        iterate 2 refine qY ?_
        refine qE ?_
        go_wp2
        go_ret
        exact ⟨ret_bool (by rw [hst.out]; simp [yb0.out, yb1.out, q3]), (btrans b0 hbq)⟩
set_option maxRecDepth 20000 in
set_option maxHeartbeats 8000000 in
set_option linter.unusedSimpArgs false in
theorem takes16_any (me : Int) (up gone gate : Bool) (inc now sq turn : Int) (ta : Option Addr) (tl tc : Nat) (ca : Option Addr) (cl cc : Nat) (pn ps pq : Int) (pa : Bool) (da : Option Addr) (dl dc : Nat) (cx cy ch ce : Int) (pla : Option Addr) (pll plc : Nat) (oa : Option Addr) (ol oc : Nat) (F : Nat → Fc) (GI : Nat → It) (GD : Nat → Dt) (GP : Nat → Pl) (GO : Nat → Fg) (wp wk wf wt wn wq wx wy wz we : Int) (fa : Option Addr) (fl fc : Nat) (WF : Nat → Fc) (w : World) (hN : NdIn w ta tl F ca cl GI da dl GD pla pll GP oa ol GO) (h : FSl w fa fl WF) (hl : fl ≤ 1048576) :
    Calls Tryz.prog 16 #[.agg #[.int .i64 me, .bool up, .bool gone, .bool gate, .int .i64 inc, .int .i64 now, .int .i64 sq, .int .i64 turn, .slice ta tl tc, .slice ca cl cc, .int .i64 pn, .int .i64 ps, .int .i64 pq, .bool pa, .slice da dl dc, .int .i64 cx, .int .i64 cy, .int .i64 ch, .int .i64 ce, .slice pla pll plc, .slice oa ol oc], .agg #[.int .i64 wp, .int .i64 wk, .int .i64 wf, .int .i64 wt, .int .i64 wn, .int .i64 wq, .int .i64 wx, .int .i64 wy, .int .i64 wz, .int .i64 we, .slice fa fl fc]] w fun r w' => r = .returned (.bool (nodB me up gone gate inc now sq turn tl F cl GI pn ps pq pa dl GD cx cy ch ce pll GP ol GO && tksB me up gone wp wk wf wt wn wq wx wy wz we fl WF)) ∧ Below w.heap.size w w' := by
  have a0 := balloc (.cells #[.int .i64 me, .bool up, .bool gone, .bool gate, .int .i64 inc, .int .i64 now, .int .i64 sq, .int .i64 turn, .slice ta tl tc, .slice ca cl cc, .int .i64 pn, .int .i64 ps, .int .i64 pq, .bool pa, .slice da dl dc, .int .i64 cx, .int .i64 cy, .int .i64 ch, .int .i64 ce, .slice pla pll plc, .slice oa ol oc] 43) (Below.refl w.heap.size w)
  have b0 := balloc (.cells #[.int .i64 wp, .int .i64 wk, .int .i64 wf, .int .i64 wt, .int .i64 wn, .int .i64 wq, .int .i64 wx, .int .i64 wy, .int .i64 wz, .int .i64 we, .slice fa fl fc] 52) a0
  have X := (Ws.box (w := w) #[.int .i64 me, .bool up, .bool gone, .bool gate, .int .i64 inc, .int .i64 now, .int .i64 sq, .int .i64 turn, .slice ta tl tc, .slice ca cl cc, .int .i64 pn, .int .i64 ps, .int .i64 pq, .bool pa, .slice da dl dc, .int .i64 cx, .int .i64 cy, .int .i64 ch, .int .i64 ce, .slice pla pll plc, .slice oa ol oc] 43).below (balloc (.cells #[.int .i64 wp, .int .i64 wk, .int .i64 wf, .int .i64 wt, .int .i64 wn, .int .i64 wq, .int .i64 wx, .int .i64 wy, .int .i64 wz, .int .i64 we, .slice fa fl fc] 52) (Below.refl (w.alloc (.cells #[.int .i64 me, .bool up, .bool gone, .bool gate, .int .i64 inc, .int .i64 now, .int .i64 sq, .int .i64 turn, .slice ta tl tc, .slice ca cl cc, .int .i64 pn, .int .i64 ps, .int .i64 pq, .bool pa, .slice da dl dc, .int .i64 cx, .int .i64 cy, .int .i64 ch, .int .i64 ce, .slice pla pll plc, .slice oa ol oc] 43)).heap.size (w.alloc (.cells #[.int .i64 me, .bool up, .bool gone, .bool gate, .int .i64 inc, .int .i64 now, .int .i64 sq, .int .i64 turn, .slice ta tl tc, .slice ca cl cc, .int .i64 pn, .int .i64 ps, .int .i64 pq, .bool pa, .slice da dl dc, .int .i64 cx, .int .i64 cy, .int .i64 ch, .int .i64 ce, .slice pla pll plc, .slice oa ol oc] 43))))
  have Y := Ws.box (w := w.alloc (.cells #[.int .i64 me, .bool up, .bool gone, .bool gate, .int .i64 inc, .int .i64 now, .int .i64 sq, .int .i64 turn, .slice ta tl tc, .slice ca cl cc, .int .i64 pn, .int .i64 ps, .int .i64 pq, .bool pa, .slice da dl dc, .int .i64 cx, .int .i64 cy, .int .i64 ch, .int .i64 ce, .slice pla pll plc, .slice oa ol oc] 43)) #[.int .i64 wp, .int .i64 wk, .int .i64 wf, .int .i64 wt, .int .i64 wn, .int .i64 wq, .int .i64 wx, .int .i64 wy, .int .i64 wz, .int .i64 we, .slice fa fl fc] 52
  go_enter Tryz.func16, Tryz.ntmps16
  go_upto_region 1 with fail
  have hKW : (w.alloc (.cells #[.int .i64 me, .bool up, .bool gone, .bool gate, .int .i64 inc, .int .i64 now, .int .i64 sq, .int .i64 turn, .slice ta tl tc, .slice ca cl cc, .int .i64 pn, .int .i64 ps, .int .i64 pq, .bool pa, .slice da dl dc, .int .i64 cx, .int .i64 cy, .int .i64 ch, .int .i64 ce, .slice pla pll plc, .slice oa ol oc] 43)).heap.size = w.heap.size + 1 := by simp [go_sem]
  rw [hKW] at Y
  clear hKW
  generalize w.heap.size + 1 = KW at *
  generalize (w.alloc (.cells #[.int .i64 me, .bool up, .bool gone, .bool gate, .int .i64 inc, .int .i64 now, .int .i64 sq, .int .i64 turn, .slice ta tl tc, .slice ca cl cc, .int .i64 pn, .int .i64 ps, .int .i64 pq, .bool pa, .slice da dl dc, .int .i64 cx, .int .i64 cy, .int .i64 ch, .int .i64 ce, .slice pla pll plc, .slice oa ol oc] 43)).alloc (.cells #[.int .i64 wp, .int .i64 wk, .int .i64 wf, .int .i64 wt, .int .i64 wn, .int .i64 wq, .int .i64 wx, .int .i64 wy, .int .i64 wz, .int .i64 we, .slice fa fl fc] 52) = u at *
  have h0 := h.below b0
  clear h a0
  have rN : u.rangeAt w.heap.size 0 [.int .i64 me, .bool up, .bool gone, .bool gate, .int .i64 inc, .int .i64 now, .int .i64 sq, .int .i64 turn, .slice ta tl tc, .slice ca cl cc, .int .i64 pn, .int .i64 ps, .int .i64 pq, .bool pa, .slice da dl dc, .int .i64 cx, .int .i64 cy, .int .i64 ch, .int .i64 ce, .slice pla pll plc, .slice oa ol oc] := X.range
  have rW : u.rangeAt KW 0 [.int .i64 wp, .int .i64 wk, .int .i64 wf, .int .i64 wt, .int .i64 wn, .int .i64 wq, .int .i64 wx, .int .i64 wy, .int .i64 wz, .int .i64 we, .slice fa fl fc] := Y.range
  have hN0 := hN.below b0
  clear hN X Y
  cases zb0 : nodB me up gone gate inc now sq turn tl F cl GI pn ps pq pa dl GD cx cy ch ce pll GP ol GO
  · have yb0 : Hid (nodB me up gone gate inc now sq turn tl F cl GI pn ps pq pa dl GD cx cy ch ce pll GP ol GO = false) := zb0
    clear zb0
    refine wp_region_q0 s16_1 t16_1 (fun hbq => ?_)
    refine qR ?_
    refine qC (fun K hK => ?_)
    go_simp
    refine (nodeOk11_lit me up gone gate inc now sq turn ta tl tc ca cl cc pn ps pq pa da dl dc cx cy ch ce pla pll plc oa ol oc F GI GD GP GO false yb0.out _ (hN0.below hbq)).mono ?_; rintro r w5 ⟨rfl, k5⟩
    go_wp2_with fail
    refine hK.out _ _ (btrans hbq k5) (.inl ?_)
    clear hK K
    replace hbq := btrans hbq k5
    clear k5
    try simp only [putQ]
    refine qY ?_
    iterate 3 refine qN ?_
    iterate 2 refine qY ?_
    refine qE ?_
    go_wp2
    go_ret
    exact ⟨ret_bool (by rw [yb0.out]; rfl), (btrans b0 hbq)⟩
  · have yb0 : Hid (nodB me up gone gate inc now sq turn tl F cl GI pn ps pq pa dl GD cx cy ch ce pll GP ol GO = true) := zb0
    clear zb0
    refine wp_region_q0 s16_1 t16_1 (fun hbq => ?_)
    refine qR ?_
    refine qC (fun K hK => ?_)
    go_simp
    refine (nodeOk11_lit me up gone gate inc now sq turn ta tl tc ca cl cc pn ps pq pa da dl dc cx cy ch ce pla pll plc oa ol oc F GI GD GP GO true yb0.out _ (hN0.below hbq)).mono ?_; rintro r w5 ⟨rfl, k5⟩
    go_wp2_with fail
    refine hK.out _ _ (btrans hbq k5) (.inl ?_)
    clear hK K
    replace hbq := btrans hbq k5
    clear k5
    try simp only [putQ]
    refine qY ?_
    iterate 2 refine qR ?_
    refine qC (fun K hK => ?_)
    go_simp
    refine (tks_any me up gone gate inc now sq turn ta tl tc ca cl cc pn ps pq pa da dl dc cx cy ch ce pla pll plc oa ol oc wp wk wf wt wn wq wx wy wz we fa fl fc WF _ (h0.below hbq) hl).mono ?_; rintro r w6 ⟨rfl, k6⟩
    go_wp2_with fail
    refine hK.out _ _ (btrans hbq k6) (.inl ?_)
    clear hK K
    replace hbq := btrans hbq k6
    clear k6
    try simp only [putQ]
    iterate 2 refine qY ?_
    refine qE ?_
    go_wp2
    go_ret
    exact ⟨ret_bool (by rw [yb0.out]; rfl), (btrans b0 hbq)⟩
end Go.Proofs.YtnplhfgdbabmaaaGreat
