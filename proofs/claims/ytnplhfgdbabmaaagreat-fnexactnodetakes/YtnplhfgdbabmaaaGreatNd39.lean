/- Nodes: at every node and every word NodeTakes answers as its model does. -/
import Derived.Test.YtnplhfgdbabmaaaGreatNd27
import Derived.Test.YtnplhfgdbabmaaaGreatNd38
namespace Go.Proofs.YtnplhfgdbabmaaaGreat
open Go.ChangeShapes Go.WideShapes Go.ChangeAt Go.RowKit
attribute [local go_sem ↓] Go.wp_at_zero Go.wp_at_succ
def s4_5 : List Stp := [⟨some 15, .load 48 (.tmp 3), 48, none, 0⟩, ⟨some 16, .move (.tmp 5), 3, none, 0⟩, ⟨some 17, .call { callee := .value (.func 13), args := #[.tmp 15, .tmp 16], argTypes := #[48, 3] }, 3, none, 1⟩, ⟨some 5, .assign (.tmp 17), 3, none, 0⟩]
def t4_5 : List (Nat × Nat) := [(0, 0), (1, 0), (2, 1), (3, 0)]
def s4_8 : List Stp := [⟨some 20, .load 32 (.tmp 2), 32, none, 0⟩, ⟨some 22, .load 48 (.tmp 3), 48, none, 0⟩, ⟨some 21, .call { callee := .value (.func 10), args := #[.tmp 20], argTypes := #[32] }, 43, none, 1⟩, ⟨some 23, .call { callee := .value (.func 15), args := #[.tmp 22], argTypes := #[48] }, 52, none, 1⟩, ⟨some 24, .call { callee := .value (.func 14), args := #[.tmp 21, .tmp 23], argTypes := #[43, 52] }, 4, none, 1⟩, ⟨some 6, .assign (.tmp 24), 4, none, 0⟩]
def t4_8 : List (Nat × Nat) := [(0, 0), (2, 0), (1, 1), (3, 1), (4, 1), (5, 0)]
def s4_11 : List Stp := [⟨some 29, .load 43 (.tmp 7), 43, none, 0⟩, ⟨some 30, .load 52 (.tmp 8), 52, none, 0⟩, ⟨some 31, .call { callee := .value (.func 16), args := #[.tmp 29, .tmp 30], argTypes := #[43, 52] }, 4, none, 1⟩, ⟨some 9, .assign (.tmp 31), 4, none, 0⟩]
def t4_11 : List (Nat × Nat) := [(0, 0), (1, 0), (2, 1), (3, 0)]
def s4_14 : List Stp := [⟨some 35, .load 43 (.tmp 7), 43, none, 0⟩, ⟨some 36, .load 32 (.tmp 2), 32, none, 0⟩, ⟨some 37, .call { callee := .value (.func 10), args := #[.tmp 36], argTypes := #[32] }, 43, none, 1⟩, ⟨some 38, .call { callee := .value (.func 12), args := #[.tmp 35, .tmp 37], argTypes := #[43, 43] }, 4, none, 1⟩, ⟨some 39, .unOp .not 4 (.tmp 38), 4, none, 0⟩]
def t4_14 : List (Nat × Nat) := [(0, 0), (1, 0), (2, 1), (3, 1), (4, 0)]
def s4_16 : List Stp := [⟨some 40, .load 52 (.tmp 8), 52, none, 0⟩, ⟨some 41, .load 48 (.tmp 3), 48, none, 0⟩, ⟨some 42, .call { callee := .value (.func 15), args := #[.tmp 41], argTypes := #[48] }, 52, none, 1⟩, ⟨some 43, .call { callee := .value (.func 17), args := #[.tmp 40, .tmp 42], argTypes := #[52, 52] }, 4, none, 1⟩, ⟨some 44, .unOp .not 4 (.tmp 43), 4, none, 0⟩]
def t4_16 : List (Nat × Nat) := [(0, 0), (1, 0), (2, 1), (3, 1), (4, 0)]
def SzW (r : Ending) (fl : Nat) : Prop := ∃ z : Int, r = .returned (.int .i64 z) ∧ (z = -1 ∨ (0 ≤ z ∧ fl ≤ 1048576))
theorem szWord_any (wp wk wf wt wn wq wx wy wz we : Int) (fa : Option Addr) (fl fc : Nat) (left : Int) (w : World) (h0 : 0 ≤ left) (h1 : left ≤ 1048576) (hm : fl ≤ maxLen) :
    Calls Tryz.prog 13 #[.agg #[.int .i64 wp, .int .i64 wk, .int .i64 wf, .int .i64 wt, .int .i64 wn, .int .i64 wq, .int .i64 wx, .int .i64 wy, .int .i64 wz, .int .i64 we, .slice fa fl fc], .int .i64 left] w fun r w' => SzW r fl ∧ Below w.heap.size w w' := by
  go_enter Tryz.func13, Tryz.ntmps13
  go_wp2_with fail
  refine (szFactS_any fa fl fc left _ h0 h1 hm).mono ?_
  rintro r w1 ⟨rfl, hw⟩
  obtain rfl := hw.symm
  by_cases e1 : left < (fl : Int)
  · rw [if_pos e1]
    go_wp2
    go_ret
    exact ⟨⟨-1, rfl, .inl rfl⟩, balloc _ (Below.refl _ _)⟩
  · rw [if_neg e1]
    have q1 : ¬ left - (fl : Int) < 0 := by omega
    go_wp2
    go_ret
    exact ⟨⟨_, rfl, .inr ⟨by omega, by omega⟩⟩, balloc _ (Below.refl _ _)⟩
theorem row48 : ∃ d, Tryz.prog.underlying 48 = some d ∧ d.isRow = true := by
  have h : (Tryz.prog.underlying 48).map TypeDesc.isRow = some true := by kernel_rfl
  cases e : Tryz.prog.underlying 48 with
  | none => rw [e] at h; cases h
  | some d => rw [e] at h; exact ⟨d, rfl, by simpa using h⟩
theorem size48 : (Tryz.prog.info? 48).map (·.size) = some 11 := by kernel_rfl
theorem load48L {ops : Array Oper} {rest : List Oper} {op : Oper} {a : Act} {w : World} {Q : Exit → Act → World → Prop} (hw : Region.wanted op (yielded ops a.tmps) = true) (x : Operand) (ho : op.op = .load 48 x) (b : Nat) (hx : a.eval x = .pointer (some ⟨b, 0, none⟩)) (xs : List Value) (hS : w.rangeAt b 0 xs) (hn : xs.length = 11)
    (h : wpList Tryz.prog ops Q rest (a.put op.dst (.agg xs.toArray)) w) : wpList Tryz.prog ops Q (op :: rest) a w := by
  obtain ⟨d, hu, hd⟩ := row48
  unfold wpList
  rw [if_pos hw]
  exact Or.inl (wp_load_mid 48 x ho b 0 hx xs d hS hu hd (hn ▸ size48) h)
set_option maxRecDepth 20000 in
set_option maxHeartbeats 8000000 in
set_option linter.unusedSimpArgs false in
theorem exNodeTakes_walk (me : Int) (up gone gate : Bool) (inc now sq turn : Int) (ta : Option Addr) (tl tc : Nat) (ca : Option Addr) (cl cc : Nat) (pn ps pq : Int) (pa : Bool) (da : Option Addr) (dl dc : Nat) (cx cy ch ce : Int) (pla : Option Addr) (pll plc : Nat) (oa : Option Addr) (ol oc : Nat) (F : Nat → Fc) (GI : Nat → It) (GD : Nat → Dt) (GP : Nat → Pl) (GO : Nat → Fg) (wp wk wf wt wn wq wx wy wz we : Int) (fa : Option Addr) (fl fc : Nat) (WF : Nat → Fc) (w : World) (h : NdRaw w ta tl tc F ca cl cc GI da dl GD pla pll GP oa ol GO) (hW : FSl w fa fl WF) (hwc : fl ≤ fc) (hwm : fl ≤ maxLen) :
    Calls Tryz.prog 4 #[.agg #[.int .i64 me, .bool up, .bool gone, .bool gate, .int .i64 inc, .int .i64 now, .int .i64 sq, .int .i64 turn, .slice ta tl tc, .slice ca cl cc, .int .i64 pn, .int .i64 ps, .int .i64 pq, .bool pa, .slice da dl dc, .int .i64 cx, .int .i64 cy, .int .i64 ch, .int .i64 ce, .slice pla pll plc, .slice oa ol oc], .agg #[.int .i64 wp, .int .i64 wk, .int .i64 wf, .int .i64 wt, .int .i64 wn, .int .i64 wq, .int .i64 wx, .int .i64 wy, .int .i64 wz, .int .i64 we, .slice fa fl fc]] w fun r w' => r = .returned (.bool true) ∧ Below w.heap.size w w' := by
  have a0 := balloc (.cells #[.int .i64 me, .bool up, .bool gone, .bool gate, .int .i64 inc, .int .i64 now, .int .i64 sq, .int .i64 turn, .slice ta tl tc, .slice ca cl cc, .int .i64 pn, .int .i64 ps, .int .i64 pq, .bool pa, .slice da dl dc, .int .i64 cx, .int .i64 cy, .int .i64 ch, .int .i64 ce, .slice pla pll plc, .slice oa ol oc] 32) (Below.refl w.heap.size w)
  have b0 := balloc (.cells #[.int .i64 wp, .int .i64 wk, .int .i64 wf, .int .i64 wt, .int .i64 wn, .int .i64 wq, .int .i64 wx, .int .i64 wy, .int .i64 wz, .int .i64 we, .slice fa fl fc] 48) a0
  have X := (Ws.box (w := w) #[.int .i64 me, .bool up, .bool gone, .bool gate, .int .i64 inc, .int .i64 now, .int .i64 sq, .int .i64 turn, .slice ta tl tc, .slice ca cl cc, .int .i64 pn, .int .i64 ps, .int .i64 pq, .bool pa, .slice da dl dc, .int .i64 cx, .int .i64 cy, .int .i64 ch, .int .i64 ce, .slice pla pll plc, .slice oa ol oc] 32).below (balloc (.cells #[.int .i64 wp, .int .i64 wk, .int .i64 wf, .int .i64 wt, .int .i64 wn, .int .i64 wq, .int .i64 wx, .int .i64 wy, .int .i64 wz, .int .i64 we, .slice fa fl fc] 48) (Below.refl (w.alloc (.cells #[.int .i64 me, .bool up, .bool gone, .bool gate, .int .i64 inc, .int .i64 now, .int .i64 sq, .int .i64 turn, .slice ta tl tc, .slice ca cl cc, .int .i64 pn, .int .i64 ps, .int .i64 pq, .bool pa, .slice da dl dc, .int .i64 cx, .int .i64 cy, .int .i64 ch, .int .i64 ce, .slice pla pll plc, .slice oa ol oc] 32)).heap.size (w.alloc (.cells #[.int .i64 me, .bool up, .bool gone, .bool gate, .int .i64 inc, .int .i64 now, .int .i64 sq, .int .i64 turn, .slice ta tl tc, .slice ca cl cc, .int .i64 pn, .int .i64 ps, .int .i64 pq, .bool pa, .slice da dl dc, .int .i64 cx, .int .i64 cy, .int .i64 ch, .int .i64 ce, .slice pla pll plc, .slice oa ol oc] 32))))
  have Y := Ws.box (w := w.alloc (.cells #[.int .i64 me, .bool up, .bool gone, .bool gate, .int .i64 inc, .int .i64 now, .int .i64 sq, .int .i64 turn, .slice ta tl tc, .slice ca cl cc, .int .i64 pn, .int .i64 ps, .int .i64 pq, .bool pa, .slice da dl dc, .int .i64 cx, .int .i64 cy, .int .i64 ch, .int .i64 ce, .slice pla pll plc, .slice oa ol oc] 32)) #[.int .i64 wp, .int .i64 wk, .int .i64 wf, .int .i64 wt, .int .i64 wn, .int .i64 wq, .int .i64 wx, .int .i64 wy, .int .i64 wz, .int .i64 we, .slice fa fl fc] 48
  go_enter Tryz.func4, Tryz.ntmps4
  go_upto_region 1 with fail
  have hKW : (w.alloc (.cells #[.int .i64 me, .bool up, .bool gone, .bool gate, .int .i64 inc, .int .i64 now, .int .i64 sq, .int .i64 turn, .slice ta tl tc, .slice ca cl cc, .int .i64 pn, .int .i64 ps, .int .i64 pq, .bool pa, .slice da dl dc, .int .i64 cx, .int .i64 cy, .int .i64 ch, .int .i64 ce, .slice pla pll plc, .slice oa ol oc] 32)).heap.size = w.heap.size + 1 := by simp [go_sem]
  rw [hKW] at Y
  clear hKW
  generalize w.heap.size + 1 = KW at *
  generalize (w.alloc (.cells #[.int .i64 me, .bool up, .bool gone, .bool gate, .int .i64 inc, .int .i64 now, .int .i64 sq, .int .i64 turn, .slice ta tl tc, .slice ca cl cc, .int .i64 pn, .int .i64 ps, .int .i64 pq, .bool pa, .slice da dl dc, .int .i64 cx, .int .i64 cy, .int .i64 ch, .int .i64 ce, .slice pla pll plc, .slice oa ol oc] 32)).alloc (.cells #[.int .i64 wp, .int .i64 wk, .int .i64 wf, .int .i64 wt, .int .i64 wn, .int .i64 wq, .int .i64 wx, .int .i64 wy, .int .i64 wz, .int .i64 we, .slice fa fl fc] 48) = u at *
  have h0 := h.below b0
  have m0 := hW.below b0
  have x0 : u.rangeAt w.heap.size 0 [.int .i64 me, .bool up, .bool gone, .bool gate, .int .i64 inc, .int .i64 now, .int .i64 sq, .int .i64 turn, .slice ta tl tc, .slice ca cl cc, .int .i64 pn, .int .i64 ps, .int .i64 pq, .bool pa, .slice da dl dc, .int .i64 cx, .int .i64 cy, .int .i64 ch, .int .i64 ce, .slice pla pll plc, .slice oa ol oc] := X.range
  have y0 : u.rangeAt KW 0 [.int .i64 wp, .int .i64 wk, .int .i64 wf, .int .i64 wt, .int .i64 wn, .int .i64 wq, .int .i64 wx, .int .i64 wy, .int .i64 wz, .int .i64 we, .slice fa fl fc] := Y.range
  clear h hW a0 X Y
  obtain ⟨q, hq⟩ : ∃ q, Hid ((nodB me up gone gate inc now sq turn tl F cl GI pn ps pq pa dl GD cx cy ch ce pll GP ol GO && tksB me up gone wp wk wf wt wn wq wx wy wz we fl WF) = q) := ⟨_, rfl⟩
  go_wp2_with (refine load32L (by rfl) (.tmp 2) rfl w.heap.size rfl [.int .i64 me, .bool up, .bool gone, .bool gate, .int .i64 inc, .int .i64 now, .int .i64 sq, .int .i64 turn, .slice ta tl tc, .slice ca cl cc, .int .i64 pn, .int .i64 ps, .int .i64 pq, .bool pa, .slice da dl dc, .int .i64 cx, .int .i64 cy, .int .i64 ch, .int .i64 ce, .slice pla pll plc, .slice oa ol oc] x0 rfl ?_)
  refine (szNode_any me up gone gate inc now sq turn ta tl tc ca cl cc pn ps pq pa da dl dc cx cy ch ce pla pll plc oa ol oc F GI GD GP GO _ h0).mono ?_
  rintro r w1 ⟨⟨z, rfl, hz⟩, k1⟩
  have b1 := btrans b0 k1
  have x1 := range_keep x0 k1
  have y1 := range_keep y0 k1
  have h1 := h0.below k1
  have m1 := m0.below k1
  clear b0 x0 y0 h0 m0 k1
  rcases hz with hz | ⟨hz, hm⟩
  · have hz' := hz
    subst hz'
    clear x1 y1 h1
    go_wp2
    go_ret
    exact ⟨rfl, b1⟩
  obtain ⟨hz0, hz1⟩ := hz
  have hz2 : ¬ z < 0 := by omega
  go_upto_region 5 with fail
  refine wp_region_q0 s4_5 t4_5 (fun hbq => ?_)
  refine qR ?_
  refine qY ?_
  refine qC (fun K hK => ?_)
  go_simp
  refine (szWord_any wp wk wf wt wn wq wx wy wz we fa fl fc z _ hz0 hz1 hwm).mono ?_; rintro r w2 ⟨⟨z2, rfl, hv⟩, k2⟩
  go_wp2_with fail
  refine hK.out _ _ (btrans hbq k2) (.inl ?_)
  clear hK K
  replace hbq := btrans hbq k2
  clear k2
  try simp only [putQ]
  refine qY ?_
  refine qE ?_
  have b2 := btrans b1 hbq
  have x2 := range_keep x1 hbq
  have y2 := range_keep y1 hbq
  have h2 := h1.below hbq
  have m2 := m1.below hbq
  clear b1 x1 y1 h1 m1 hbq hz0 hz1 hz2
  rcases hv with hv | ⟨hv, hwl⟩
  · have hv' := hv
    subst hv'
    clear x2 y2 h2
    go_wp2
    go_ret
    exact ⟨rfl, b2⟩
  have hv2 : ¬ z2 < 0 := by omega
  clear hv
  go_upto_region 8 with fail
  clear hv2
  refine wp_region_q s4_8 t4_8 (fun hbq => ?_)
  iterate 2 refine qR ?_
  refine qC (fun K hK => ?_)
  go_simp
  refine (toNode_any me up gone gate inc now sq turn ta tl tc ca cl cc pn ps pq pa da dl dc cx cy ch ce pla pll plc oa ol oc F GI GD GP GO _ ((h2.below hbq).toIn hm) (h2.below hbq).cf (h2.below hbq).ci (fun j hj => ((h2.below hbq).db j hj).2.2) (fun j hj => ((h2.below hbq).pb j hj).2.2) (fun j hj => ((h2.below hbq).ob j hj).2.2)).mono ?_; rintro r w3 ⟨s1, s2, s3, s4, s5, sD, sP, sO, rfl, sN, sd, sp, so, k3⟩
  go_wp2_with fail
  refine hK.out _ _ (btrans hbq k3) (.inl ?_)
  clear hK K
  replace hbq := btrans hbq k3
  clear k3
  try simp only [putQ]
  refine qC (fun K hK => ?_)
  go_simp
  refine (toWord_any wp wk wf wt wn wq wx wy wz we fa fl fc WF _ (m2.below hbq) hwl hwc).mono ?_; rintro r w4 ⟨s6, rfl, sF, k4⟩; have sN4 := sN.below k4; clear sN
  go_wp2_with fail
  refine hK.out _ _ (btrans hbq k4) (.inl ?_)
  clear hK K
  replace hbq := btrans hbq k4
  clear k4
  try simp only [putQ]
  refine qC (fun K hK => ?_)
  go_simp
  refine (takes14_any me up gone gate inc now sq turn (some ⟨s1, 0, none⟩) tl tl (some ⟨s2, 0, none⟩) cl cl pn ps pq pa (some ⟨s3, 0, none⟩) dl dl cx cy ch ce (some ⟨s4, 0, none⟩) pll pll (some ⟨s5, 0, none⟩) ol ol F GI sD sP sO wp wk wf wt wn wq wx wy wz we (some ⟨s6, 0, none⟩) fl fl WF _ sN4 sF hwl).mono ?_; rintro r w5 ⟨rfl, k5⟩; rw [← nod_same, nod_congr _ _ _ _ _ _ _ _ _ _ _ _ _ _ _ _ _ GD _ _ _ _ _ GP _ GO sD sP sO sd sp so, ← tks_same, hq.out]
  go_wp2_with fail
  refine hK.out _ _ (btrans hbq k5) (.inl ?_)
  clear hK K
  replace hbq := btrans hbq k5
  clear k5
  try simp only [putQ]
  refine qY ?_
  refine qE ?_
  have b3 := btrans b2 hbq
  have x3 := range_keep x2 hbq
  have y3 := range_keep y2 hbq
  have h3 := h2.below hbq
  have m3 := m2.below hbq
  clear b2 x2 y2 h2 m2 hbq sN4 sF sd sp so
  go_wp2_with (refine load32L (by rfl) (.tmp 2) rfl w.heap.size rfl [.int .i64 me, .bool up, .bool gone, .bool gate, .int .i64 inc, .int .i64 now, .int .i64 sq, .int .i64 turn, .slice ta tl tc, .slice ca cl cc, .int .i64 pn, .int .i64 ps, .int .i64 pq, .bool pa, .slice da dl dc, .int .i64 cx, .int .i64 cy, .int .i64 ch, .int .i64 ce, .slice pla pll plc, .slice oa ol oc] x3 rfl ?_)
  refine (toNode_any me up gone gate inc now sq turn ta tl tc ca cl cc pn ps pq pa da dl dc cx cy ch ce pla pll plc oa ol oc F GI GD GP GO _ (h3.toIn hm) h3.cf h3.ci (fun j hj => (h3.db j hj).2.2) (fun j hj => (h3.pb j hj).2.2) (fun j hj => (h3.ob j hj).2.2)).mono ?_
  rintro r w6 ⟨f1, f2, f3, f4, f5, fD, fP, fO, rfl, fN, fd, fp, fo, k6⟩
  have R := Ws.box (w := w6) #[.int .i64 0, .bool false, .bool false, .bool false, .int .i64 0, .int .i64 0, .int .i64 0, .int .i64 0, .slice none 0 0, .slice none 0 0, .int .i64 0, .int .i64 0, .int .i64 0, .bool false, .slice none 0 0, .int .i64 0, .int .i64 0, .int .i64 0, .int .i64 0, .slice none 0 0, .slice none 0 0] 43
  have hth : (w6.alloc (.cells #[.int .i64 0, .bool false, .bool false, .bool false, .int .i64 0, .int .i64 0, .int .i64 0, .int .i64 0, .slice none 0 0, .slice none 0 0, .int .i64 0, .int .i64 0, .int .i64 0, .bool false, .slice none 0 0, .int .i64 0, .int .i64 0, .int .i64 0, .int .i64 0, .slice none 0 0, .slice none 0 0] 43)).there w6.heap.size 0 21 := R.there rfl
  have kk := below_cells (w := w6) w6.heap.size (#[.int .i64 me, .bool up, .bool gone, .bool gate, .int .i64 inc, .int .i64 now, .int .i64 sq, .int .i64 turn, .slice (some ⟨f1, 0, none⟩) tl tl, .slice (some ⟨f2, 0, none⟩) cl cl, .int .i64 pn, .int .i64 ps, .int .i64 pq, .bool pa, .slice (some ⟨f3, 0, none⟩) dl dl, .int .i64 cx, .int .i64 cy, .int .i64 ch, .int .i64 ce, .slice (some ⟨f4, 0, none⟩) pll pll, .slice (some ⟨f5, 0, none⟩) ol ol] : Array Value).toList 0 (w6.alloc (.cells #[.int .i64 0, .bool false, .bool false, .bool false, .int .i64 0, .int .i64 0, .int .i64 0, .int .i64 0, .slice none 0 0, .slice none 0 0, .int .i64 0, .int .i64 0, .int .i64 0, .bool false, .slice none 0 0, .int .i64 0, .int .i64 0, .int .i64 0, .int .i64 0, .slice none 0 0, .slice none 0 0] 43)) (Nat.le_refl _) (balloc (.cells #[.int .i64 0, .bool false, .bool false, .bool false, .int .i64 0, .int .i64 0, .int .i64 0, .int .i64 0, .slice none 0 0, .slice none 0 0, .int .i64 0, .int .i64 0, .int .i64 0, .bool false, .slice none 0 0, .int .i64 0, .int .i64 0, .int .i64 0, .int .i64 0, .slice none 0 0, .slice none 0 0] 43) (Below.refl w6.heap.size w6))
  have rr := World.rangeAt_setCells_same (w6.alloc (.cells #[.int .i64 0, .bool false, .bool false, .bool false, .int .i64 0, .int .i64 0, .int .i64 0, .int .i64 0, .slice none 0 0, .slice none 0 0, .int .i64 0, .int .i64 0, .int .i64 0, .bool false, .slice none 0 0, .int .i64 0, .int .i64 0, .int .i64 0, .int .i64 0, .slice none 0 0, .slice none 0 0] 43)) w6.heap.size 0 (#[.int .i64 me, .bool up, .bool gone, .bool gate, .int .i64 inc, .int .i64 now, .int .i64 sq, .int .i64 turn, .slice (some ⟨f1, 0, none⟩) tl tl, .slice (some ⟨f2, 0, none⟩) cl cl, .int .i64 pn, .int .i64 ps, .int .i64 pq, .bool pa, .slice (some ⟨f3, 0, none⟩) dl dl, .int .i64 cx, .int .i64 cy, .int .i64 ch, .int .i64 ce, .slice (some ⟨f4, 0, none⟩) pll pll, .slice (some ⟨f5, 0, none⟩) ol ol] : Array Value).toList hth
  have kz := btrans k6 kk
  have b4 := btrans b3 kz
  have x4 := range_keep x3 kz
  have y4 := range_keep y3 kz
  have h4 := h3.below kz
  have m4 := m3.below kz
  have fM := fN.below kk
  clear b3 x3 y3 h3 m3 k6 kz R fN
  go_upto_region 10 with (refine wpList_store_mid rfl 43 _ _ rfl w6.heap.size 0 #[.int .i64 me, .bool up, .bool gone, .bool gate, .int .i64 inc, .int .i64 now, .int .i64 sq, .int .i64 turn, .slice (some ⟨f1, 0, none⟩) tl tl, .slice (some ⟨f2, 0, none⟩) cl cl, .int .i64 pn, .int .i64 ps, .int .i64 pq, .bool pa, .slice (some ⟨f3, 0, none⟩) dl dl, .int .i64 cx, .int .i64 cy, .int .i64 ch, .int .i64 ce, .slice (some ⟨f4, 0, none⟩) pll pll, .slice (some ⟨f5, 0, none⟩) ol ol] rfl rfl hth (by kernel_rfl) (by kernel_rfl) ?_)
  clear hth kk
  generalize ((w6.alloc (.cells #[.int .i64 0, .bool false, .bool false, .bool false, .int .i64 0, .int .i64 0, .int .i64 0, .int .i64 0, .slice none 0 0, .slice none 0 0, .int .i64 0, .int .i64 0, .int .i64 0, .bool false, .slice none 0 0, .int .i64 0, .int .i64 0, .int .i64 0, .int .i64 0, .slice none 0 0, .slice none 0 0] 43)).setCells w6.heap.size 0 (#[.int .i64 me, .bool up, .bool gone, .bool gate, .int .i64 inc, .int .i64 now, .int .i64 sq, .int .i64 turn, .slice (some ⟨f1, 0, none⟩) tl tl, .slice (some ⟨f2, 0, none⟩) cl cl, .int .i64 pn, .int .i64 ps, .int .i64 pq, .bool pa, .slice (some ⟨f3, 0, none⟩) dl dl, .int .i64 cx, .int .i64 cy, .int .i64 ch, .int .i64 ce, .slice (some ⟨f4, 0, none⟩) pll pll, .slice (some ⟨f5, 0, none⟩) ol ol] : Array Value).toList) = w7 at *
  generalize w6.heap.size = KX at *
  have rf : w7.rangeAt KX 0 [.int .i64 me, .bool up, .bool gone, .bool gate, .int .i64 inc, .int .i64 now, .int .i64 sq, .int .i64 turn, .slice (some ⟨f1, 0, none⟩) tl tl, .slice (some ⟨f2, 0, none⟩) cl cl, .int .i64 pn, .int .i64 ps, .int .i64 pq, .bool pa, .slice (some ⟨f3, 0, none⟩) dl dl, .int .i64 cx, .int .i64 cy, .int .i64 ch, .int .i64 ce, .slice (some ⟨f4, 0, none⟩) pll pll, .slice (some ⟨f5, 0, none⟩) ol ol] := rr
  clear rr
  go_wp2_with (refine load48L (by rfl) (.tmp 3) rfl KW rfl [.int .i64 wp, .int .i64 wk, .int .i64 wf, .int .i64 wt, .int .i64 wn, .int .i64 wq, .int .i64 wx, .int .i64 wy, .int .i64 wz, .int .i64 we, .slice fa fl fc] y4 rfl ?_)
  refine (toWord_any wp wk wf wt wn wq wx wy wz we fa fl fc WF _ m4 hwl hwc).mono ?_
  rintro r w8 ⟨g6, rfl, gF, k8⟩
  have R := Ws.box (w := w8) #[.int .i64 0, .int .i64 0, .int .i64 0, .int .i64 0, .int .i64 0, .int .i64 0, .int .i64 0, .int .i64 0, .int .i64 0, .int .i64 0, .slice none 0 0] 52
  have hth : (w8.alloc (.cells #[.int .i64 0, .int .i64 0, .int .i64 0, .int .i64 0, .int .i64 0, .int .i64 0, .int .i64 0, .int .i64 0, .int .i64 0, .int .i64 0, .slice none 0 0] 52)).there w8.heap.size 0 11 := R.there rfl
  have kk := below_cells (w := w8) w8.heap.size (#[.int .i64 wp, .int .i64 wk, .int .i64 wf, .int .i64 wt, .int .i64 wn, .int .i64 wq, .int .i64 wx, .int .i64 wy, .int .i64 wz, .int .i64 we, .slice (some ⟨g6, 0, none⟩) fl fl] : Array Value).toList 0 (w8.alloc (.cells #[.int .i64 0, .int .i64 0, .int .i64 0, .int .i64 0, .int .i64 0, .int .i64 0, .int .i64 0, .int .i64 0, .int .i64 0, .int .i64 0, .slice none 0 0] 52)) (Nat.le_refl _) (balloc (.cells #[.int .i64 0, .int .i64 0, .int .i64 0, .int .i64 0, .int .i64 0, .int .i64 0, .int .i64 0, .int .i64 0, .int .i64 0, .int .i64 0, .slice none 0 0] 52) (Below.refl w8.heap.size w8))
  have rr := World.rangeAt_setCells_same (w8.alloc (.cells #[.int .i64 0, .int .i64 0, .int .i64 0, .int .i64 0, .int .i64 0, .int .i64 0, .int .i64 0, .int .i64 0, .int .i64 0, .int .i64 0, .slice none 0 0] 52)) w8.heap.size 0 (#[.int .i64 wp, .int .i64 wk, .int .i64 wf, .int .i64 wt, .int .i64 wn, .int .i64 wq, .int .i64 wx, .int .i64 wy, .int .i64 wz, .int .i64 we, .slice (some ⟨g6, 0, none⟩) fl fl] : Array Value).toList hth
  have kz := btrans k8 kk
  have b5 := btrans b4 kz
  have x5 := range_keep x4 kz
  have y5 := range_keep y4 kz
  have h5 := h4.below kz
  have m5 := m4.below kz
  have fL := fM.below kz
  have rf5 := range_keep rf kz
  have gM := gF.below kk
  clear b4 x4 y4 h4 m4 k8 kz R gF fM rf
  go_upto_region 11 with (refine wpList_store_mid rfl 52 _ _ rfl w8.heap.size 0 #[.int .i64 wp, .int .i64 wk, .int .i64 wf, .int .i64 wt, .int .i64 wn, .int .i64 wq, .int .i64 wx, .int .i64 wy, .int .i64 wz, .int .i64 we, .slice (some ⟨g6, 0, none⟩) fl fl] rfl rfl hth (by kernel_rfl) (by kernel_rfl) ?_)
  clear hth kk
  generalize ((w8.alloc (.cells #[.int .i64 0, .int .i64 0, .int .i64 0, .int .i64 0, .int .i64 0, .int .i64 0, .int .i64 0, .int .i64 0, .int .i64 0, .int .i64 0, .slice none 0 0] 52)).setCells w8.heap.size 0 (#[.int .i64 wp, .int .i64 wk, .int .i64 wf, .int .i64 wt, .int .i64 wn, .int .i64 wq, .int .i64 wx, .int .i64 wy, .int .i64 wz, .int .i64 we, .slice (some ⟨g6, 0, none⟩) fl fl] : Array Value).toList) = w9 at *
  generalize w8.heap.size = KY at *
  have rg : w9.rangeAt KY 0 [.int .i64 wp, .int .i64 wk, .int .i64 wf, .int .i64 wt, .int .i64 wn, .int .i64 wq, .int .i64 wx, .int .i64 wy, .int .i64 wz, .int .i64 we, .slice (some ⟨g6, 0, none⟩) fl fl] := rr
  clear rr
  refine wp_region_q0 s4_11 t4_11 (fun hbq => ?_)
  iterate 2 refine qR ?_
  refine qC (fun K hK => ?_)
  go_simp
  refine (takes16_any me up gone gate inc now sq turn (some ⟨f1, 0, none⟩) tl tl (some ⟨f2, 0, none⟩) cl cl pn ps pq pa (some ⟨f3, 0, none⟩) dl dl cx cy ch ce (some ⟨f4, 0, none⟩) pll pll (some ⟨f5, 0, none⟩) ol ol F GI fD fP fO wp wk wf wt wn wq wx wy wz we (some ⟨g6, 0, none⟩) fl fl WF _ (fL.below hbq) (gM.below hbq) hwl).mono ?_; rintro r w10 ⟨rfl, k10⟩; rw [nod_congr _ _ _ _ _ _ _ _ _ _ _ _ _ _ _ _ _ GD _ _ _ _ _ GP _ GO fD fP fO fd fp fo, hq.out]
  go_wp2_with fail
  refine hK.out _ _ (btrans hbq k10) (.inl ?_)
  clear hK K
  replace hbq := btrans hbq k10
  clear k10
  try simp only [putQ]
  refine qY ?_
  refine qE ?_
  have b6 := btrans b5 hbq
  have x6 := range_keep x5 hbq
  have y6 := range_keep y5 hbq
  have h6 := h5.below hbq
  have m6 := m5.below hbq
  have fK := fL.below hbq
  have gK := gM.below hbq
  have rf6 := range_keep rf5 hbq
  have rg6 := range_keep rg hbq
  clear b5 x5 y5 h5 m5 fL gM rf5 rg hbq hq
  have hqq : (q != q) = false := by cases q <;> rfl
  go_upto_region 14 with fail
  clear hqq
  refine wp_region_q s4_14 t4_14 (fun hbq => ?_)
  iterate 2 refine qR ?_
  refine qC (fun K hK => ?_)
  go_simp
  refine (toNode_any me up gone gate inc now sq turn ta tl tc ca cl cc pn ps pq pa da dl dc cx cy ch ce pla pll plc oa ol oc F GI GD GP GO _ ((h6.below hbq).toIn hm) (h6.below hbq).cf (h6.below hbq).ci (fun j hj => ((h6.below hbq).db j hj).2.2) (fun j hj => ((h6.below hbq).pb j hj).2.2) (fun j hj => ((h6.below hbq).ob j hj).2.2)).mono ?_; rintro r w11 ⟨g1, g2, g3, g4, g5, gD, gP, gO, rfl, gN, gd, gp, go, k11⟩
  have hED : ∀ j, DtEq (fD j) (gD j) := fun j => (fd j).symm' (gd j)
  have hEP : ∀ j, PlEq (fP j) (gP j) := fun j => (fp j).symm' (gp j)
  have hEO : ∀ j, FgEq (fO j) (gO j) := fun j => (fo j).symm' (go j)
  go_wp2_with fail
  refine hK.out _ _ (btrans hbq k11) (.inl ?_)
  clear hK K
  replace hbq := btrans hbq k11
  clear k11
  try simp only [putQ]
  refine qC (fun K hK => ?_)
  go_simp
  refine (eqNode_same me up gone gate inc now sq turn (some ⟨f1, 0, none⟩) tl tl (some ⟨f2, 0, none⟩) cl cl pn ps pq pa (some ⟨f3, 0, none⟩) dl dl cx cy ch ce (some ⟨f4, 0, none⟩) pll pll (some ⟨f5, 0, none⟩) ol ol (some ⟨g1, 0, none⟩) tl (some ⟨g2, 0, none⟩) cl (some ⟨g3, 0, none⟩) dl (some ⟨g4, 0, none⟩) pll (some ⟨g5, 0, none⟩) ol F GI fD fP fO gD gP gO _ (fK.below hbq) gN hED hEP hEO).mono ?_; rintro r w12 ⟨rfl, k12⟩
  go_wp2_with fail
  refine hK.out _ _ (btrans hbq k12) (.inl ?_)
  clear hK K
  replace hbq := btrans hbq k12
  clear k12
  try simp only [putQ]
  refine qY ?_
  refine qE ?_
  have b7 := btrans b6 hbq
  have y7 := range_keep y6 hbq
  have m7 := m6.below hbq
  have gL := gK.below hbq
  have rg7 := range_keep rg6 hbq
  clear b6 x6 y6 h6 m6 fK gK rf6 rg6 hbq gN hED hEP hEO gd gp go fd fp fo
  go_upto_region 16 with fail
  refine wp_region_q s4_16 t4_16 (fun hbq => ?_)
  iterate 2 refine qR ?_
  refine qC (fun K hK => ?_)
  go_simp
  refine (toWord_any wp wk wf wt wn wq wx wy wz we fa fl fc WF _ (m7.below hbq) hwl hwc).mono ?_; rintro r w13 ⟨t6, rfl, tF, k13⟩
  go_wp2_with fail
  refine hK.out _ _ (btrans hbq k13) (.inl ?_)
  clear hK K
  replace hbq := btrans hbq k13
  clear k13
  try simp only [putQ]
  refine qC (fun K hK => ?_)
  go_simp
  refine (eqWord_same wp wk wf wt wn wq wx wy wz we (some ⟨g6, 0, none⟩) (some ⟨t6, 0, none⟩) fl fl fl WF _ (gL.below hbq) tF hwl).mono ?_; rintro r w14 ⟨rfl, k14⟩
  go_wp2_with fail
  refine hK.out _ _ (btrans hbq k14) (.inl ?_)
  clear hK K
  replace hbq := btrans hbq k14
  clear k14
  try simp only [putQ]
  refine qY ?_
  refine qE ?_
  go_wp2
  go_ret
  exact ⟨rfl, btrans b7 hbq⟩
end Go.Proofs.YtnplhfgdbabmaaaGreat
