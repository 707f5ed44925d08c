/- Nodes: how great they are; copies are the same. -/
import Derived.Test.YtgcdcfjaeehnbaaGreatNd23
namespace Go.Proofs.YtgcdcfjaeehnbaaGreat
open Go.ChangeShapes Go.WideShapes Go.ChangeAt Go.RowKit
set_option maxRecDepth 20000
set_option maxHeartbeats 8000000
attribute [local go_sem ↓] Go.wp_at_zero Go.wp_at_succ
structure NdRaw (w : World) (ta : Option Addr) (tl tc : Nat) (F : Nat → Fc) (ca : Option Addr) (cl cc : Nat) (GI : Nat → It) (da : Option Addr) (dl : Nat) (GD : Nat → Dt) (pla : Option Addr) (pll : Nat) (GP : Nat → Pl) (oa : Option Addr) (ol : Nat) (GO : Nat → Fg) : Prop where
 f : FSl w ta tl F
 i : TSl w ca cl GI
 d : DtSl w da dl GD
 p : PlSl w pla pll GP
 o : FgSl w oa ol GO
 db : ∀ k, k < dl → ISl w (GD k).ba (GD k).bl (GD k).bf ∧ (GD k).bl ≤ maxLen ∧ (GD k).bl ≤ (GD k).bc
 pb : ∀ k, k < pll → ISl w (GP k).ba (GP k).bl (GP k).bf ∧ (GP k).bl ≤ maxLen ∧ (GP k).bl ≤ (GP k).bc
 ob : ∀ k, k < ol → FSl w (GO k).ba (GO k).bl (GO k).bf ∧ (GO k).bl ≤ maxLen ∧ (GO k).bl ≤ (GO k).bc
 mf : tl ≤ maxLen
 mi : cl ≤ maxLen
 md : dl ≤ maxLen
 mp : pll ≤ maxLen
 mo : ol ≤ maxLen
 cf : tl ≤ tc
 ci : cl ≤ cc
structure NdMax (tl cl dl : Nat) (GD : Nat → Dt) (pll : Nat) (GP : Nat → Pl) (ol : Nat) (GO : Nat → Fg) : Prop where
 f : tl ≤ 1048576
 i : cl ≤ 1048576
 d : dl ≤ 1048576
 db : DtMax dl GD
 p : pll ≤ 1048576
 pb : PlMax pll GP
 o : ol ≤ 1048576
 ob : FgMax ol GO
theorem NdRaw.toIn {w : World} {ta : Option Addr} {tl tc : Nat} {F : Nat → Fc} {ca : Option Addr} {cl cc : Nat} {GI : Nat → It} {da : Option Addr} {dl : Nat} {GD : Nat → Dt} {pla : Option Addr} {pll : Nat} {GP : Nat → Pl} {oa : Option Addr} {ol : Nat} {GO : Nat → Fg} (h : NdRaw w ta tl tc F ca cl cc GI da dl GD pla pll GP oa ol GO) (m : NdMax tl cl dl GD pll GP ol GO) : NdIn w ta tl F ca cl GI da dl GD pla pll GP oa ol GO :=
 ⟨h.f, h.i, h.d, fun k hk => ⟨(h.db k hk).1, m.db k hk⟩, h.p, fun k hk => ⟨(h.pb k hk).1, m.pb k hk⟩, h.o, fun k hk => ⟨(h.ob k hk).1, m.ob k hk⟩, m.f, m.i, m.d, m.p, m.o⟩
theorem NdRaw.below {w w' : World} {ta : Option Addr} {tl tc : Nat} {F : Nat → Fc} {ca : Option Addr} {cl cc : Nat} {GI : Nat → It} {da : Option Addr} {dl : Nat} {GD : Nat → Dt} {pla : Option Addr} {pll : Nat} {GP : Nat → Pl} {oa : Option Addr} {ol : Nat} {GO : Nat → Fg} (h : NdRaw w ta tl tc F ca cl cc GI da dl GD pla pll GP oa ol GO) (k : Below w.heap.size w w') : NdRaw w' ta tl tc F ca cl cc GI da dl GD pla pll GP oa ol GO :=
 ⟨h.f.below k, h.i.below k, h.d.below k, h.p.below k, h.o.below k, fun j hj => ⟨(h.db j hj).1.below k, (h.db j hj).2⟩, fun j hj => ⟨(h.pb j hj).1.below k, (h.pb j hj).2⟩, fun j hj => ⟨(h.ob j hj).1.below k, (h.ob j hj).2⟩, h.mf, h.mi, h.md, h.mp, h.mo, h.cf, h.ci⟩
def SzNd (r : Ending) (tl cl dl : Nat) (GD : Nat → Dt) (pll : Nat) (GP : Nat → Pl) (ol : Nat) (GO : Nat → Fg) : Prop :=
 ∃ z : Int, r = .returned (.int .i64 z) ∧ (z = -1 ∨ ((0 ≤ z ∧ z ≤ 1048576) ∧ NdMax tl cl dl GD pll GP ol GO))
theorem szNode_any (me : Int) (up gone gate : Bool) (inc now sq turn : Int) (ta : Option Addr) (tl tc : Nat) (ca : Option Addr) (cl cc : Nat) (pn ps pq : Int) (pa : Bool) (da : Option Addr) (dl dc : Nat) (cx cy ch ce : Int) (pla : Option Addr) (pll plc : Nat) (oa : Option Addr) (ol oc : Nat) (F : Nat → Fc) (GI : Nat → It) (GD : Nat → Dt) (GP : Nat → Pl) (GO : Nat → Fg) (w : World) (h : NdRaw w ta tl tc F ca cl cc GI da dl GD pla pll GP oa ol GO) :
  Calls Tryz.prog 6 #[.agg #[.int .i64 me, .bool up, .bool gone, .bool gate, .int .i64 inc, .int .i64 now, .int .i64 sq, .int .i64 turn, .slice ta tl tc, .slice ca cl cc, .int .i64 pn, .int .i64 ps, .int .i64 pq, .bool pa, .slice da dl dc, .int .i64 cx, .int .i64 cy, .int .i64 ch, .int .i64 ce, .slice pla pll plc, .slice oa ol oc], .int .i64 1048576] w fun r w' => SzNd r tl cl dl GD pll GP ol GO ∧ Below w.heap.size w w' := by
 go_enter Tryz.func6, Tryz.ntmps6
 go_upto_region 1 with fail
 generalize hu : w.alloc (.cells _ _) = u
 obtain ⟨X, b0⟩ := box1 hu
 clear hu
 have h0 := h.below b0
 clear h
 have d8 := X.c 8 (.slice ta tl tc) rfl
 go_wp2_with fail
 refine (szFactS_any ta tl tc 1048576 _ (by omega) (by omega) h0.mf).mono ?_
 rintro r w1 ⟨rfl, hw⟩
 obtain rfl := hw.symm
 clear hw d8
 by_cases e1 : (1048576 : Int) < (tl : Int)
 ·rw [if_pos e1]
  clear X h0
  go_wp2
  go_ret
  exact ⟨⟨-1, rfl, .inl rfl⟩, b0⟩
 rw [if_neg e1]
 have p1 : Hid (0 ≤ (1048576 : Int) - tl ∧ (1048576 : Int) - tl ≤ 1048576 ∧ tl ≤ 1048576) := ⟨by omega, by omega, by omega⟩
 have q1 : ¬ (1048576 : Int) - tl < 0 := by omega
 clear e1
 generalize (1048576 : Int) - tl = z1 at *
 have d9 := X.c 9 (.slice ca cl cc) rfl
 go_wp2_with fail
 refine (szItemS_any ca cl cc z1 _ p1.out.1 p1.out.2.1 h0.mi).mono ?_
 rintro r w1 ⟨rfl, hw⟩
 obtain rfl := hw.symm
 clear hw d9
 by_cases e2 : z1 < (cl : Int)
 ·rw [if_pos e2]
  clear X h0
  go_wp2
  go_ret
  exact ⟨⟨-1, rfl, .inl rfl⟩, b0⟩
 rw [if_neg e2]
 have p2 : Hid (0 ≤ z1 - cl ∧ z1 - cl ≤ 1048576 ∧ cl ≤ 1048576) := by
  have := p1.out
  exact ⟨by omega, by omega, by omega⟩
 have q2 : ¬ z1 - (cl : Int) < 0 := by omega
 clear e2 q1
 generalize z1 - (cl : Int) = z2 at *
 have d14 := X.c 14 (.slice da dl dc) rfl
 go_wp2_with fail
 refine (DtszS_any da dl dc GD z2 _ h0.d p2.out.1 p2.out.2.1 h0.md (fun j hj => (h0.db j hj).2.1)).mono ?_
 rintro r w3 ⟨z3, rfl, hz3, k3⟩
 have c1 := btrans b0 k3
 have X1 := X.below k3
 have h1 := h0.below k3
 clear d14 X h0 k3
 rcases hz3 with hz | ⟨hz0, hz1, hz2, hz3⟩
 ·have hz' := hz
  subst hz'
  clear X1 h1
  go_wp2
  go_ret
  exact ⟨⟨-1, rfl, .inl rfl⟩, c1⟩
 have p3 : Hid (0 ≤ z3 ∧ z3 ≤ 1048576 ∧ dl ≤ 1048576 ∧ DtMax dl GD) := by
  have := p2.out.2.1
  exact ⟨hz0, by omega, hz2, hz3⟩
 have q3 : ¬ z3 < 0 := by omega
 clear hz0 hz1 hz2 hz3 q2
 have d19 := X1.c 19 (.slice pla pll plc) rfl
 go_wp2_with fail
 refine (PlszS_any pla pll plc GP z3 _ h1.p p3.out.1 p3.out.2.1 h1.mp (fun j hj => (h1.pb j hj).2.1)).mono ?_
 rintro r w4 ⟨z4, rfl, hz4, k4⟩
 have c2 := btrans c1 k4
 have X2 := X1.below k4
 have h2 := h1.below k4
 clear d19 X1 h1 k4
 rcases hz4 with hz | ⟨hz0, hz1, hz2, hz3⟩
 ·have hz' := hz
  subst hz'
  clear X2 h2
  go_wp2
  go_ret
  exact ⟨⟨-1, rfl, .inl rfl⟩, c2⟩
 have p4 : Hid (0 ≤ z4 ∧ z4 ≤ 1048576 ∧ pll ≤ 1048576 ∧ PlMax pll GP) := by
  have := p3.out.2.1
  exact ⟨hz0, by omega, hz2, hz3⟩
 have q4 : ¬ z4 < 0 := by omega
 clear hz0 hz1 hz2 hz3 q3
 have d20 := X2.c 20 (.slice oa ol oc) rfl
 go_wp2_with fail
 refine (FgszS_any oa ol oc GO z4 _ h2.o p4.out.1 p4.out.2.1 h2.mo (fun j hj => (h2.ob j hj).2.1)).mono ?_
 rintro r w5 ⟨z5, rfl, hz5, k5⟩
 have c3 := btrans c2 k5
 have X3 := X2.below k5
 have h3 := h2.below k5
 clear d20 X2 h2 k5
 rcases hz5 with hz | ⟨hz0, hz1, hz2, hz3⟩
 ·have hz' := hz
  subst hz'
  clear X3 h3
  go_wp2
  go_ret
  exact ⟨⟨-1, rfl, .inl rfl⟩, c3⟩
 have p5 : Hid (0 ≤ z5 ∧ z5 ≤ 1048576 ∧ ol ≤ 1048576 ∧ FgMax ol GO) := by
  have := p4.out.2.1
  exact ⟨hz0, by omega, hz2, hz3⟩
 have q5 : ¬ z5 < 0 := by omega
 clear hz0 hz1 hz2 hz3 q4
 clear X3 h3
 go_wp2
 go_ret
 exact ⟨⟨z5, rfl, .inr ⟨⟨p5.out.1, p5.out.2.1⟩, p1.out.2.2, p2.out.2.2, p3.out.2.2.1, p3.out.2.2.2, p4.out.2.2.1, p4.out.2.2.2, p5.out.2.2.1, p5.out.2.2.2⟩⟩, c3⟩
theorem eqProbe_same (a b c : Int) (d : Bool) (w : World) :
  Calls Tryz.prog 48 #[.agg #[.int .i64 a, .int .i64 b, .int .i64 c, .bool d], .agg #[.int .i64 a, .int .i64 b, .int .i64 c, .bool d]] w fun r w' => r = .returned (.bool true) ∧ Below w.heap.size w w' := by
 go_enter Tryz.func48, Tryz.ntmps48
 go_wp2
 go_ret
 exact ⟨rfl, balloc _ (balloc _ (Below.refl _ _))⟩
theorem eqNode_same (me : Int) (up gone gate : Bool) (inc now sq turn : Int) (ta : Option Addr) (tl tc : Nat) (ca : Option Addr) (cl cc : Nat) (pn ps pq : Int) (pa : Bool) (da : Option Addr) (dl dc : Nat) (cx cy ch ce : Int) (pla : Option Addr) (pll plc : Nat) (oa : Option Addr) (ol oc : Nat) (ta' : Option Addr) (tc' : Nat) (ca' : Option Addr) (cc' : Nat) (da' : Option Addr) (dc' : Nat) (pla' : Option Addr) (plc' : Nat) (oa' : Option Addr) (oc' : Nat) (F : Nat → Fc) (GI : Nat → It) (GD : Nat → Dt) (GP : Nat → Pl) (GO : Nat → Fg) (GD' : Nat → Dt) (GP' : Nat → Pl) (GO' : Nat → Fg) (w : World) (h : NdIn w ta tl F ca cl GI da dl GD pla pll GP oa ol GO) (h' : NdIn w ta' tl F ca' cl GI da' dl GD' pla' pll GP' oa' ol GO') (hD : ∀ j, DtEq (GD j) (GD' j)) (hP : ∀ j, PlEq (GP j) (GP' j)) (hO : ∀ j, FgEq (GO j) (GO' j)) :
  Calls Tryz.prog 10 #[.agg #[.int .i64 me, .bool up, .bool gone, .bool gate, .int .i64 inc, .int .i64 now, .int .i64 sq, .int .i64 turn, .slice ta tl tc, .slice ca cl cc, .int .i64 pn, .int .i64 ps, .int .i64 pq, .bool pa, .slice da dl dc, .int .i64 cx, .int .i64 cy, .int .i64 ch, .int .i64 ce, .slice pla pll plc, .slice oa ol oc], .agg #[.int .i64 me, .bool up, .bool gone, .bool gate, .int .i64 inc, .int .i64 now, .int .i64 sq, .int .i64 turn, .slice ta' tl tc', .slice ca' cl cc', .int .i64 pn, .int .i64 ps, .int .i64 pq, .bool pa, .slice da' dl dc', .int .i64 cx, .int .i64 cy, .int .i64 ch, .int .i64 ce, .slice pla' pll plc', .slice oa' ol oc']] w fun r w' => r = .returned (.bool true) ∧ Below w.heap.size w w' := by
 have b0 := balloc (.cells #[.int .i64 me, .bool up, .bool gone, .bool gate, .int .i64 inc, .int .i64 now, .int .i64 sq, .int .i64 turn, .slice ta' tl tc', .slice ca' cl cc', .int .i64 pn, .int .i64 ps, .int .i64 pq, .bool pa, .slice da' dl dc', .int .i64 cx, .int .i64 cy, .int .i64 ch, .int .i64 ce, .slice pla' pll plc', .slice oa' ol oc'] 42) (balloc (.cells #[.int .i64 me, .bool up, .bool gone, .bool gate, .int .i64 inc, .int .i64 now, .int .i64 sq, .int .i64 turn, .slice ta tl tc, .slice ca cl cc, .int .i64 pn, .int .i64 ps, .int .i64 pq, .bool pa, .slice da dl dc, .int .i64 cx, .int .i64 cy, .int .i64 ch, .int .i64 ce, .slice pla pll plc, .slice oa ol oc] 42) (Below.refl w.heap.size w))
 have X := (Ws.box (w := w) #[.int .i64 me, .bool up, .bool gone, .bool gate, .int .i64 inc, .int .i64 now, .int .i64 sq, .int .i64 turn, .slice ta tl tc, .slice ca cl cc, .int .i64 pn, .int .i64 ps, .int .i64 pq, .bool pa, .slice da dl dc, .int .i64 cx, .int .i64 cy, .int .i64 ch, .int .i64 ce, .slice pla pll plc, .slice oa ol oc] 42).alloc (.cells #[.int .i64 me, .bool up, .bool gone, .bool gate, .int .i64 inc, .int .i64 now, .int .i64 sq, .int .i64 turn, .slice ta' tl tc', .slice ca' cl cc', .int .i64 pn, .int .i64 ps, .int .i64 pq, .bool pa, .slice da' dl dc', .int .i64 cx, .int .i64 cy, .int .i64 ch, .int .i64 ce, .slice pla' pll plc', .slice oa' ol oc'] 42)
 have Y := Ws.box (w := w.alloc (.cells #[.int .i64 me, .bool up, .bool gone, .bool gate, .int .i64 inc, .int .i64 now, .int .i64 sq, .int .i64 turn, .slice ta tl tc, .slice ca cl cc, .int .i64 pn, .int .i64 ps, .int .i64 pq, .bool pa, .slice da dl dc, .int .i64 cx, .int .i64 cy, .int .i64 ch, .int .i64 ce, .slice pla pll plc, .slice oa ol oc] 42)) #[.int .i64 me, .bool up, .bool gone, .bool gate, .int .i64 inc, .int .i64 now, .int .i64 sq, .int .i64 turn, .slice ta' tl tc', .slice ca' cl cc', .int .i64 pn, .int .i64 ps, .int .i64 pq, .bool pa, .slice da' dl dc', .int .i64 cx, .int .i64 cy, .int .i64 ch, .int .i64 ce, .slice pla' pll plc', .slice oa' ol oc'] 42
 have hs1 : (w.alloc (.cells #[.int .i64 me, .bool up, .bool gone, .bool gate, .int .i64 inc, .int .i64 now, .int .i64 sq, .int .i64 turn, .slice ta tl tc, .slice ca cl cc, .int .i64 pn, .int .i64 ps, .int .i64 pq, .bool pa, .slice da dl dc, .int .i64 cx, .int .i64 cy, .int .i64 ch, .int .i64 ce, .slice pla pll plc, .slice oa ol oc] 42)).heap.size = w.heap.size + 1 := by simp [go_sem]
 rw [hs1] at Y
 clear hs1
 go_enter Tryz.func10, Tryz.ntmps10
 go_upto_region 1 with fail
 generalize (w.alloc (.cells #[.int .i64 me, .bool up, .bool gone, .bool gate, .int .i64 inc, .int .i64 now, .int .i64 sq, .int .i64 turn, .slice ta tl tc, .slice ca cl cc, .int .i64 pn, .int .i64 ps, .int .i64 pq, .bool pa, .slice da dl dc, .int .i64 cx, .int .i64 cy, .int .i64 ch, .int .i64 ce, .slice pla pll plc, .slice oa ol oc] 42)).alloc (.cells #[.int .i64 me, .bool up, .bool gone, .bool gate, .int .i64 inc, .int .i64 now, .int .i64 sq, .int .i64 turn, .slice ta' tl tc', .slice ca' cl cc', .int .i64 pn, .int .i64 ps, .int .i64 pq, .bool pa, .slice da' dl dc', .int .i64 cx, .int .i64 cy, .int .i64 ch, .int .i64 ce, .slice pla' pll plc', .slice oa' ol oc'] 42) = u at *
 generalize w.heap.size + 1 = KB at *
 have h0 := h.below b0
 have h0' := h'.below b0
 clear h h'
 have x0 := X.c 0 (.int .i64 me) rfl
 have y0 := Y.c 0 (.int .i64 me) rfl
 have x1 := X.c 1 (.bool up) rfl
 have y1 := Y.c 1 (.bool up) rfl
 have x2 := X.c 2 (.bool gone) rfl
 have y2 := Y.c 2 (.bool gone) rfl
 have x3 := X.c 3 (.bool gate) rfl
 have y3 := Y.c 3 (.bool gate) rfl
 have x4 := X.c 4 (.int .i64 inc) rfl
 have y4 := Y.c 4 (.int .i64 inc) rfl
 have x5 := X.c 5 (.int .i64 now) rfl
 have y5 := Y.c 5 (.int .i64 now) rfl
 have x6 := X.c 6 (.int .i64 sq) rfl
 have y6 := Y.c 6 (.int .i64 sq) rfl
 have x7 := X.c 7 (.int .i64 turn) rfl
 have y7 := Y.c 7 (.int .i64 turn) rfl
 have x8 := X.c 8 (.slice ta tl tc) rfl
 have y8 := Y.c 8 (.slice ta' tl tc') rfl
 go_wp2_with fail
 refine (eqFactS_same ta ta' tl tc tc' F _ h0.f h0'.f h0.hf).mono ?_
 rintro r w1 ⟨rfl, k1⟩
 have b1 := btrans b0 k1
 have X1 := X.below k1
 have Y1 := Y.below k1
 have h1 := h0.below k1
 have h1' := h0'.below k1
 clear x0 y0 x1 y1 x2 y2 x3 y3 x4 y4 x5 y5 x6 y6 x7 y7 x8 y8 X Y h0 h0' b0 k1
 have x9 := X1.c 9 (.slice ca cl cc) rfl
 have y9 := Y1.c 9 (.slice ca' cl cc') rfl
 go_wp2_with fail
 refine (eqItemS_same ca ca' cl cc cc' GI _ h1.i h1'.i h1.hi).mono ?_
 rintro r w2 ⟨rfl, k2⟩
 have b2 := btrans b1 k2
 have X2 := X1.below k2
 have Y2 := Y1.below k2
 have h2 := h1.below k2
 have h2' := h1'.below k2
 clear x9 y9 X1 Y1 h1 h1' b1 k2
 have x10 := X2.c 10 (.int .i64 pn) rfl
 have y10 := Y2.c 10 (.int .i64 pn) rfl
 have x11 := X2.c 11 (.int .i64 ps) rfl
 have y11 := Y2.c 11 (.int .i64 ps) rfl
 have x12 := X2.c 12 (.int .i64 pq) rfl
 have y12 := Y2.c 12 (.int .i64 pq) rfl
 have x13 := X2.c 13 (.bool pa) rfl
 have y13 := Y2.c 13 (.bool pa) rfl
 go_wp2_with fail
 refine (eqProbe_same pn ps pq pa _).mono ?_
 rintro r w3 ⟨rfl, k3⟩
 have b3 := btrans b2 k3
 have X3 := X2.below k3
 have Y3 := Y2.below k3
 have h3 := h2.below k3
 have h3' := h2'.below k3
 clear x10 y10 x11 y11 x12 y12 x13 y13 X2 Y2 h2 h2' b2 k3
 have x14 := X3.c 14 (.slice da dl dc) rfl
 have y14 := Y3.c 14 (.slice da' dl dc') rfl
 go_wp2_with fail
 refine (DteqS_same da da' dl dc dc' GD GD' _ h3.d h3'.d h3.db h3'.db hD h3.hd).mono ?_
 rintro r w4 ⟨rfl, k4⟩
 have b4 := btrans b3 k4
 have X4 := X3.below k4
 have Y4 := Y3.below k4
 have h4 := h3.below k4
 have h4' := h3'.below k4
 clear x14 y14 X3 Y3 h3 h3' b3 k4
 have x15 := X4.c 15 (.int .i64 cx) rfl
 have y15 := Y4.c 15 (.int .i64 cx) rfl
 have x16 := X4.c 16 (.int .i64 cy) rfl
 have y16 := Y4.c 16 (.int .i64 cy) rfl
 have x17 := X4.c 17 (.int .i64 ch) rfl
 have y17 := Y4.c 17 (.int .i64 ch) rfl
 have x18 := X4.c 18 (.int .i64 ce) rfl
 have y18 := Y4.c 18 (.int .i64 ce) rfl
 go_wp2_with fail
 refine (eqCoord_same cx cy ch ce _).mono ?_
 rintro r w5 ⟨rfl, k5⟩
 have b5 := btrans b4 k5
 have X5 := X4.below k5
 have Y5 := Y4.below k5
 have h5 := h4.below k5
 have h5' := h4'.below k5
 clear x15 y15 x16 y16 x17 y17 x18 y18 X4 Y4 h4 h4' b4 k5
 have x19 := X5.c 19 (.slice pla pll plc) rfl
 have y19 := Y5.c 19 (.slice pla' pll plc') rfl
 go_wp2_with fail
 refine (PleqS_same pla pla' pll plc plc' GP GP' _ h5.p h5'.p h5.pb h5'.pb hP h5.hp).mono ?_
 rintro r w6 ⟨rfl, k6⟩
 have b6 := btrans b5 k6
 have X6 := X5.below k6
 have Y6 := Y5.below k6
 have h6 := h5.below k6
 have h6' := h5'.below k6
 clear x19 y19 X5 Y5 h5 h5' b5 k6
 have x20 := X6.c 20 (.slice oa ol oc) rfl
 have y20 := Y6.c 20 (.slice oa' ol oc') rfl
 go_wp2_with fail
 refine (FgeqS_same oa oa' ol oc oc' GO GO' _ h6.o h6'.o h6.ob h6'.ob hO h6.ho).mono ?_
 rintro r w7 ⟨rfl, k7⟩
 have b7 := btrans b6 k7
 have X7 := X6.below k7
 have Y7 := Y6.below k7
 have h7 := h6.below k7
 have h7' := h6'.below k7
 clear x20 y20 X6 Y6 h6 h6' b6 k7
 clear X7 Y7 h7 h7'
 go_wp2
 go_ret
 exact ⟨rfl, b7⟩
end Go.Proofs.YtgcdcfjaeehnbaaGreat
