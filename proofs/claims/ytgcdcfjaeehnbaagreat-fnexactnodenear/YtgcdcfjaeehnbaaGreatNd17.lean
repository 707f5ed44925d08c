/- Nodes: who is ok. -/
import Derived.Test.YtgcdcfjaeehnbaaGreatNd11
namespace Go.Proofs.YtgcdcfjaeehnbaaGreat
open Go.ChangeShapes Go.WideShapes Go.ChangeAt Go.RowKit
attribute [local go_sem ↓] Go.wp_at_zero Go.wp_at_succ
/-- the lists of a node -/
structure NdIn (w : World) (ta : Option Addr) (tl : Nat) (F : Nat → Fc) (ca : Option Addr) (cl : Nat) (GI : Nat → It) (da : Option Addr) (dl : Nat) (GD : Nat → Dt) (pla : Option Addr) (pll : Nat) (GP : Nat → Pl) (oa : Option Addr) (ol : Nat) (GO : Nat → Fg) : Prop where
  f : FSl w ta tl F
  i : TSl w ca cl GI
  d : DtSl w da dl GD
  db : DtB w dl GD
  p : PlSl w pla pll GP
  pb : PlB w pll GP
  o : FgSl w oa ol GO
  ob : FgB w ol GO
  hf : tl ≤ 1048576
  hi : cl ≤ 1048576
  hd : dl ≤ 1048576
  hp : pll ≤ 1048576
  ho : ol ≤ 1048576
theorem NdIn.below {w w' : World} {ta : Option Addr} {tl : Nat} {F : Nat → Fc} {ca : Option Addr} {cl : Nat} {GI : Nat → It} {da : Option Addr} {dl : Nat} {GD : Nat → Dt} {pla : Option Addr} {pll : Nat} {GP : Nat → Pl} {oa : Option Addr} {ol : Nat} {GO : Nat → Fg} (h : NdIn w ta tl F ca cl GI da dl GD pla pll GP oa ol GO) (k : Below w.heap.size w w') : NdIn w' ta tl F ca cl GI da dl GD pla pll GP oa ol GO :=
  ⟨h.f.below k, h.i.below k, h.d.below k, h.db.below k, h.p.below k, h.pb.below k, h.o.below k, h.ob.below k, h.hf, h.hi, h.hd, h.hp, h.ho⟩
/-- a node that is up is ok, the program's way -/
def upB (me : Int) (gone gate : Bool) (inc now sq : Int) (tl : Nat) (F : Nat → Fc) (cl : Nat) (GI : Nat → It) (pn ps pq : Int) (pa : Bool) (dl : Nat) (GD : Nat → Dt) (cx cy ch ce : Int) (pll : Nat) (GP : Nat → Pl) (ol : Nat) (GO : Nat → Fg) : Bool :=
  cok cx cy ch ce && tbB me gone gate inc tl F && castB tl F cl GI && prbB me now sq tl F pn ps pq pa && dbsB me now tl F dl GD && plsB me pll GP && othsB me ol GO
/-- a node is ok, the program's way -/
def nodB (me : Int) (up gone gate : Bool) (inc now sq turn : Int) (tl : Nat) (F : Nat → Fc) (cl : Nat) (GI : Nat → It) (pn ps pq : Int) (pa : Bool) (dl : Nat) (GD : Nat → Dt) (cx cy ch ce : Int) (pll : Nat) (GP : Nat → Pl) (ol : Nat) (GO : Nat → Fg) : Bool :=
  numB me now sq turn inc && (dwn up gone inc now sq turn tl cl dl pll ol pn ps pq pa cx cy ch ce || (up && upB me gone gate inc now sq tl F cl GI pn ps pq pa dl GD cx cy ch ce pll GP ol GO))
set_option maxRecDepth 20000 in
set_option maxHeartbeats 8000000 in
theorem nodeOk11_any (me : Int) (up gone gate : Bool) (inc now sq turn : Int) (ta : Option Addr) (tl tc : Nat) (ca : Option Addr) (cl cc : Nat) (pn ps pq : Int) (pa : Bool) (da : Option Addr) (dl dc : Nat) (cx cy ch ce : Int) (pla : Option Addr) (pll plc : Nat) (oa : Option Addr) (ol oc : Nat) (F : Nat → Fc) (GI : Nat → It) (GD : Nat → Dt) (GP : Nat → Pl) (GO : Nat → Fg) (w : World) (h : NdIn w ta tl F ca cl GI da dl GD pla pll GP oa ol GO) :
    Calls Tryz.prog 38 #[.agg #[.int .i64 me, .bool up, .bool gone, .bool gate, .int .i64 inc, .int .i64 now, .int .i64 sq, .int .i64 turn, .slice ta tl tc, .slice ca cl cc, .int .i64 pn, .int .i64 ps, .int .i64 pq, .bool pa, .slice da dl dc, .int .i64 cx, .int .i64 cy, .int .i64 ch, .int .i64 ce, .slice pla pll plc, .slice oa ol oc]] w fun r w' => r = .returned (.bool (nodB me up gone gate inc now sq turn tl F cl GI pn ps pq pa dl GD cx cy ch ce pll GP ol GO)) ∧ Below w.heap.size w w' := by
  have b0 := balloc (.cells #[.int .i64 me, .bool up, .bool gone, .bool gate, .int .i64 inc, .int .i64 now, .int .i64 sq, .int .i64 turn, .slice ta tl tc, .slice ca cl cc, .int .i64 pn, .int .i64 ps, .int .i64 pq, .bool pa, .slice da dl dc, .int .i64 cx, .int .i64 cy, .int .i64 ch, .int .i64 ce, .slice pla pll plc, .slice oa ol oc] 42) (Below.refl w.heap.size w)
  have X := Ws.box (w := w) #[.int .i64 me, .bool up, .bool gone, .bool gate, .int .i64 inc, .int .i64 now, .int .i64 sq, .int .i64 turn, .slice ta tl tc, .slice ca cl cc, .int .i64 pn, .int .i64 ps, .int .i64 pq, .bool pa, .slice da dl dc, .int .i64 cx, .int .i64 cy, .int .i64 ch, .int .i64 ce, .slice pla pll plc, .slice oa ol oc] 42
  go_enter Tryz.func38, Tryz.ntmps38
  go_upto_region 1 with fail
  generalize w.alloc (.cells #[.int .i64 me, .bool up, .bool gone, .bool gate, .int .i64 inc, .int .i64 now, .int .i64 sq, .int .i64 turn, .slice ta tl tc, .slice ca cl cc, .int .i64 pn, .int .i64 ps, .int .i64 pq, .bool pa, .slice da dl dc, .int .i64 cx, .int .i64 cy, .int .i64 ch, .int .i64 ce, .slice pla pll plc, .slice oa ol oc] 42) = u at *
  have h0 := h.below b0
  have r0 := X.range
  have X0 := X
  clear h X
  have hst : Hid (nodB me up gone gate inc now sq turn tl F cl GI pn ps pq pa dl GD cx cy ch ce pll GP ol GO = (numB me now sq turn inc && (dwn up gone inc now sq turn tl cl dl pll ol pn ps pq pa cx cy ch ce || (up && (cok cx cy ch ce && tbB me gone gate inc tl F && castB tl F cl GI && prbB me now sq tl F pn ps pq pa && dbsB me now tl F dl GD && plsB me pll GP && othsB me ol GO))))) := rfl
  go_wp2_with (refine load43L (by rfl) (.tmp 1) rfl w.heap.size rfl [.int .i64 me, .bool up, .bool gone, .bool gate, .int .i64 inc, .int .i64 now, .int .i64 sq, .int .i64 turn, .slice ta tl tc, .slice ca cl cc, .int .i64 pn, .int .i64 ps, .int .i64 pq, .bool pa, .slice da dl dc, .int .i64 cx, .int .i64 cy, .int .i64 ch, .int .i64 ce, .slice pla pll plc, .slice oa ol oc] r0 rfl ?_; clear r0)
  refine (nums_any me up gone gate inc now sq turn ta tl tc ca cl cc pn ps pq pa da dl dc cx cy ch ce pla pll plc oa ol oc _).mono ?_
  rintro r w1 ⟨rfl, k1⟩
  have b1 := btrans b0 k1
  have h1 := h0.below k1
  have r1 := range_below' (X0.range) k1
  have X1 := X0.below k1
  clear h0 X0 k1
  generalize numB me now sq turn inc = q0 at *
  cases q0
  · clear r1 X1 h1
    go_wp2
    go_ret
    exact ⟨ret_bool (by rw [hst.out]; simp), b1⟩
  go_wp2_with (refine load43L (by rfl) (.tmp 1) rfl w.heap.size rfl [.int .i64 me, .bool up, .bool gone, .bool gate, .int .i64 inc, .int .i64 now, .int .i64 sq, .int .i64 turn, .slice ta tl tc, .slice ca cl cc, .int .i64 pn, .int .i64 ps, .int .i64 pq, .bool pa, .slice da dl dc, .int .i64 cx, .int .i64 cy, .int .i64 ch, .int .i64 ce, .slice pla pll plc, .slice oa ol oc] r1 rfl ?_; clear r1)
  refine (down_any me up gone gate inc now sq turn ta tl tc ca cl cc pn ps pq pa da dl dc cx cy ch ce pla pll plc oa ol oc _ h1.hf h1.hi h1.hd h1.hp h1.ho).mono ?_
  rintro r w2 ⟨rfl, k2⟩
  have b2 := btrans b1 k2
  have h2 := h1.below k2
  have r2 := range_below' (X1.range) k2
  have X2 := X1.below k2
  clear h1 X1 k2
  generalize dwn up gone inc now sq turn tl cl dl pll ol pn ps pq pa cx cy ch ce = q1 at *
  cases q1
  rotate_left 1
  · clear r2 X2 h2
    go_wp2
    go_ret
    exact ⟨ret_bool (by rw [hst.out]; simp), b2⟩
  have d1 := X2.c 1 (.bool up) rfl
  have d15 := X2.c 15 (.int .i64 cx) rfl
  have d16 := X2.c 16 (.int .i64 cy) rfl
  have d17 := X2.c 17 (.int .i64 ch) rfl
  have d18 := X2.c 18 (.int .i64 ce) rfl
  cases up
  · clear r2 X2 h2
    go_wp2
    go_ret
    exact ⟨ret_bool (by rw [hst.out]; simp), b2⟩
  go_wp2_with fail
  refine (fcok_any cx cy ch ce _).mono ?_
  rintro r w3 ⟨rfl, k3⟩
  have b3 := btrans b2 k3
  have h3 := h2.below k3
  have r3 := range_below' (X2.range) k3
  have X3 := X2.below k3
  clear h2 X2 k3
  generalize cok cx cy ch ce = q2 at *
  cases q2
  · clear r3 X3 h3 d1 d15 d16 d17 d18
    go_wp2
    go_ret
    exact ⟨ret_bool (by rw [hst.out]; simp), b3⟩
  clear d1 d15 d16 d17 d18
  go_wp2_with (refine load43L (by rfl) (.tmp 1) rfl w.heap.size rfl [.int .i64 me, .bool true, .bool gone, .bool gate, .int .i64 inc, .int .i64 now, .int .i64 sq, .int .i64 turn, .slice ta tl tc, .slice ca cl cc, .int .i64 pn, .int .i64 ps, .int .i64 pq, .bool pa, .slice da dl dc, .int .i64 cx, .int .i64 cy, .int .i64 ch, .int .i64 ce, .slice pla pll plc, .slice oa ol oc] r3 rfl ?_; clear r3)
  refine (tab_any me true gone gate inc now sq turn ta tl tc ca cl cc pn ps pq pa da dl dc cx cy ch ce pla pll plc oa ol oc F _ h3.f h3.hf).mono ?_
  rintro r w4 ⟨rfl, k4⟩
  have b4 := btrans b3 k4
  have h4 := h3.below k4
  have r4 := range_below' (X3.range) k4
  have X4 := X3.below k4
  clear h3 X3 k4
  generalize tbB me gone gate inc tl F = q3 at *
  cases q3
  · clear r4 X4 h4 
    go_wp2
    go_ret
    exact ⟨ret_bool (by rw [hst.out]; simp), b4⟩
  skip
  go_wp2_with (refine load43L (by rfl) (.tmp 1) rfl w.heap.size rfl [.int .i64 me, .bool true, .bool gone, .bool gate, .int .i64 inc, .int .i64 now, .int .i64 sq, .int .i64 turn, .slice ta tl tc, .slice ca cl cc, .int .i64 pn, .int .i64 ps, .int .i64 pq, .bool pa, .slice da dl dc, .int .i64 cx, .int .i64 cy, .int .i64 ch, .int .i64 ce, .slice pla pll plc, .slice oa ol oc] r4 rfl ?_; clear r4)
  refine (ncast_any me true gone gate inc now sq turn ta tl tc ca cl cc pn ps pq pa da dl dc cx cy ch ce pla pll plc oa ol oc F GI _ h4.f h4.hf h4.i h4.hi).mono ?_
  rintro r w5 ⟨rfl, k5⟩
  have b5 := btrans b4 k5
  have h5 := h4.below k5
  have r5 := range_below' (X4.range) k5
  have X5 := X4.below k5
  clear h4 X4 k5
  generalize castB tl F cl GI = q4 at *
  cases q4
  · clear r5 X5 h5 
    go_wp2
    go_ret
    exact ⟨ret_bool (by rw [hst.out]; simp), b5⟩
  skip
  go_wp2_with (refine load43L (by rfl) (.tmp 1) rfl w.heap.size rfl [.int .i64 me, .bool true, .bool gone, .bool gate, .int .i64 inc, .int .i64 now, .int .i64 sq, .int .i64 turn, .slice ta tl tc, .slice ca cl cc, .int .i64 pn, .int .i64 ps, .int .i64 pq, .bool pa, .slice da dl dc, .int .i64 cx, .int .i64 cy, .int .i64 ch, .int .i64 ce, .slice pla pll plc, .slice oa ol oc] r5 rfl ?_; clear r5)
  refine (probe_any me true gone gate inc now sq turn ta tl tc ca cl cc pn ps pq pa da dl dc cx cy ch ce pla pll plc oa ol oc F _ h5.f h5.hf).mono ?_
  rintro r w6 ⟨rfl, k6⟩
  have b6 := btrans b5 k6
  have h6 := h5.below k6
  have r6 := range_below' (X5.range) k6
  have X6 := X5.below k6
  clear h5 X5 k6
  generalize prbB me now sq tl F pn ps pq pa = q5 at *
  cases q5
  · clear r6 X6 h6 
    go_wp2
    go_ret
    exact ⟨ret_bool (by rw [hst.out]; simp), b6⟩
  skip
  go_wp2_with (refine load43L (by rfl) (.tmp 1) rfl w.heap.size rfl [.int .i64 me, .bool true, .bool gone, .bool gate, .int .i64 inc, .int .i64 now, .int .i64 sq, .int .i64 turn, .slice ta tl tc, .slice ca cl cc, .int .i64 pn, .int .i64 ps, .int .i64 pq, .bool pa, .slice da dl dc, .int .i64 cx, .int .i64 cy, .int .i64 ch, .int .i64 ce, .slice pla pll plc, .slice oa ol oc] r6 rfl ?_; clear r6)
  refine (doubts_any me true gone gate inc now sq turn ta tl tc ca cl cc pn ps pq pa da dl dc cx cy ch ce pla pll plc oa ol oc F GD _ h6.f h6.hf h6.d h6.hd h6.db).mono ?_
  rintro r w7 ⟨rfl, k7⟩
  have b7 := btrans b6 k7
  have h7 := h6.below k7
  have r7 := range_below' (X6.range) k7
  have X7 := X6.below k7
  clear h6 X6 k7
  generalize dbsB me now tl F dl GD = q6 at *
  cases q6
  · clear r7 X7 h7 
    go_wp2
    go_ret
    exact ⟨ret_bool (by rw [hst.out]; simp), b7⟩
  skip
  go_wp2_with (refine load43L (by rfl) (.tmp 1) rfl w.heap.size rfl [.int .i64 me, .bool true, .bool gone, .bool gate, .int .i64 inc, .int .i64 now, .int .i64 sq, .int .i64 turn, .slice ta tl tc, .slice ca cl cc, .int .i64 pn, .int .i64 ps, .int .i64 pq, .bool pa, .slice da dl dc, .int .i64 cx, .int .i64 cy, .int .i64 ch, .int .i64 ce, .slice pla pll plc, .slice oa ol oc] r7 rfl ?_; clear r7)
  refine (places_any me true gone gate inc now sq turn ta tl tc ca cl cc pn ps pq pa da dl dc cx cy ch ce pla pll plc oa ol oc GP _ h7.p h7.hp h7.pb).mono ?_
  rintro r w8 ⟨rfl, k8⟩
  have b8 := btrans b7 k8
  have h8 := h7.below k8
  have r8 := range_below' (X7.range) k8
  have X8 := X7.below k8
  clear h7 X7 k8
  generalize plsB me pll GP = q7 at *
  cases q7
  · clear r8 X8 h8 
    go_wp2
    go_ret
    exact ⟨ret_bool (by rw [hst.out]; simp), b8⟩
  skip
  go_wp2_with (refine load43L (by rfl) (.tmp 1) rfl w.heap.size rfl [.int .i64 me, .bool true, .bool gone, .bool gate, .int .i64 inc, .int .i64 now, .int .i64 sq, .int .i64 turn, .slice ta tl tc, .slice ca cl cc, .int .i64 pn, .int .i64 ps, .int .i64 pq, .bool pa, .slice da dl dc, .int .i64 cx, .int .i64 cy, .int .i64 ch, .int .i64 ce, .slice pla pll plc, .slice oa ol oc] r8 rfl ?_; clear r8)
  refine (others_any me true gone gate inc now sq turn ta tl tc ca cl cc pn ps pq pa da dl dc cx cy ch ce pla pll plc oa ol oc GO _ h8.o h8.ho h8.ob).mono ?_
  rintro r w9 ⟨rfl, k9⟩
  clear X8
  go_wp2
  go_ret
  exact ⟨ret_bool (by rw [hst.out]; simp), btrans b8 k9⟩
end Go.Proofs.YtgcdcfjaeehnbaaGreat
