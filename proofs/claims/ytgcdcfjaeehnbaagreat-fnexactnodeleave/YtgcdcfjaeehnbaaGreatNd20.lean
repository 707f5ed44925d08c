/- Nodes: who is ok. -/
import Derived.Test.YtgcdcfjaeehnbaaGreatNd11
import Derived.Test.YtgcdcfjaeehnbaaGreatGatesF
import Derived.Test.YtgcdcfjaeehnbaaGreatNd1
namespace Go.Proofs.YtgcdcfjaeehnbaaGreat
open Go.ChangeShapes Go.WideShapes Go.ChangeAt Go.RowKit
set_option maxRecDepth 20000
set_option maxHeartbeats 8000000
attribute [local go_sem ↓] Go.wp_at_zero Go.wp_at_succ
structure NdIn (w : World) (ta : Option Addr) (tl : Nat) (F : Nat → Fc) (ca : Option Addr) (cl : Nat) (GI : Nat → It) (da : Option Addr) (dl : Nat) (GD : Nat → Dt) (pla : Option Addr) (pll : Nat) (GP : Nat → Pl) (oa : Option Addr) (ol : Nat) (GO : Nat → Fg) : Prop where
 f : FSl w ta tl F
 i : TSl w ca cl GI
 d : DtSl w da dl GD
 db : DtB w dl GD
 p : PlSl w pla pll GP
 pb : PlB w pll GP
 o : FgSl w oa ol GO
 ob : FgB w ol GO
 hf : tl ≤ 1048576
 hi : cl ≤ 1048576
 hd : dl ≤ 1048576
 hp : pll ≤ 1048576
 ho : ol ≤ 1048576
theorem NdIn.below {w w' : World} {ta : Option Addr} {tl : Nat} {F : Nat → Fc} {ca : Option Addr} {cl : Nat} {GI : Nat → It} {da : Option Addr} {dl : Nat} {GD : Nat → Dt} {pla : Option Addr} {pll : Nat} {GP : Nat → Pl} {oa : Option Addr} {ol : Nat} {GO : Nat → Fg} (h : NdIn w ta tl F ca cl GI da dl GD pla pll GP oa ol GO) (k : Below w.heap.size w w') : NdIn w' ta tl F ca cl GI da dl GD pla pll GP oa ol GO :=
 ⟨h.f.below k, h.i.below k, h.d.below k, h.db.below k, h.p.below k, h.pb.below k, h.o.below k, h.ob.below k, h.hf, h.hi, h.hd, h.hp, h.ho⟩
def upB (me : Int) (gone gate : Bool) (inc now sq : Int) (tl : Nat) (F : Nat → Fc) (cl : Nat) (GI : Nat → It) (pn ps pq : Int) (pa : Bool) (dl : Nat) (GD : Nat → Dt) (cx cy ch ce : Int) (pll : Nat) (GP : Nat → Pl) (ol : Nat) (GO : Nat → Fg) : Bool :=
 cok cx cy ch ce && tbB me gone gate inc tl F && castB tl F cl GI && prbB me now sq tl F pn ps pq pa && dbsB me now tl F dl GD && plsB me pll GP && othsB me ol GO
def nodB (me : Int) (up gone gate : Bool) (inc now sq turn : Int) (tl : Nat) (F : Nat → Fc) (cl : Nat) (GI : Nat → It) (pn ps pq : Int) (pa : Bool) (dl : Nat) (GD : Nat → Dt) (cx cy ch ce : Int) (pll : Nat) (GP : Nat → Pl) (ol : Nat) (GO : Nat → Fg) : Bool :=
 numB me now sq turn inc && (dwn up gone inc now sq turn tl cl dl pll ol pn ps pq pa cx cy ch ce || (up && upB me gone gate inc now sq tl F cl GI pn ps pq pa dl GD cx cy ch ce pll GP ol GO))
theorem nodeOk11_any (me : Int) (up gone gate : Bool) (inc now sq turn : Int) (ta : Option Addr) (tl tc : Nat) (ca : Option Addr) (cl cc : Nat) (pn ps pq : Int) (pa : Bool) (da : Option Addr) (dl dc : Nat) (cx cy ch ce : Int) (pla : Option Addr) (pll plc : Nat) (oa : Option Addr) (ol oc : Nat) (F : Nat → Fc) (GI : Nat → It) (GD : Nat → Dt) (GP : Nat → Pl) (GO : Nat → Fg) (w : World) (h : NdIn w ta tl F ca cl GI da dl GD pla pll GP oa ol GO) :
  Calls Tryz.prog 38 #[.agg #[.int .i64 me, .bool up, .bool gone, .bool gate, .int .i64 inc, .int .i64 now, .int .i64 sq, .int .i64 turn, .slice ta tl tc, .slice ca cl cc, .int .i64 pn, .int .i64 ps, .int .i64 pq, .bool pa, .slice da dl dc, .int .i64 cx, .int .i64 cy, .int .i64 ch, .int .i64 ce, .slice pla pll plc, .slice oa ol oc]] w fun r w' => r = .returned (.bool (nodB me up gone gate inc now sq turn tl F cl GI pn ps pq pa dl GD cx cy ch ce pll GP ol GO)) ∧ Below w.heap.size w w' := by
 go_enter Tryz.func38, Tryz.ntmps38
 go_upto_region 1 with fail
 generalize hu : w.alloc (.cells _ _) = u
 obtain ⟨X, b0⟩ := box1 hu
 clear hu
 have h0 := h.below b0
 have r0 := X.range
 have X0 := X
 clear h X
 have hst : Hid (nodB me up gone gate inc now sq turn tl F cl GI pn ps pq pa dl GD cx cy ch ce pll GP ol GO = (numB me now sq turn inc && (dwn up gone inc now sq turn tl cl dl pll ol pn ps pq pa cx cy ch ce || (up && (cok cx cy ch ce && tbB me gone gate inc tl F && castB tl F cl GI && prbB me now sq tl F pn ps pq pa && dbsB me now tl F dl GD && plsB me pll GP && othsB me ol GO))))) := rfl
 go_wp2_with (refine load43L (by rfl) (.tmp 1) rfl w.heap.size rfl [.int .i64 me, .bool up, .bool gone, .bool gate, .int .i64 inc, .int .i64 now, .int .i64 sq, .int .i64 turn, .slice ta tl tc, .slice ca cl cc, .int .i64 pn, .int .i64 ps, .int .i64 pq, .bool pa, .slice da dl dc, .int .i64 cx, .int .i64 cy, .int .i64 ch, .int .i64 ce, .slice pla pll plc, .slice oa ol oc] r0 rfl ?_; clear r0)
 refine (nums_any me up gone gate inc now sq turn ta tl tc ca cl cc pn ps pq pa da dl dc cx cy ch ce pla pll plc oa ol oc _).mono ?_
 rintro r w1 ⟨rfl, k1⟩
 have b1 := btrans b0 k1
 have h1 := h0.below k1
 have r1 := range_below' (X0.range) k1
 have X1 := X0.below k1
 clear h0 X0 k1
 generalize numB me now sq turn inc = q0 at *
 cases q0
 ·clear r1 X1 h1
  go_wp2
  go_ret
  exact ⟨ret_bool (by rw [hst.out]; simp), b1⟩
 go_wp2_with (refine load43L (by rfl) (.tmp 1) rfl w.heap.size rfl [.int .i64 me, .bool up, .bool gone, .bool gate, .int .i64 inc, .int .i64 now, .int .i64 sq, .int .i64 turn, .slice ta tl tc, .slice ca cl cc, .int .i64 pn, .int .i64 ps, .int .i64 pq, .bool pa, .slice da dl dc, .int .i64 cx, .int .i64 cy, .int .i64 ch, .int .i64 ce, .slice pla pll plc, .slice oa ol oc] r1 rfl ?_; clear r1)
 refine (down_any me up gone gate inc now sq turn ta tl tc ca cl cc pn ps pq pa da dl dc cx cy ch ce pla pll plc oa ol oc _ h1.hf h1.hi h1.hd h1.hp h1.ho).mono ?_
 rintro r w2 ⟨rfl, k2⟩
 have b2 := btrans b1 k2
 have h2 := h1.below k2
 have r2 := range_below' (X1.range) k2
 have X2 := X1.below k2
 clear h1 X1 k2
 generalize dwn up gone inc now sq turn tl cl dl pll ol pn ps pq pa cx cy ch ce = q1 at *
 cases q1
 rotate_left 1
 ·clear r2 X2 h2
  go_wp2
  go_ret
  exact ⟨ret_bool (by rw [hst.out]; simp), b2⟩
 have d1 := X2.c 1 (.bool up) rfl
 have d15 := X2.c 15 (.int .i64 cx) rfl
 have d16 := X2.c 16 (.int .i64 cy) rfl
 have d17 := X2.c 17 (.int .i64 ch) rfl
 have d18 := X2.c 18 (.int .i64 ce) rfl
 cases up
 ·clear r2 X2 h2
  go_wp2
  go_ret
  exact ⟨ret_bool (by rw [hst.out]; simp), b2⟩
 go_wp2_with fail
 refine (fcok_any cx cy ch ce _).mono ?_
 rintro r w3 ⟨rfl, k3⟩
 have b3 := btrans b2 k3
 have h3 := h2.below k3
 have r3 := range_below' (X2.range) k3
 have X3 := X2.below k3
 clear h2 X2 k3
 generalize cok cx cy ch ce = q2 at *
 cases q2
 ·clear r3 X3 h3 d1 d15 d16 d17 d18
  go_wp2
  go_ret
  exact ⟨ret_bool (by rw [hst.out]; simp), b3⟩
 clear d1 d15 d16 d17 d18
 go_wp2_with (refine load43L (by rfl) (.tmp 1) rfl w.heap.size rfl [.int .i64 me, .bool true, .bool gone, .bool gate, .int .i64 inc, .int .i64 now, .int .i64 sq, .int .i64 turn, .slice ta tl tc, .slice ca cl cc, .int .i64 pn, .int .i64 ps, .int .i64 pq, .bool pa, .slice da dl dc, .int .i64 cx, .int .i64 cy, .int .i64 ch, .int .i64 ce, .slice pla pll plc, .slice oa ol oc] r3 rfl ?_; clear r3)
 refine (tab_any me true gone gate inc now sq turn ta tl tc ca cl cc pn ps pq pa da dl dc cx cy ch ce pla pll plc oa ol oc F _ h3.f h3.hf).mono ?_
 rintro r w4 ⟨rfl, k4⟩
 have b4 := btrans b3 k4
 have h4 := h3.below k4
 have r4 := range_below' (X3.range) k4
 have X4 := X3.below k4
 clear h3 X3 k4
 generalize tbB me gone gate inc tl F = q3 at *
 cases q3
 ·clear r4 X4 h4 
  go_wp2
  go_ret
  exact ⟨ret_bool (by rw [hst.out]; simp), b4⟩
 skip
 go_wp2_with (refine load43L (by rfl) (.tmp 1) rfl w.heap.size rfl [.int .i64 me, .bool true, .bool gone, .bool gate, .int .i64 inc, .int .i64 now, .int .i64 sq, .int .i64 turn, .slice ta tl tc, .slice ca cl cc, .int .i64 pn, .int .i64 ps, .int .i64 pq, .bool pa, .slice da dl dc, .int .i64 cx, .int .i64 cy, .int .i64 ch, .int .i64 ce, .slice pla pll plc, .slice oa ol oc] r4 rfl ?_; clear r4)
 refine (ncast_any me true gone gate inc now sq turn ta tl tc ca cl cc pn ps pq pa da dl dc cx cy ch ce pla pll plc oa ol oc F GI _ h4.f h4.hf h4.i h4.hi).mono ?_
 rintro r w5 ⟨rfl, k5⟩
 have b5 := btrans b4 k5
 have h5 := h4.below k5
 have r5 := range_below' (X4.range) k5
 have X5 := X4.below k5
 clear h4 X4 k5
 generalize castB tl F cl GI = q4 at *
 cases q4
 ·clear r5 X5 h5 
  go_wp2
  go_ret
  exact ⟨ret_bool (by rw [hst.out]; simp), b5⟩
 skip
 go_wp2_with (refine load43L (by rfl) (.tmp 1) rfl w.heap.size rfl [.int .i64 me, .bool true, .bool gone, .bool gate, .int .i64 inc, .int .i64 now, .int .i64 sq, .int .i64 turn, .slice ta tl tc, .slice ca cl cc, .int .i64 pn, .int .i64 ps, .int .i64 pq, .bool pa, .slice da dl dc, .int .i64 cx, .int .i64 cy, .int .i64 ch, .int .i64 ce, .slice pla pll plc, .slice oa ol oc] r5 rfl ?_; clear r5)
 refine (probe_any me true gone gate inc now sq turn ta tl tc ca cl cc pn ps pq pa da dl dc cx cy ch ce pla pll plc oa ol oc F _ h5.f h5.hf).mono ?_
 rintro r w6 ⟨rfl, k6⟩
 have b6 := btrans b5 k6
 have h6 := h5.below k6
 have r6 := range_below' (X5.range) k6
 have X6 := X5.below k6
 clear h5 X5 k6
 generalize prbB me now sq tl F pn ps pq pa = q5 at *
 cases q5
 ·clear r6 X6 h6 
  go_wp2
  go_ret
  exact ⟨ret_bool (by rw [hst.out]; simp), b6⟩
 skip
 go_wp2_with (refine load43L (by rfl) (.tmp 1) rfl w.heap.size rfl [.int .i64 me, .bool true, .bool gone, .bool gate, .int .i64 inc, .int .i64 now, .int .i64 sq, .int .i64 turn, .slice ta tl tc, .slice ca cl cc, .int .i64 pn, .int .i64 ps, .int .i64 pq, .bool pa, .slice da dl dc, .int .i64 cx, .int .i64 cy, .int .i64 ch, .int .i64 ce, .slice pla pll plc, .slice oa ol oc] r6 rfl ?_; clear r6)
 refine (doubts_any me true gone gate inc now sq turn ta tl tc ca cl cc pn ps pq pa da dl dc cx cy ch ce pla pll plc oa ol oc F GD _ h6.f h6.hf h6.d h6.hd h6.db).mono ?_
 rintro r w7 ⟨rfl, k7⟩
 have b7 := btrans b6 k7
 have h7 := h6.below k7
 have r7 := range_below' (X6.range) k7
 have X7 := X6.below k7
 clear h6 X6 k7
 generalize dbsB me now tl F dl GD = q6 at *
 cases q6
 ·clear r7 X7 h7 
  go_wp2
  go_ret
  exact ⟨ret_bool (by rw [hst.out]; simp), b7⟩
 skip
 go_wp2_with (refine load43L (by rfl) (.tmp 1) rfl w.heap.size rfl [.int .i64 me, .bool true, .bool gone, .bool gate, .int .i64 inc, .int .i64 now, .int .i64 sq, .int .i64 turn, .slice ta tl tc, .slice ca cl cc, .int .i64 pn, .int .i64 ps, .int .i64 pq, .bool pa, .slice da dl dc, .int .i64 cx, .int .i64 cy, .int .i64 ch, .int .i64 ce, .slice pla pll plc, .slice oa ol oc] r7 rfl ?_; clear r7)
 refine (places_any me true gone gate inc now sq turn ta tl tc ca cl cc pn ps pq pa da dl dc cx cy ch ce pla pll plc oa ol oc GP _ h7.p h7.hp h7.pb).mono ?_
 rintro r w8 ⟨rfl, k8⟩
 have b8 := btrans b7 k8
 have h8 := h7.below k8
 have r8 := range_below' (X7.range) k8
 have X8 := X7.below k8
 clear h7 X7 k8
 generalize plsB me pll GP = q7 at *
 cases q7
 ·clear r8 X8 h8 
  go_wp2
  go_ret
  exact ⟨ret_bool (by rw [hst.out]; simp), b8⟩
 skip
 go_wp2_with (refine load43L (by rfl) (.tmp 1) rfl w.heap.size rfl [.int .i64 me, .bool true, .bool gone, .bool gate, .int .i64 inc, .int .i64 now, .int .i64 sq, .int .i64 turn, .slice ta tl tc, .slice ca cl cc, .int .i64 pn, .int .i64 ps, .int .i64 pq, .bool pa, .slice da dl dc, .int .i64 cx, .int .i64 cy, .int .i64 ch, .int .i64 ce, .slice pla pll plc, .slice oa ol oc] r8 rfl ?_; clear r8)
 refine (others_any me true gone gate inc now sq turn ta tl tc ca cl cc pn ps pq pa da dl dc cx cy ch ce pla pll plc oa ol oc GO _ h8.o h8.ho h8.ob).mono ?_
 rintro r w9 ⟨rfl, k9⟩
 clear X8
 go_wp2
 go_ret
 exact ⟨ret_bool (by rw [hst.out]; simp), btrans b8 k9⟩
end Go.Proofs.YtgcdcfjaeehnbaaGreat
namespace Go.Proofs.YtgcdcfjaeehnbaaGreat
open Go.ChangeShapes Go.WideShapes Go.ChangeAt Go.RowKit
set_option maxRecDepth 20000
set_option maxHeartbeats 4000000
attribute [local go_sem ↓] Go.wp_at_zero Go.wp_at_succ
theorem Ws.far {w : World} {b b' k : Nat} {v : Value} {xs : List Value} (h : Ws w b xs) (hb : b ≠ b') : Ws (w.setCell ⟨b', k, none⟩ v) b xs :=
 ⟨by simpa [World.setCell] using h.lt, fun i u hv => cs_far _ hb (h.c i u hv), fun o => by rw [World.frozen?_setCell]; exact h.z o⟩
theorem Ws.set {w : World} {b : Nat} {xs : List Value} (h : Ws w b xs) (i : Nat) (hi : i < xs.length) (v : Value) : Ws (w.setCell ⟨b, i, none⟩ v) b (xs.set i v) := by
 refine ⟨by simpa [World.setCell] using h.lt, fun j u hu => ?_, fun o => by rw [World.frozen?_setCell]; exact h.z o⟩
 by_cases e : i = j
 ·subst e
  rw [List.getElem?_set_self hi] at hu
  injection hu with hu
  subst hu
  rw [World.cell?_setCell_same' _ _ _ (by rw [h.c i xs[i] (List.getElem?_eq_getElem hi)]; rfl)]
 ·rw [List.getElem?_set_ne e] at hu
  exact (World.cell?_setCell_other _ _ _ _ (by simp)).trans (h.c j u hu)
theorem ISl.far {w : World} {b' k : Nat} {v : Value} {bb : Nat} {len : Nat} {f : Nat → Int} (h : ISl w (some ⟨bb, 0, none⟩) len f) (hb : bb ≠ b') : ISl (w.setCell ⟨b', k, none⟩ v) (some ⟨bb, 0, none⟩) len f := fun hl => by
 obtain ⟨b, off, e, hlt, hf⟩ := h hl
 injection e with e
 injection e with e1 e2
 subst e1 e2
 exact ⟨bb, 0, rfl, by simpa [World.setCell] using hlt, fun j hj => cs_far _ hb (hf j hj)⟩
theorem FSl.far {w : World} {b' k : Nat} {v : Value} {bb : Nat} {len : Nat} {f : Nat → Fc} (h : FSl w (some ⟨bb, 0, none⟩) len f) (hb : bb ≠ b') : FSl (w.setCell ⟨b', k, none⟩ v) (some ⟨bb, 0, none⟩) len f := fun hl => by
 obtain ⟨b, off, e, hlt, hf⟩ := h hl
 injection e with e
 injection e with e1 e2
 subst e1 e2
 refine ⟨bb, 0, rfl, by simpa [World.setCell] using hlt, fun j hj => ?_⟩
 obtain ⟨h0, h1, h2, h3⟩ := hf j hj
 exact ⟨cs_far _ hb h0, cs_far _ hb h1, cs_far _ hb h2, cs_far _ hb h3⟩
def nv (f : Nat → Int) (k : Nat) : Value := .int .i64 (f k)
theorem run_make_ints (n : Nat) (hn : n ≤ 1048576) (w : World) :
  (Instr.makeSlice 54 (.int .i64 (n : Int)) (.int .i64 (n : Int))).run Tryz.prog w = .ok (.slice (some ⟨w.heap.size, 0, none⟩) n n) (w.alloc (.cells (madeCells #[.int .i64 0] (n * 1)) 3)) := by
 have hinf : (Tryz.prog.info? 3).map (fun i => (i.zero, i.size, i.bytes)) = some (some (.int .i64 0), 1, 8) := by kernel_rfl
 obtain ⟨i, hi, hzz⟩ := Option.map_eq_some_iff.1 hinf
 simp only [Prod.mk.injEq] at hzz
 obtain ⟨hz, hs, hb⟩ := hzz
 have hr := run_make (P := Tryz.prog) w 54 3 i _ Tryz.underlying54 hi hz .i64 .i64 n n (by omega) (Int.le_refl _) (by rw [hb]; omega) (by omega)
 rw [hr, hs, Int.toNat_natCast]
 rfl
theorem nrow_made (n : Nat) (w : World) : (w.alloc (.cells (madeCells #[.int .i64 0] (n * 1)) 3)).rowIs w.heap.size 3 n (nv fun _ => 0) :=
 ⟨_, heap_alloc_new _ _, (size_madeCells _ _).trans (Nat.mul_one n), fun i hi => by
  have : i % 1 = 0 := by omega
  simp [madeCells, hi, nv, this]⟩
theorem row_of {w w' : World} {b t n : Nat} {f : Nat → Value} (h : w.rowIs b t n f) (e : w'.heap[b]? = w.heap[b]?) : w'.rowIs b t n f := by
 obtain ⟨cs, h1, h2⟩ := h
 exact ⟨cs, e.trans h1, h2⟩
def IRow (w : World) (a : Option Addr) (len : Nat) (f : Nat → Int) : Prop := ∃ bb, a = some ⟨bb, 0, none⟩ ∧ w.rowIs bb 3 len (nv f)
def FRow (w : World) (a : Option Addr) (len : Nat) (F : Nat → Fc) : Prop := ∃ bb, a = some ⟨bb, 0, none⟩ ∧ w.rowIs bb 96 (len * 4) (fv F)
theorem IRow.far {w : World} {b' k : Nat} {v : Value} {bb : Nat} {len : Nat} {f : Nat → Int} (h : IRow w (some ⟨bb, 0, none⟩) len f) (hb : bb ≠ b') : IRow (w.setCell ⟨b', k, none⟩ v) (some ⟨bb, 0, none⟩) len f := by
 obtain ⟨b, e, h⟩ := h
 injection e with e
 injection e with e
 subst e
 exact ⟨bb, rfl, row_of h (heap_setCell_other w ⟨b', k, none⟩ bb v (by simpa using hb))⟩
theorem FRow.far {w : World} {b' k : Nat} {v : Value} {bb : Nat} {len : Nat} {f : Nat → Fc} (h : FRow w (some ⟨bb, 0, none⟩) len f) (hb : bb ≠ b') : FRow (w.setCell ⟨b', k, none⟩ v) (some ⟨bb, 0, none⟩) len f := by
 obtain ⟨b, e, h⟩ := h
 injection e with e
 injection e with e
 subst e
 exact ⟨bb, rfl, row_of h (heap_setCell_other w ⟨b', k, none⟩ bb v (by simpa using hb))⟩
theorem IRow.below {w w' : World} {a : Option Addr} {len : Nat} {f : Nat → Int} (h : IRow w a len f) (hb : Below w.heap.size w w') : IRow w' a len f := by
 obtain ⟨b, e, h⟩ := h
 exact ⟨b, e, row_below h hb⟩
theorem FRow.below {w w' : World} {a : Option Addr} {len : Nat} {f : Nat → Fc} (h : FRow w a len f) (hb : Below w.heap.size w w') : FRow w' a len f := by
 obtain ⟨b, e, h⟩ := h
 exact ⟨b, e, row_below h hb⟩
theorem IRow.sl {w : World} {a : Option Addr} {len : Nat} {f : Nat → Int} (h : IRow w a len f) : ISl w a len f := by
 obtain ⟨b, rfl, h⟩ := h
 exact fun _ => ⟨b, 0, rfl, h.lt, fun j hj => by have := h.cell (i := j) hj; simpa [nv] using this⟩
theorem FRow.sl {w : World} {a : Option Addr} {len : Nat} {f : Nat → Fc} (h : FRow w a len f) : FSl w a len f := by
 obtain ⟨b, rfl, h⟩ := h
 exact fsl_row h
theorem toInts_any (a : Option Addr) (len cap : Nat) (f : Nat → Int) (w : World) (h : ISl w a len f) (hl : len ≤ 1048576) (hc : len ≤ cap) :
  Calls Tryz.prog 148 #[.slice a len cap] w fun e w' => ∃ b, e = .returned (.slice (some ⟨b, 0, none⟩) len len) ∧ IRow w' (some ⟨b, 0, none⟩) len f ∧ w.heap.size ≤ b ∧ Below w.heap.size w w' := by
 have hmk := run_make_ints len hl
 go_enter Tryz.func148, Tryz.ntmps148
 go_wp2
 go_loopw [4] (fun i wr => ∃ k : Nat, k ≤ len ∧ i = .int .i64 k ∧ Below w.heap.size w wr ∧ wr.rowIs w.heap.size 3 len (nv fun j => if j < k then f j else 0)) (fun i _ => len - (intOf i).toNat)
 case atStart => exact ⟨0, Nat.zero_le _, rfl, balloc _ (Below.refl _ _), by simpa using nrow_made len w⟩
 case round =>
  obtain ⟨k, hk, rfl, hb, hr⟩ := hrel
  clear hmk
  by_cases hlt : k < len
  ·obtain ⟨b, off, rfl, hbl, hf⟩ := h (by omega)
   have c0 := (hf.below hb hbl) k hlt
   have d0 := hr.cell (i := k) (by omega)
   have z0 := hr.frozen k
   go_wp2
   go_roundw
   case rel =>
    refine ⟨k + 1, by omega, by go_num, hb.setCell (p := ⟨w.heap.size, k, none⟩) (Nat.le_refl _) _, (hr.set k _).congr fun j _ => ?_⟩
    by_cases e : j = k
    ·subst e; simp [nv]
    ·have : j < k + 1 ↔ j < k := by omega
     simp [nv, e, this]
   case measure => simp [intOf]; omega
  ·go_wp2
   go_ret
   have e : k = len := by omega
   subst e
   exact ⟨w.heap.size, rfl, ⟨_, rfl, hr.congr fun j hj => by simp [nv, hj]⟩, Nat.le_refl _, hb⟩
theorem toFactsR_any (a : Option Addr) (len cap : Nat) (F : Nat → Fc) (w : World) (h : FSl w a len F) (hl : len ≤ 1048576) (hc : len ≤ cap) :
  Calls Tryz.prog 31 #[.slice a len cap] w fun e w' => ∃ b, e = .returned (.slice (some ⟨b, 0, none⟩) len len) ∧ FRow w' (some ⟨b, 0, none⟩) len F ∧ w.heap.size ≤ b ∧ Below w.heap.size w w' :=
 (toFactS_row a len cap F w h hl hc).mono (by rintro e w' ⟨b, rfl, h1, h2, h3⟩; exact ⟨b, rfl, ⟨b, rfl, h1⟩, h2, h3⟩)
theorem szInts_any (a : Option Addr) (len cap : Nat) (left : Int) (w : World) (h0 : 0 ≤ left) (h1 : left ≤ 1048576) (hl : len ≤ maxLen) :
  Calls Tryz.prog 138 #[.slice a len cap, .int .i64 left] w fun e w' => e = .returned (.int .i64 (if left < (len : Int) then -1 else left - len)) ∧ w' = w := by
 unfold maxLen at hl
 go_enter Tryz.func138, Tryz.ntmps138
 go_wp2
 all_goals (go_ret; exact ⟨ret_int (by first | rfl | (split <;> omega)), rfl⟩)
theorem toCoordB_any (x y h e : Int) (w : World) :
  Calls Tryz.prog 35 #[.agg #[.int .i64 x, .int .i64 y, .int .i64 h, .int .i64 e]] w fun r w' => r = .returned (.agg #[.int .i64 x, .int .i64 y, .int .i64 h, .int .i64 e]) ∧ Below w.heap.size w w' :=
 (toCoord_any x y h e w).mono (by rintro r w' ⟨rfl, o1, o2, o3, rfl⟩; exact ⟨rfl, balloc _ (balloc _ (balloc _ (Below.refl _ _)))⟩)
theorem Dtto_any (n i s : Int) (ba : Option Addr) (bl bc : Nat) (bf : Nat → Int) (w : World) (hB : ISl w ba bl bf) (hbl : bl ≤ 1048576) (hc : bl ≤ bc) :
  Calls Tryz.prog 95 #[.agg #[.int .i64 n, .int .i64 i, .int .i64 s, .slice ba bl bc]] w fun r w' => ∃ bb, r = .returned (.agg #[.int .i64 n, .int .i64 i, .int .i64 s, .slice (some ⟨bb, 0, none⟩) bl bl]) ∧ IRow w' (some ⟨bb, 0, none⟩) bl bf ∧ w.heap.size ≤ bb ∧ Below w.heap.size w w' := by
 go_enter Tryz.func95, Tryz.ntmps95
 have hs1 : (w.alloc (.cells #[.int .i64 n, .int .i64 i, .int .i64 s, .slice ba bl bc] 109)).heap.size = w.heap.size + 1 := by simp [go_sem]
 have hs2 : ((w.alloc (.cells #[.int .i64 n, .int .i64 i, .int .i64 s, .slice ba bl bc] 109)).alloc (.cells #[.int .i64 0, .int .i64 0, .int .i64 0, .slice none 0 0] 121)).heap.size = w.heap.size + 1 + 1 := by simp [go_sem]
 have X := ((Ws.box (w := w) #[.int .i64 n, .int .i64 i, .int .i64 s, .slice ba bl bc] 109).alloc (.cells #[.int .i64 0, .int .i64 0, .int .i64 0, .slice none 0 0] 121)).alloc (.cells #[.int .i64 0, .int .i64 0, .int .i64 0, .slice none 0 0] 121)
 have R := (Ws.box (w := w.alloc (.cells #[.int .i64 n, .int .i64 i, .int .i64 s, .slice ba bl bc] 109)) #[.int .i64 0, .int .i64 0, .int .i64 0, .slice none 0 0] 121).alloc (.cells #[.int .i64 0, .int .i64 0, .int .i64 0, .slice none 0 0] 121)
 have Y := Ws.box (w := (w.alloc (.cells #[.int .i64 n, .int .i64 i, .int .i64 s, .slice ba bl bc] 109)).alloc (.cells #[.int .i64 0, .int .i64 0, .int .i64 0, .slice none 0 0] 121)) #[.int .i64 0, .int .i64 0, .int .i64 0, .slice none 0 0] 121
 rw [hs1] at R
 rw [hs2] at Y
 have b0 := balloc (.cells #[.int .i64 0, .int .i64 0, .int .i64 0, .slice none 0 0] 121) (balloc (.cells #[.int .i64 0, .int .i64 0, .int .i64 0, .slice none 0 0] 121) (balloc (.cells #[.int .i64 n, .int .i64 i, .int .i64 s, .slice ba bl bc] 109) (Below.refl w.heap.size w)))
 clear hs1 hs2
 go_upto_region 2 with fail
 generalize ((w.alloc (.cells #[.int .i64 n, .int .i64 i, .int .i64 s, .slice ba bl bc] 109)).alloc (.cells #[.int .i64 0, .int .i64 0, .int .i64 0, .slice none 0 0] 121)).alloc (.cells #[.int .i64 0, .int .i64 0, .int .i64 0, .slice none 0 0] 121) = u at *
 have n1 : w.heap.size ≠ w.heap.size + 1 + 1 := by omega
 have n2 : w.heap.size + 1 ≠ w.heap.size + 1 + 1 := by omega
 have g1 : w.heap.size ≤ w.heap.size + 1 := by omega
 have g2 : w.heap.size ≤ w.heap.size + 1 + 1 := by omega
 generalize w.heap.size + 1 + 1 = KO at *
 generalize w.heap.size + 1 = KR at *
 have dx := X.c 0 (.int .i64 n) rfl
 have yy0 := Y.c 0 (.int .i64 0) rfl
 have zz0 := Y.z 0
 go_upto_region 3 with fail
 have X' := (X.far (k := 0) (v := .int .i64 n) n1)
 have R' := (R.far (k := 0) (v := .int .i64 n) n2)
 have Y' : Ws _ KO [.int .i64 n, .int .i64 0, .int .i64 0, .slice none 0 0] := (Y.set 0 (by simp) (.int .i64 n))
 have b0' := (b0.setCell (p := ⟨KO, 0, none⟩) g2 (.int .i64 n))
 clear dx yy0 zz0
 clear X R Y b0
 generalize (u.setCell ⟨KO, 0, none⟩ (.int .i64 n)) = u1 at *
 have X := X'
 have R := R'
 have Y := Y'
 have b0 := b0'
 clear X' R' Y' b0'
 have dx := X.c 1 (.int .i64 i) rfl
 have yy1 := Y.c 1 (.int .i64 0) rfl
 have zz1 := Y.z 1
 go_upto_region 4 with fail
 have X' := (X.far (k := 1) (v := .int .i64 i) n1)
 have R' := (R.far (k := 1) (v := .int .i64 i) n2)
 have Y' : Ws _ KO [.int .i64 n, .int .i64 i, .int .i64 0, .slice none 0 0] := (Y.set 1 (by simp) (.int .i64 i))
 have b0' := (b0.setCell (p := ⟨KO, 1, none⟩) g2 (.int .i64 i))
 clear dx yy1 zz1
 clear X R Y b0
 generalize (u1.setCell ⟨KO, 1, none⟩ (.int .i64 i)) = u2 at *
 have X := X'
 have R := R'
 have Y := Y'
 have b0 := b0'
 clear X' R' Y' b0'
 have dx := X.c 2 (.int .i64 s) rfl
 have yy2 := Y.c 2 (.int .i64 0) rfl
 have zz2 := Y.z 2
 go_upto_region 5 with fail
 have X' := (X.far (k := 2) (v := .int .i64 s) n1)
 have R' := (R.far (k := 2) (v := .int .i64 s) n2)
 have Y' : Ws _ KO [.int .i64 n, .int .i64 i, .int .i64 s, .slice none 0 0] := (Y.set 2 (by simp) (.int .i64 s))
 have b0' := (b0.setCell (p := ⟨KO, 2, none⟩) g2 (.int .i64 s))
 clear dx yy2 zz2
 clear X R Y b0
 generalize (u2.setCell ⟨KO, 2, none⟩ (.int .i64 s)) = u3 at *
 have X := X'
 have R := R'
 have Y := Y'
 have b0 := b0'
 clear X' R' Y' b0'
 have dx := X.c 3 (.slice ba bl bc) rfl
 go_wp2_with fail
 refine (toInts_any ba bl bc bf _ (hB.below b0) hbl hc).mono ?_
 rintro r w2 ⟨bb, rfl, hI, hbb, k2⟩
 have X' := X.below k2
 have R' := R.below k2
 have Y' := Y.below k2
 have b0' := btrans b0 k2
 have hO := Nat.ne_of_lt (Nat.lt_of_lt_of_le Y.lt hbb)
 have hR := Nat.ne_of_lt (Nat.lt_of_lt_of_le R.lt hbb)
 have hbb2 : w.heap.size ≤ bb := by have := b0.size; omega
 clear X R Y b0 k2 dx
 have X := X'
 have R := R'
 have Y := Y'
 have b0 := b0'
 clear X' R' Y' b0'
 have yy3 := Y.c 3 (.slice none 0 0) rfl
 have zz3 := Y.z 3
 go_upto_region 6 with fail
 have X' := (X.far (k := 3) (v := .slice (some ⟨bb, 0, none⟩) bl bl) n1)
 have R' := (R.far (k := 3) (v := .slice (some ⟨bb, 0, none⟩) bl bl) n2)
 have Y' : Ws _ KO [.int .i64 n, .int .i64 i, .int .i64 s, .slice (some ⟨bb, 0, none⟩) bl bl] := (Y.set 3 (by simp) (.slice (some ⟨bb, 0, none⟩) bl bl))
 have b0' := (b0.setCell (p := ⟨KO, 3, none⟩) g2 (.slice (some ⟨bb, 0, none⟩) bl bl))
 have hI' := hI.far (b' := KO) (k := 3) (v := .slice (some ⟨bb, 0, none⟩) bl bl) hO.symm
 clear yy3 zz3 hI
 clear X R Y b0
 generalize (w2.setCell ⟨KO, 3, none⟩ (.slice (some ⟨bb, 0, none⟩) bl bl)) = u4 at *
 have X := X'
 have R := R'
 have Y := Y'
 have b0 := b0'
 clear X' R' Y' b0'
 have hI := hI'
 clear hI'
 have y0 := Y.c 0 (.int .i64 n) rfl
 have r0 := R.c 0 (.int .i64 0) rfl
 have z0 := R.z 0
 have y1 := Y.c 1 (.int .i64 i) rfl
 have r1 := R.c 1 (.int .i64 0) rfl
 have z1 := R.z 1
 have y2 := Y.c 2 (.int .i64 s) rfl
 have r2 := R.c 2 (.int .i64 0) rfl
 have z2 := R.z 2
 have y3 := Y.c 3 (.slice (some ⟨bb, 0, none⟩) bl bl) rfl
 have r3 := R.c 3 (.slice none 0 0) rfl
 have z3 := R.z 3
 go_wp2
 have R2 : Ws _ KR [.int .i64 n, .int .i64 i, .int .i64 s, .slice (some ⟨bb, 0, none⟩) bl bl] := ((((R.set 0 (by simp) (.int .i64 n)).set 1 (by simp) (.int .i64 i)).set 2 (by simp) (.int .i64 s)).set 3 (by simp) (.slice (some ⟨bb, 0, none⟩) bl bl))
 refine bodyPost_ret (v := .agg #[.int .i64 n, .int .i64 i, .int .i64 s, .slice (some ⟨bb, 0, none⟩) bl bl]) (by simp [results, Tryz.results95, go_sem, R2.c 0 (.int .i64 n) rfl, R2.c 1 (.int .i64 i) rfl, R2.c 2 (.int .i64 s) rfl, R2.c 3 (.slice (some ⟨bb, 0, none⟩) bl bl) rfl]) rfl ⟨bb, rfl, ((((hI.far (b' := KR) (k := 0) (v := .int .i64 n) hR.symm).far (b' := KR) (k := 1) (v := .int .i64 i) hR.symm).far (b' := KR) (k := 2) (v := .int .i64 s) hR.symm).far (b' := KR) (k := 3) (v := .slice (some ⟨bb, 0, none⟩) bl bl) hR.symm), hbb2, ((((b0.setCell (p := ⟨KR, 0, none⟩) g1 (.int .i64 n)).setCell (p := ⟨KR, 1, none⟩) g1 (.int .i64 i)).setCell (p := ⟨KR, 2, none⟩) g1 (.int .i64 s)).setCell (p := ⟨KR, 3, none⟩) g1 (.slice (some ⟨bb, 0, none⟩) bl bl))⟩
theorem Plto_any (n x y h e : Int) (ba : Option Addr) (bl bc : Nat) (bf : Nat → Int) (w : World) (hB : ISl w ba bl bf) (hbl : bl ≤ 1048576) (hc : bl ≤ bc) :
  Calls Tryz.prog 96 #[.agg #[.int .i64 n, .int .i64 x, .int .i64 y, .int .i64 h, .int .i64 e, .slice ba bl bc]] w fun r w' => ∃ bb, r = .returned (.agg #[.int .i64 n, .int .i64 x, .int .i64 y, .int .i64 h, .int .i64 e, .slice (some ⟨bb, 0, none⟩) bl bl]) ∧ IRow w' (some ⟨bb, 0, none⟩) bl bf ∧ w.heap.size ≤ bb ∧ Below w.heap.size w w' := by
 go_enter Tryz.func96, Tryz.ntmps96
 have hs1 : (w.alloc (.cells #[.int .i64 n, .int .i64 x, .int .i64 y, .int .i64 h, .int .i64 e, .slice ba bl bc] 112)).heap.size = w.heap.size + 1 := by simp [go_sem]
 have hs2 : ((w.alloc (.cells #[.int .i64 n, .int .i64 x, .int .i64 y, .int .i64 h, .int .i64 e, .slice ba bl bc] 112)).alloc (.cells #[.int .i64 0, .int .i64 0, .int .i64 0, .int .i64 0, .int .i64 0, .slice none 0 0] 103)).heap.size = w.heap.size + 1 + 1 := by simp [go_sem]
 have X := ((Ws.box (w := w) #[.int .i64 n, .int .i64 x, .int .i64 y, .int .i64 h, .int .i64 e, .slice ba bl bc] 112).alloc (.cells #[.int .i64 0, .int .i64 0, .int .i64 0, .int .i64 0, .int .i64 0, .slice none 0 0] 103)).alloc (.cells #[.int .i64 0, .int .i64 0, .int .i64 0, .int .i64 0, .int .i64 0, .slice none 0 0] 103)
 have R := (Ws.box (w := w.alloc (.cells #[.int .i64 n, .int .i64 x, .int .i64 y, .int .i64 h, .int .i64 e, .slice ba bl bc] 112)) #[.int .i64 0, .int .i64 0, .int .i64 0, .int .i64 0, .int .i64 0, .slice none 0 0] 103).alloc (.cells #[.int .i64 0, .int .i64 0, .int .i64 0, .int .i64 0, .int .i64 0, .slice none 0 0] 103)
 have Y := Ws.box (w := (w.alloc (.cells #[.int .i64 n, .int .i64 x, .int .i64 y, .int .i64 h, .int .i64 e, .slice ba bl bc] 112)).alloc (.cells #[.int .i64 0, .int .i64 0, .int .i64 0, .int .i64 0, .int .i64 0, .slice none 0 0] 103)) #[.int .i64 0, .int .i64 0, .int .i64 0, .int .i64 0, .int .i64 0, .slice none 0 0] 103
 rw [hs1] at R
 rw [hs2] at Y
 have b0 := balloc (.cells #[.int .i64 0, .int .i64 0, .int .i64 0, .int .i64 0, .int .i64 0, .slice none 0 0] 103) (balloc (.cells #[.int .i64 0, .int .i64 0, .int .i64 0, .int .i64 0, .int .i64 0, .slice none 0 0] 103) (balloc (.cells #[.int .i64 n, .int .i64 x, .int .i64 y, .int .i64 h, .int .i64 e, .slice ba bl bc] 112) (Below.refl w.heap.size w)))
 clear hs1 hs2
 go_upto_region 2 with fail
 generalize ((w.alloc (.cells #[.int .i64 n, .int .i64 x, .int .i64 y, .int .i64 h, .int .i64 e, .slice ba bl bc] 112)).alloc (.cells #[.int .i64 0, .int .i64 0, .int .i64 0, .int .i64 0, .int .i64 0, .slice none 0 0] 103)).alloc (.cells #[.int .i64 0, .int .i64 0, .int .i64 0, .int .i64 0, .int .i64 0, .slice none 0 0] 103) = u at *
 have n1 : w.heap.size ≠ w.heap.size + 1 + 1 := by omega
 have n2 : w.heap.size + 1 ≠ w.heap.size + 1 + 1 := by omega
 have g1 : w.heap.size ≤ w.heap.size + 1 := by omega
 have g2 : w.heap.size ≤ w.heap.size + 1 + 1 := by omega
 generalize w.heap.size + 1 + 1 = KO at *
 generalize w.heap.size + 1 = KR at *
 have dx := X.c 0 (.int .i64 n) rfl
 have yy0 := Y.c 0 (.int .i64 0) rfl
 have zz0 := Y.z 0
 go_upto_region 3 with fail
 have X' := (X.far (k := 0) (v := .int .i64 n) n1)
 have R' := (R.far (k := 0) (v := .int .i64 n) n2)
 have Y' : Ws _ KO [.int .i64 n, .int .i64 0, .int .i64 0, .int .i64 0, .int .i64 0, .slice none 0 0] := (Y.set 0 (by simp) (.int .i64 n))
 have b0' := (b0.setCell (p := ⟨KO, 0, none⟩) g2 (.int .i64 n))
 clear dx yy0 zz0
 clear X R Y b0
 generalize (u.setCell ⟨KO, 0, none⟩ (.int .i64 n)) = u1 at *
 have X := X'
 have R := R'
 have Y := Y'
 have b0 := b0'
 clear X' R' Y' b0'
 have dx1 := X.c 1 (.int .i64 x) rfl
 have dx2 := X.c 2 (.int .i64 y) rfl
 have dx3 := X.c 3 (.int .i64 h) rfl
 have dx4 := X.c 4 (.int .i64 e) rfl
 go_wp2_with fail
 refine (toCoordB_any x y h e _).mono ?_
 rintro r w1 ⟨rfl, k1⟩
 clear dx1 dx2 dx3 dx4
 have X' := X.below k1
 have R' := R.below k1
 have Y' := Y.below k1
 have b0' := btrans b0 k1
 clear X R Y b0 k1
 have X := X'
 have R := R'
 have Y := Y'
 have b0 := b0'
 clear X' R' Y' b0'
 have yy1 := Y.c 1 (.int .i64 0) rfl
 have zz1 := Y.z 1
 have yy2 := Y.c 2 (.int .i64 0) rfl
 have zz2 := Y.z 2
 have yy3 := Y.c 3 (.int .i64 0) rfl
 have zz3 := Y.z 3
 have yy4 := Y.c 4 (.int .i64 0) rfl
 have zz4 := Y.z 4
 go_upto_region 4 with fail
 have X' := ((((X.far (k := 1) (v := .int .i64 x) n1).far (k := 2) (v := .int .i64 y) n1).far (k := 3) (v := .int .i64 h) n1).far (k := 4) (v := .int .i64 e) n1)
 have R' := ((((R.far (k := 1) (v := .int .i64 x) n2).far (k := 2) (v := .int .i64 y) n2).far (k := 3) (v := .int .i64 h) n2).far (k := 4) (v := .int .i64 e) n2)
 have Y' : Ws _ KO [.int .i64 n, .int .i64 x, .int .i64 y, .int .i64 h, .int .i64 e, .slice none 0 0] := ((((Y.set 1 (by simp) (.int .i64 x)).set 2 (by simp) (.int .i64 y)).set 3 (by simp) (.int .i64 h)).set 4 (by simp) (.int .i64 e))
 have b0' := ((((b0.setCell (p := ⟨KO, 1, none⟩) g2 (.int .i64 x)).setCell (p := ⟨KO, 2, none⟩) g2 (.int .i64 y)).setCell (p := ⟨KO, 3, none⟩) g2 (.int .i64 h)).setCell (p := ⟨KO, 4, none⟩) g2 (.int .i64 e))
 clear yy1 zz1 yy2 zz2 yy3 zz3 yy4 zz4
 clear X R Y b0
 generalize ((((w1.setCell ⟨KO, 1, none⟩ (.int .i64 x)).setCell ⟨KO, 2, none⟩ (.int .i64 y)).setCell ⟨KO, 3, none⟩ (.int .i64 h)).setCell ⟨KO, 4, none⟩ (.int .i64 e)) = u2 at *
 have X := X'
 have R := R'
 have Y := Y'
 have b0 := b0'
 clear X' R' Y' b0'
 have dx := X.c 5 (.slice ba bl bc) rfl
 go_wp2_with fail
 refine (toInts_any ba bl bc bf _ (hB.below b0) hbl hc).mono ?_
 rintro r w2 ⟨bb, rfl, hI, hbb, k2⟩
 have X' := X.below k2
 have R' := R.below k2
 have Y' := Y.below k2
 have b0' := btrans b0 k2
 have hO := Nat.ne_of_lt (Nat.lt_of_lt_of_le Y.lt hbb)
 have hR := Nat.ne_of_lt (Nat.lt_of_lt_of_le R.lt hbb)
 have hbb2 : w.heap.size ≤ bb := by have := b0.size; omega
 clear X R Y b0 k2 dx
 have X := X'
 have R := R'
 have Y := Y'
 have b0 := b0'
 clear X' R' Y' b0'
 have yy5 := Y.c 5 (.slice none 0 0) rfl
 have zz5 := Y.z 5
 go_upto_region 5 with fail
 have X' := (X.far (k := 5) (v := .slice (some ⟨bb, 0, none⟩) bl bl) n1)
 have R' := (R.far (k := 5) (v := .slice (some ⟨bb, 0, none⟩) bl bl) n2)
 have Y' : Ws _ KO [.int .i64 n, .int .i64 x, .int .i64 y, .int .i64 h, .int .i64 e, .slice (some ⟨bb, 0, none⟩) bl bl] := (Y.set 5 (by simp) (.slice (some ⟨bb, 0, none⟩) bl bl))
 have b0' := (b0.setCell (p := ⟨KO, 5, none⟩) g2 (.slice (some ⟨bb, 0, none⟩) bl bl))
 have hI' := hI.far (b' := KO) (k := 5) (v := .slice (some ⟨bb, 0, none⟩) bl bl) hO.symm
 clear yy5 zz5 hI
 clear X R Y b0
 generalize (w2.setCell ⟨KO, 5, none⟩ (.slice (some ⟨bb, 0, none⟩) bl bl)) = u3 at *
 have X := X'
 have R := R'
 have Y := Y'
 have b0 := b0'
 clear X' R' Y' b0'
 have hI := hI'
 clear hI'
 have y0 := Y.c 0 (.int .i64 n) rfl
 have r0 := R.c 0 (.int .i64 0) rfl
 have z0 := R.z 0
 have y1 := Y.c 1 (.int .i64 x) rfl
 have r1 := R.c 1 (.int .i64 0) rfl
 have z1 := R.z 1
 have y2 := Y.c 2 (.int .i64 y) rfl
 have r2 := R.c 2 (.int .i64 0) rfl
 have z2 := R.z 2
 have y3 := Y.c 3 (.int .i64 h) rfl
 have r3 := R.c 3 (.int .i64 0) rfl
 have z3 := R.z 3
 have y4 := Y.c 4 (.int .i64 e) rfl
 have r4 := R.c 4 (.int .i64 0) rfl
 have z4 := R.z 4
 have y5 := Y.c 5 (.slice (some ⟨bb, 0, none⟩) bl bl) rfl
 have r5 := R.c 5 (.slice none 0 0) rfl
 have z5 := R.z 5
 go_wp2
 have R2 : Ws _ KR [.int .i64 n, .int .i64 x, .int .i64 y, .int .i64 h, .int .i64 e, .slice (some ⟨bb, 0, none⟩) bl bl] := ((((((R.set 0 (by simp) (.int .i64 n)).set 1 (by simp) (.int .i64 x)).set 2 (by simp) (.int .i64 y)).set 3 (by simp) (.int .i64 h)).set 4 (by simp) (.int .i64 e)).set 5 (by simp) (.slice (some ⟨bb, 0, none⟩) bl bl))
 refine bodyPost_ret (v := .agg #[.int .i64 n, .int .i64 x, .int .i64 y, .int .i64 h, .int .i64 e, .slice (some ⟨bb, 0, none⟩) bl bl]) (by simp [results, Tryz.results96, go_sem, R2.c 0 (.int .i64 n) rfl, R2.c 1 (.int .i64 x) rfl, R2.c 2 (.int .i64 y) rfl, R2.c 3 (.int .i64 h) rfl, R2.c 4 (.int .i64 e) rfl, R2.c 5 (.slice (some ⟨bb, 0, none⟩) bl bl) rfl]) rfl ⟨bb, rfl, ((((((hI.far (b' := KR) (k := 0) (v := .int .i64 n) hR.symm).far (b' := KR) (k := 1) (v := .int .i64 x) hR.symm).far (b' := KR) (k := 2) (v := .int .i64 y) hR.symm).far (b' := KR) (k := 3) (v := .int .i64 h) hR.symm).far (b' := KR) (k := 4) (v := .int .i64 e) hR.symm).far (b' := KR) (k := 5) (v := .slice (some ⟨bb, 0, none⟩) bl bl) hR.symm), hbb2, ((((((b0.setCell (p := ⟨KR, 0, none⟩) g1 (.int .i64 n)).setCell (p := ⟨KR, 1, none⟩) g1 (.int .i64 x)).setCell (p := ⟨KR, 2, none⟩) g1 (.int .i64 y)).setCell (p := ⟨KR, 3, none⟩) g1 (.int .i64 h)).setCell (p := ⟨KR, 4, none⟩) g1 (.int .i64 e)).setCell (p := ⟨KR, 5, none⟩) g1 (.slice (some ⟨bb, 0, none⟩) bl bl))⟩
theorem Fgto_any (n : Int) (ba : Option Addr) (bl bc : Nat) (bf : Nat → Fc) (w : World) (hB : FSl w ba bl bf) (hbl : bl ≤ 1048576) (hc : bl ≤ bc) :
  Calls Tryz.prog 97 #[.agg #[.int .i64 n, .slice ba bl bc]] w fun r w' => ∃ bb, r = .returned (.agg #[.int .i64 n, .slice (some ⟨bb, 0, none⟩) bl bl]) ∧ FRow w' (some ⟨bb, 0, none⟩) bl bf ∧ w.heap.size ≤ bb ∧ Below w.heap.size w w' := by
 go_enter Tryz.func97, Tryz.ntmps97
 have hs1 : (w.alloc (.cells #[.int .i64 n, .slice ba bl bc] 115)).heap.size = w.heap.size + 1 := by simp [go_sem]
 have hs2 : ((w.alloc (.cells #[.int .i64 n, .slice ba bl bc] 115)).alloc (.cells #[.int .i64 0, .slice none 0 0] 123)).heap.size = w.heap.size + 1 + 1 := by simp [go_sem]
 have X := ((Ws.box (w := w) #[.int .i64 n, .slice ba bl bc] 115).alloc (.cells #[.int .i64 0, .slice none 0 0] 123)).alloc (.cells #[.int .i64 0, .slice none 0 0] 123)
 have R := (Ws.box (w := w.alloc (.cells #[.int .i64 n, .slice ba bl bc] 115)) #[.int .i64 0, .slice none 0 0] 123).alloc (.cells #[.int .i64 0, .slice none 0 0] 123)
 have Y := Ws.box (w := (w.alloc (.cells #[.int .i64 n, .slice ba bl bc] 115)).alloc (.cells #[.int .i64 0, .slice none 0 0] 123)) #[.int .i64 0, .slice none 0 0] 123
 rw [hs1] at R
 rw [hs2] at Y
 have b0 := balloc (.cells #[.int .i64 0, .slice none 0 0] 123) (balloc (.cells #[.int .i64 0, .slice none 0 0] 123) (balloc (.cells #[.int .i64 n, .slice ba bl bc] 115) (Below.refl w.heap.size w)))
 clear hs1 hs2
 go_upto_region 2 with fail
 generalize ((w.alloc (.cells #[.int .i64 n, .slice ba bl bc] 115)).alloc (.cells #[.int .i64 0, .slice none 0 0] 123)).alloc (.cells #[.int .i64 0, .slice none 0 0] 123) = u at *
 have n1 : w.heap.size ≠ w.heap.size + 1 + 1 := by omega
 have n2 : w.heap.size + 1 ≠ w.heap.size + 1 + 1 := by omega
 have g1 : w.heap.size ≤ w.heap.size + 1 := by omega
 have g2 : w.heap.size ≤ w.heap.size + 1 + 1 := by omega
 generalize w.heap.size + 1 + 1 = KO at *
 generalize w.heap.size + 1 = KR at *
 have dx := X.c 0 (.int .i64 n) rfl
 have yy0 := Y.c 0 (.int .i64 0) rfl
 have zz0 := Y.z 0
 go_upto_region 3 with fail
 have X' := (X.far (k := 0) (v := .int .i64 n) n1)
 have R' := (R.far (k := 0) (v := .int .i64 n) n2)
 have Y' : Ws _ KO [.int .i64 n, .slice none 0 0] := (Y.set 0 (by simp) (.int .i64 n))
 have b0' := (b0.setCell (p := ⟨KO, 0, none⟩) g2 (.int .i64 n))
 clear dx yy0 zz0
 clear X R Y b0
 generalize (u.setCell ⟨KO, 0, none⟩ (.int .i64 n)) = u1 at *
 have X := X'
 have R := R'
 have Y := Y'
 have b0 := b0'
 clear X' R' Y' b0'
 have dx := X.c 1 (.slice ba bl bc) rfl
 go_wp2_with fail
 refine (toFactsR_any ba bl bc bf _ (hB.below b0) hbl hc).mono ?_
 rintro r w2 ⟨bb, rfl, hI, hbb, k2⟩
 have X' := X.below k2
 have R' := R.below k2
 have Y' := Y.below k2
 have b0' := btrans b0 k2
 have hO := Nat.ne_of_lt (Nat.lt_of_lt_of_le Y.lt hbb)
 have hR := Nat.ne_of_lt (Nat.lt_of_lt_of_le R.lt hbb)
 have hbb2 : w.heap.size ≤ bb := by have := b0.size; omega
 clear X R Y b0 k2 dx
 have X := X'
 have R := R'
 have Y := Y'
 have b0 := b0'
 clear X' R' Y' b0'
 have yy1 := Y.c 1 (.slice none 0 0) rfl
 have zz1 := Y.z 1
 go_upto_region 4 with fail
 have X' := (X.far (k := 1) (v := .slice (some ⟨bb, 0, none⟩) bl bl) n1)
 have R' := (R.far (k := 1) (v := .slice (some ⟨bb, 0, none⟩) bl bl) n2)
 have Y' : Ws _ KO [.int .i64 n, .slice (some ⟨bb, 0, none⟩) bl bl] := (Y.set 1 (by simp) (.slice (some ⟨bb, 0, none⟩) bl bl))
 have b0' := (b0.setCell (p := ⟨KO, 1, none⟩) g2 (.slice (some ⟨bb, 0, none⟩) bl bl))
 have hI' := hI.far (b' := KO) (k := 1) (v := .slice (some ⟨bb, 0, none⟩) bl bl) hO.symm
 clear yy1 zz1 hI
 clear X R Y b0
 generalize (w2.setCell ⟨KO, 1, none⟩ (.slice (some ⟨bb, 0, none⟩) bl bl)) = u2 at *
 have X := X'
 have R := R'
 have Y := Y'
 have b0 := b0'
 clear X' R' Y' b0'
 have hI := hI'
 clear hI'
 have y0 := Y.c 0 (.int .i64 n) rfl
 have r0 := R.c 0 (.int .i64 0) rfl
 have z0 := R.z 0
 have y1 := Y.c 1 (.slice (some ⟨bb, 0, none⟩) bl bl) rfl
 have r1 := R.c 1 (.slice none 0 0) rfl
 have z1 := R.z 1
 go_wp2
 have R2 : Ws _ KR [.int .i64 n, .slice (some ⟨bb, 0, none⟩) bl bl] := ((R.set 0 (by simp) (.int .i64 n)).set 1 (by simp) (.slice (some ⟨bb, 0, none⟩) bl bl))
 refine bodyPost_ret (v := .agg #[.int .i64 n, .slice (some ⟨bb, 0, none⟩) bl bl]) (by simp [results, Tryz.results97, go_sem, R2.c 0 (.int .i64 n) rfl, R2.c 1 (.slice (some ⟨bb, 0, none⟩) bl bl) rfl]) rfl ⟨bb, rfl, ((hI.far (b' := KR) (k := 0) (v := .int .i64 n) hR.symm).far (b' := KR) (k := 1) (v := .slice (some ⟨bb, 0, none⟩) bl bl) hR.symm), hbb2, ((b0.setCell (p := ⟨KR, 0, none⟩) g1 (.int .i64 n)).setCell (p := ⟨KR, 1, none⟩) g1 (.slice (some ⟨bb, 0, none⟩) bl bl))⟩
end Go.Proofs.YtgcdcfjaeehnbaaGreat
