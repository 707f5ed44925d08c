/- Nodes: copies of nodes. -/
import Derived.Test.YtgcdcfjaeehnbaaGreatNd20
import Derived.Test.YtgcdcfjaeehnbaaGreatNd22
namespace Go.Proofs.YtgcdcfjaeehnbaaGreat
open Go.ChangeShapes Go.WideShapes Go.ChangeAt Go.RowKit
set_option maxRecDepth 20000
set_option maxHeartbeats 8000000
attribute [local go_sem ↓] Go.wp_at_zero Go.wp_at_succ
theorem toProbe_any (a b c : Int) (d : Bool) (w : World) :
  Calls Tryz.prog 33 #[.agg #[.int .i64 a, .int .i64 b, .int .i64 c, .bool d]] w fun r w' => r = .returned (.agg #[.int .i64 a, .int .i64 b, .int .i64 c, .bool d]) ∧ Below w.heap.size w w' := by
 go_enter Tryz.func33, Tryz.ntmps33
 go_wp2
 refine bodyPost_ret (v := .agg #[.int .i64 a, .int .i64 b, .int .i64 c, .bool d]) (by simp [results, Tryz.results33, go_sem]) rfl ⟨rfl, ?_⟩
 repeat (first | exact Below.refl _ _ | refine balloc _ ?_ | refine Below.setCell ?_ (by simp; try omega) _)
structure But2 (c d : Nat) (w w' : World) : Prop where
 size : w.heap.size ≤ w'.heap.size
 block : ∀ i, i < w.heap.size → i ≠ c → i ≠ d → w'.heap[i]? = w.heap[i]?
theorem But2.of_below {c d : Nat} {w w' : World} (h : Below w.heap.size w w') : But2 c d w w' := ⟨h.size, fun i hi _ _ => h.block i hi⟩
theorem But2.set {c d k : Nat} {w : World} (v : Value) : But2 c d w (w.setCell ⟨c, k, none⟩ v) := ⟨by simp [World.setCell], fun i _ h1 _ => heap_setCell_other w ⟨c, k, none⟩ i v (by simpa using h1)⟩
theorem But2.trans {c d : Nat} {w w' w'' : World} (h : But2 c d w w') (h' : But2 c d w' w'') : But2 c d w w'' := ⟨Nat.le_trans h.size h'.size, fun i hi h1 h2 => (h'.block i (Nat.lt_of_lt_of_le hi h.size) h1 h2).trans (h.block i hi h1 h2)⟩
theorem But2.cells {c d o : Nat} {w : World} (vs : List Value) : But2 c d w (w.setCells d o vs) := by
 refine ⟨?_, fun i hi _ h2 => ?_⟩
 ·induction vs generalizing w o with
  | nil => exact Nat.le_refl _
  | cons v vs ih => exact Nat.le_trans (by simp [World.setCell]) (ih (w := w.setCell ⟨d, o, none⟩ v) (o := o + 1))
 ·induction vs generalizing w o with
  | nil => rfl
  | cons v vs ih => exact (ih (w := w.setCell ⟨d, o, none⟩ v) (o := o + 1) (by simpa [World.setCell] using hi)).trans (heap_setCell_other w ⟨d, o, none⟩ i v (by simpa using h2))
theorem below_cells {B : Nat} {w : World} (b : Nat) : ∀ (vs : List Value) (o : Nat) (w' : World), B ≤ b → Below B w w' → Below B w (w'.setCells b o vs)
 | [], _, _, _, h => h
 | v :: vs, o, _, hb, h => below_cells b vs (o + 1) _ hb (h.setCell (p := ⟨b, o, none⟩) hb v)
theorem But2.cell {c d : Nat} {w w' : World} (h : But2 c d w w') {b o : Nat} {v : Value} (hb : b < w.heap.size) (h1 : b ≠ c) (h2 : b ≠ d) (hc : w.cell? ⟨b, o, none⟩ = some v) : w'.cell? ⟨b, o, none⟩ = some v :=
 (World.cell?_of_block (a := ⟨b, o, none⟩) (h.block b hb h1 h2)).trans hc
theorem row_but {c d : Nat} {w w' : World} {b t n : Nat} {f : Nat → Value} (h : w.rowIs b t n f) (k : But2 c d w w') (h1 : b ≠ c) (h2 : b ≠ d) : w'.rowIs b t n f := row_of h (k.block b h.lt h1 h2)
theorem DtOwn.but {c d b : Nat} {w w' : World} {len : Nat} {G : Nat → Dt} (h : DtOwn w b len G) (k : But2 c d w w') (h1 : c ≤ b) (h2 : d ≤ b) : DtOwn w' b len G := fun j hj => by
 obtain ⟨bb, e, hb, b2, e2, hr⟩ := h j hj
 injection e2 with e3
 injection e3 with e3
 subst e3
 exact ⟨bb, e, hb, bb, rfl, row_but hr k (by omega) (by omega)⟩
theorem DtOwn.lt {b : Nat} {w : World} {len : Nat} {G : Nat → Dt} (h : DtOwn w b len G) (j bb : Nat) (hj : j < len) (e : (G j).ba = some ⟨bb, 0, none⟩) : bb < w.heap.size := by
 obtain ⟨bb', e', _, b2, e2, hr⟩ := h j hj
 rw [e] at e'
 injection e' with e'
 injection e' with e'
 injection e2 with e3
 injection e3 with e3
 subst e' e3
 exact hr.lt
theorem PlOwn.but {c d b : Nat} {w w' : World} {len : Nat} {G : Nat → Pl} (h : PlOwn w b len G) (k : But2 c d w w') (h1 : c ≤ b) (h2 : d ≤ b) : PlOwn w' b len G := fun j hj => by
 obtain ⟨bb, e, hb, b2, e2, hr⟩ := h j hj
 injection e2 with e3
 injection e3 with e3
 subst e3
 exact ⟨bb, e, hb, bb, rfl, row_but hr k (by omega) (by omega)⟩
theorem PlOwn.lt {b : Nat} {w : World} {len : Nat} {G : Nat → Pl} (h : PlOwn w b len G) (j bb : Nat) (hj : j < len) (e : (G j).ba = some ⟨bb, 0, none⟩) : bb < w.heap.size := by
 obtain ⟨bb', e', _, b2, e2, hr⟩ := h j hj
 rw [e] at e'
 injection e' with e'
 injection e' with e'
 injection e2 with e3
 injection e3 with e3
 subst e' e3
 exact hr.lt
theorem FgOwn.but {c d b : Nat} {w w' : World} {len : Nat} {G : Nat → Fg} (h : FgOwn w b len G) (k : But2 c d w w') (h1 : c ≤ b) (h2 : d ≤ b) : FgOwn w' b len G := fun j hj => by
 obtain ⟨bb, e, hb, b2, e2, hr⟩ := h j hj
 injection e2 with e3
 injection e3 with e3
 subst e3
 exact ⟨bb, e, hb, bb, rfl, row_but hr k (by omega) (by omega)⟩
theorem FgOwn.lt {b : Nat} {w : World} {len : Nat} {G : Nat → Fg} (h : FgOwn w b len G) (j bb : Nat) (hj : j < len) (e : (G j).ba = some ⟨bb, 0, none⟩) : bb < w.heap.size := by
 obtain ⟨bb', e', _, b2, e2, hr⟩ := h j hj
 rw [e] at e'
 injection e' with e'
 injection e' with e'
 injection e2 with e3
 injection e3 with e3
 subst e' e3
 exact hr.lt
theorem Ws.there {w : World} {b n : Nat} {xs : List Value} (h : Ws w b xs) (hn : xs.length = n) : w.there b 0 n := fun j hj => by
 refine ⟨?_, h.z _⟩
 rw [Nat.zero_add, h.c j xs[j] (List.getElem?_eq_getElem (by omega))]
 rfl
theorem read43 {w : World} {b : Nat} {cs : Array Value} (h : w.rangeAt b 0 cs.toList) (hs : cs.size = 21) : (loadVar 42 ⟨b, 0, none⟩).run Tryz.prog w = .ok (.agg cs) w := by
 obtain ⟨d, hu, hd⟩ := row43
 have hr := run_loadVar_mid (P := Tryz.prog) w b 0 42 cs.toList _ h hu hd (by rw [Array.length_toList, hs]; exact size43)
 rwa [Array.toArray_toList] at hr
structure NdRows (w : World) (lo b1 b2 b3 b4 b5 : Nat) (tl : Nat) (F : Nat → Fc) (cl : Nat) (GI : Nat → It) (dl : Nat) (GD : Nat → Dt) (pll : Nat) (GP : Nat → Pl) (ol : Nat) (GO : Nat → Fg) : Prop where
 f : w.rowIs b1 96 (tl * 4) (fv F)
 i : w.rowIs b2 127 (cl * 5) (tv GI)
 d : w.rowIs b3 121 (dl * 4) (Dtv GD)
 dO : DtOwn w b3 dl GD
 p : w.rowIs b4 103 (pll * 6) (Plv GP)
 pO : PlOwn w b4 pll GP
 o : w.rowIs b5 123 (ol * 2) (Fgv GO)
 oO : FgOwn w b5 ol GO
 lo1 : lo ≤ b1
 o12 : b1 < b2
 o23 : b2 < b3
 o34 : b3 < b4
 m34 : ∀ j bb, j < dl → (GD j).ba = some ⟨bb, 0, none⟩ → bb < b4
 o45 : b4 < b5
 m45 : ∀ j bb, j < pll → (GP j).ba = some ⟨bb, 0, none⟩ → bb < b5
theorem NdRows.below {w w' : World} {lo b1 b2 b3 b4 b5 : Nat} {tl : Nat} {F : Nat → Fc} {cl : Nat} {GI : Nat → It} {dl : Nat} {GD : Nat → Dt} {pll : Nat} {GP : Nat → Pl} {ol : Nat} {GO : Nat → Fg} (h : NdRows w lo b1 b2 b3 b4 b5 tl F cl GI dl GD pll GP ol GO) (hb : Below w.heap.size w w') : NdRows w' lo b1 b2 b3 b4 b5 tl F cl GI dl GD pll GP ol GO :=
 ⟨row_below h.f hb, row_below h.i hb, row_below h.d hb, h.dO.below hb, row_below h.p hb, h.pO.below hb, row_below h.o hb, h.oO.below hb, h.lo1, h.o12, h.o23, h.o34, h.m34, h.o45, h.m45⟩
def ToNdM (w w' : World) (r : Ending) (me : Int) (up gone gate : Bool) (inc now sq turn : Int) (tl : Nat) (F : Nat → Fc) (cl : Nat) (GI : Nat → It) (pn ps pq : Int) (pa : Bool) (dl : Nat) (GD : Nat → Dt) (cx cy ch ce : Int) (pll : Nat) (GP : Nat → Pl) (ol : Nat) (GO : Nat → Fg) : Prop :=
 ∃ b1 b2 b3 b4 b5 GD' GP' GO', r = .returned (.agg #[.int .i64 me, .bool up, .bool gone, .bool gate, .int .i64 inc, .int .i64 now, .int .i64 sq, .int .i64 turn, .slice (some ⟨b1, 0, none⟩) tl tl, .slice (some ⟨b2, 0, none⟩) cl cl, .int .i64 pn, .int .i64 ps, .int .i64 pq, .bool pa, .slice (some ⟨b3, 0, none⟩) dl dl, .int .i64 cx, .int .i64 cy, .int .i64 ch, .int .i64 ce, .slice (some ⟨b4, 0, none⟩) pll pll, .slice (some ⟨b5, 0, none⟩) ol ol]) ∧ NdRows w' w.heap.size b1 b2 b3 b4 b5 tl F cl GI dl GD' pll GP' ol GO' ∧ (∀ j, DtEq (GD' j) (GD j)) ∧ (∀ j, PlEq (GP' j) (GP j)) ∧ (∀ j, FgEq (GO' j) (GO j)) ∧ Below w.heap.size w w'
theorem toNodeM_any (me : Int) (up gone gate : Bool) (inc now sq turn : Int) (ta : Option Addr) (tl tc : Nat) (ca : Option Addr) (cl cc : Nat) (pn ps pq : Int) (pa : Bool) (da : Option Addr) (dl dc : Nat) (cx cy ch ce : Int) (pla : Option Addr) (pll plc : Nat) (oa : Option Addr) (ol oc : Nat) (F : Nat → Fc) (GI : Nat → It) (GD : Nat → Dt) (GP : Nat → Pl) (GO : Nat → Fg) (w : World) (h : NdIn w ta tl F ca cl GI da dl GD pla pll GP oa ol GO) (hct : tl ≤ tc) (hcc : cl ≤ cc) (hcd2 : ∀ j, j < dl → (GD j).bl ≤ (GD j).bc) (hcp2 : ∀ j, j < pll → (GP j).bl ≤ (GP j).bc) (hco2 : ∀ j, j < ol → (GO j).bl ≤ (GO j).bc) :
  Calls Tryz.prog 8 #[.agg #[.int .i64 me, .bool up, .bool gone, .bool gate, .int .i64 inc, .int .i64 now, .int .i64 sq, .int .i64 turn, .slice ta tl tc, .slice ca cl cc, .int .i64 pn, .int .i64 ps, .int .i64 pq, .bool pa, .slice da dl dc, .int .i64 cx, .int .i64 cy, .int .i64 ch, .int .i64 ce, .slice pla pll plc, .slice oa ol oc]] w fun r w' => ToNdM w w' r me up gone gate inc now sq turn tl F cl GI pn ps pq pa dl GD cx cy ch ce pll GP ol GO := by
 go_enter Tryz.func8, Tryz.ntmps8
 have hs1 : (w.alloc (.cells #[.int .i64 me, .bool up, .bool gone, .bool gate, .int .i64 inc, .int .i64 now, .int .i64 sq, .int .i64 turn, .slice ta tl tc, .slice ca cl cc, .int .i64 pn, .int .i64 ps, .int .i64 pq, .bool pa, .slice da dl dc, .int .i64 cx, .int .i64 cy, .int .i64 ch, .int .i64 ce, .slice pla pll plc, .slice oa ol oc] 32)).heap.size = w.heap.size + 1 := by simp [go_sem]
 have hs2 : ((w.alloc (.cells #[.int .i64 me, .bool up, .bool gone, .bool gate, .int .i64 inc, .int .i64 now, .int .i64 sq, .int .i64 turn, .slice ta tl tc, .slice ca cl cc, .int .i64 pn, .int .i64 ps, .int .i64 pq, .bool pa, .slice da dl dc, .int .i64 cx, .int .i64 cy, .int .i64 ch, .int .i64 ce, .slice pla pll plc, .slice oa ol oc] 32)).alloc (.cells #[.int .i64 0, .bool false, .bool false, .bool false, .int .i64 0, .int .i64 0, .int .i64 0, .int .i64 0, .slice none 0 0, .slice none 0 0, .int .i64 0, .int .i64 0, .int .i64 0, .bool false, .slice none 0 0, .int .i64 0, .int .i64 0, .int .i64 0, .int .i64 0, .slice none 0 0, .slice none 0 0] 42)).heap.size = w.heap.size + 1 + 1 := by simp [go_sem]
 have X := ((Ws.box (w := w) #[.int .i64 me, .bool up, .bool gone, .bool gate, .int .i64 inc, .int .i64 now, .int .i64 sq, .int .i64 turn, .slice ta tl tc, .slice ca cl cc, .int .i64 pn, .int .i64 ps, .int .i64 pq, .bool pa, .slice da dl dc, .int .i64 cx, .int .i64 cy, .int .i64 ch, .int .i64 ce, .slice pla pll plc, .slice oa ol oc] 32).alloc (.cells #[.int .i64 0, .bool false, .bool false, .bool false, .int .i64 0, .int .i64 0, .int .i64 0, .int .i64 0, .slice none 0 0, .slice none 0 0, .int .i64 0, .int .i64 0, .int .i64 0, .bool false, .slice none 0 0, .int .i64 0, .int .i64 0, .int .i64 0, .int .i64 0, .slice none 0 0, .slice none 0 0] 42)).alloc (.cells #[.int .i64 0, .bool false, .bool false, .bool false, .int .i64 0, .int .i64 0, .int .i64 0, .int .i64 0, .slice none 0 0, .slice none 0 0, .int .i64 0, .int .i64 0, .int .i64 0, .bool false, .slice none 0 0, .int .i64 0, .int .i64 0, .int .i64 0, .int .i64 0, .slice none 0 0, .slice none 0 0] 42)
 have R := (Ws.box (w := w.alloc (.cells #[.int .i64 me, .bool up, .bool gone, .bool gate, .int .i64 inc, .int .i64 now, .int .i64 sq, .int .i64 turn, .slice ta tl tc, .slice ca cl cc, .int .i64 pn, .int .i64 ps, .int .i64 pq, .bool pa, .slice da dl dc, .int .i64 cx, .int .i64 cy, .int .i64 ch, .int .i64 ce, .slice pla pll plc, .slice oa ol oc] 32)) #[.int .i64 0, .bool false, .bool false, .bool false, .int .i64 0, .int .i64 0, .int .i64 0, .int .i64 0, .slice none 0 0, .slice none 0 0, .int .i64 0, .int .i64 0, .int .i64 0, .bool false, .slice none 0 0, .int .i64 0, .int .i64 0, .int .i64 0, .int .i64 0, .slice none 0 0, .slice none 0 0] 42).alloc (.cells #[.int .i64 0, .bool false, .bool false, .bool false, .int .i64 0, .int .i64 0, .int .i64 0, .int .i64 0, .slice none 0 0, .slice none 0 0, .int .i64 0, .int .i64 0, .int .i64 0, .bool false, .slice none 0 0, .int .i64 0, .int .i64 0, .int .i64 0, .int .i64 0, .slice none 0 0, .slice none 0 0] 42)
 have Y := Ws.box (w := (w.alloc (.cells #[.int .i64 me, .bool up, .bool gone, .bool gate, .int .i64 inc, .int .i64 now, .int .i64 sq, .int .i64 turn, .slice ta tl tc, .slice ca cl cc, .int .i64 pn, .int .i64 ps, .int .i64 pq, .bool pa, .slice da dl dc, .int .i64 cx, .int .i64 cy, .int .i64 ch, .int .i64 ce, .slice pla pll plc, .slice oa ol oc] 32)).alloc (.cells #[.int .i64 0, .bool false, .bool false, .bool false, .int .i64 0, .int .i64 0, .int .i64 0, .int .i64 0, .slice none 0 0, .slice none 0 0, .int .i64 0, .int .i64 0, .int .i64 0, .bool false, .slice none 0 0, .int .i64 0, .int .i64 0, .int .i64 0, .int .i64 0, .slice none 0 0, .slice none 0 0] 42)) #[.int .i64 0, .bool false, .bool false, .bool false, .int .i64 0, .int .i64 0, .int .i64 0, .int .i64 0, .slice none 0 0, .slice none 0 0, .int .i64 0, .int .i64 0, .int .i64 0, .bool false, .slice none 0 0, .int .i64 0, .int .i64 0, .int .i64 0, .int .i64 0, .slice none 0 0, .slice none 0 0] 42
 rw [hs1] at R
 rw [hs2] at Y
 have b0 := balloc (.cells #[.int .i64 0, .bool false, .bool false, .bool false, .int .i64 0, .int .i64 0, .int .i64 0, .int .i64 0, .slice none 0 0, .slice none 0 0, .int .i64 0, .int .i64 0, .int .i64 0, .bool false, .slice none 0 0, .int .i64 0, .int .i64 0, .int .i64 0, .int .i64 0, .slice none 0 0, .slice none 0 0] 42) (balloc (.cells #[.int .i64 0, .bool false, .bool false, .bool false, .int .i64 0, .int .i64 0, .int .i64 0, .int .i64 0, .slice none 0 0, .slice none 0 0, .int .i64 0, .int .i64 0, .int .i64 0, .bool false, .slice none 0 0, .int .i64 0, .int .i64 0, .int .i64 0, .int .i64 0, .slice none 0 0, .slice none 0 0] 42) (balloc (.cells #[.int .i64 me, .bool up, .bool gone, .bool gate, .int .i64 inc, .int .i64 now, .int .i64 sq, .int .i64 turn, .slice ta tl tc, .slice ca cl cc, .int .i64 pn, .int .i64 ps, .int .i64 pq, .bool pa, .slice da dl dc, .int .i64 cx, .int .i64 cy, .int .i64 ch, .int .i64 ce, .slice pla pll plc, .slice oa ol oc] 32) (Below.refl w.heap.size w)))
 clear hs1 hs2
 go_upto_region 2 with fail
 generalize ((w.alloc (.cells #[.int .i64 me, .bool up, .bool gone, .bool gate, .int .i64 inc, .int .i64 now, .int .i64 sq, .int .i64 turn, .slice ta tl tc, .slice ca cl cc, .int .i64 pn, .int .i64 ps, .int .i64 pq, .bool pa, .slice da dl dc, .int .i64 cx, .int .i64 cy, .int .i64 ch, .int .i64 ce, .slice pla pll plc, .slice oa ol oc] 32)).alloc (.cells #[.int .i64 0, .bool false, .bool false, .bool false, .int .i64 0, .int .i64 0, .int .i64 0, .int .i64 0, .slice none 0 0, .slice none 0 0, .int .i64 0, .int .i64 0, .int .i64 0, .bool false, .slice none 0 0, .int .i64 0, .int .i64 0, .int .i64 0, .int .i64 0, .slice none 0 0, .slice none 0 0] 42)).alloc (.cells #[.int .i64 0, .bool false, .bool false, .bool false, .int .i64 0, .int .i64 0, .int .i64 0, .int .i64 0, .slice none 0 0, .slice none 0 0, .int .i64 0, .int .i64 0, .int .i64 0, .bool false, .slice none 0 0, .int .i64 0, .int .i64 0, .int .i64 0, .int .i64 0, .slice none 0 0, .slice none 0 0] 42) = u at *
 have n1 : w.heap.size ≠ w.heap.size + 1 + 1 := by omega
 have n2 : w.heap.size + 1 ≠ w.heap.size + 1 + 1 := by omega
 have n3 : w.heap.size + 1 < w.heap.size + 1 + 1 := by omega
 have g1 : w.heap.size ≤ w.heap.size + 1 := by omega
 have g2 : w.heap.size ≤ w.heap.size + 1 + 1 := by omega
 generalize w.heap.size + 1 + 1 = KO at *
 generalize w.heap.size + 1 = KR at *
 have dx := X.c 0 (.int .i64 me) rfl
 have yy0 := Y.c 0 (.int .i64 0) rfl
 have zz0 := Y.z 0
 go_upto_region 3 with fail
 have X' := (X.far (k := 0) (v := .int .i64 me) n1)
 have R' := (R.far (k := 0) (v := .int .i64 me) n2)
 have Y' : Ws _ KO [.int .i64 me, .bool false, .bool false, .bool false, .int .i64 0, .int .i64 0, .int .i64 0, .int .i64 0, .slice none 0 0, .slice none 0 0, .int .i64 0, .int .i64 0, .int .i64 0, .bool false, .slice none 0 0, .int .i64 0, .int .i64 0, .int .i64 0, .int .i64 0, .slice none 0 0, .slice none 0 0] := (Y.set 0 (by simp) (.int .i64 me))
 have b0' := (b0.setCell (p := ⟨KO, 0, none⟩) g2 (.int .i64 me))
 have kb := (But2.set (c := KO) (d := KR) (k := 0) (w := u) (.int .i64 me))
 clear X R Y b0 kb dx yy0 zz0
 generalize (u.setCell ⟨KO, 0, none⟩ (.int .i64 me)) = u1 at *
 have X := X'
 have R := R'
 have Y := Y'
 have b0 := b0'
 clear X' R' Y' b0'
 have dx := X.c 1 (.bool up) rfl
 have yy1 := Y.c 1 (.bool false) rfl
 have zz1 := Y.z 1
 go_upto_region 4 with fail
 have X' := (X.far (k := 1) (v := .bool up) n1)
 have R' := (R.far (k := 1) (v := .bool up) n2)
 have Y' : Ws _ KO [.int .i64 me, .bool up, .bool false, .bool false, .int .i64 0, .int .i64 0, .int .i64 0, .int .i64 0, .slice none 0 0, .slice none 0 0, .int .i64 0, .int .i64 0, .int .i64 0, .bool false, .slice none 0 0, .int .i64 0, .int .i64 0, .int .i64 0, .int .i64 0, .slice none 0 0, .slice none 0 0] := (Y.set 1 (by simp) (.bool up))
 have b0' := (b0.setCell (p := ⟨KO, 1, none⟩) g2 (.bool up))
 have kb := (But2.set (c := KO) (d := KR) (k := 1) (w := u1) (.bool up))
 clear X R Y b0 kb dx yy1 zz1
 generalize (u1.setCell ⟨KO, 1, none⟩ (.bool up)) = u2 at *
 have X := X'
 have R := R'
 have Y := Y'
 have b0 := b0'
 clear X' R' Y' b0'
 have dx := X.c 2 (.bool gone) rfl
 have yy2 := Y.c 2 (.bool false) rfl
 have zz2 := Y.z 2
 go_upto_region 5 with fail
 have X' := (X.far (k := 2) (v := .bool gone) n1)
 have R' := (R.far (k := 2) (v := .bool gone) n2)
 have Y' : Ws _ KO [.int .i64 me, .bool up, .bool gone, .bool false, .int .i64 0, .int .i64 0, .int .i64 0, .int .i64 0, .slice none 0 0, .slice none 0 0, .int .i64 0, .int .i64 0, .int .i64 0, .bool false, .slice none 0 0, .int .i64 0, .int .i64 0, .int .i64 0, .int .i64 0, .slice none 0 0, .slice none 0 0] := (Y.set 2 (by simp) (.bool gone))
 have b0' := (b0.setCell (p := ⟨KO, 2, none⟩) g2 (.bool gone))
 have kb := (But2.set (c := KO) (d := KR) (k := 2) (w := u2) (.bool gone))
 clear X R Y b0 kb dx yy2 zz2
 generalize (u2.setCell ⟨KO, 2, none⟩ (.bool gone)) = u3 at *
 have X := X'
 have R := R'
 have Y := Y'
 have b0 := b0'
 clear X' R' Y' b0'
 have dx := X.c 3 (.bool gate) rfl
 have yy3 := Y.c 3 (.bool false) rfl
 have zz3 := Y.z 3
 go_upto_region 6 with fail
 have X' := (X.far (k := 3) (v := .bool gate) n1)
 have R' := (R.far (k := 3) (v := .bool gate) n2)
 have Y' : Ws _ KO [.int .i64 me, .bool up, .bool gone, .bool gate, .int .i64 0, .int .i64 0, .int .i64 0, .int .i64 0, .slice none 0 0, .slice none 0 0, .int .i64 0, .int .i64 0, .int .i64 0, .bool false, .slice none 0 0, .int .i64 0, .int .i64 0, .int .i64 0, .int .i64 0, .slice none 0 0, .slice none 0 0] := (Y.set 3 (by simp) (.bool gate))
 have b0' := (b0.setCell (p := ⟨KO, 3, none⟩) g2 (.bool gate))
 have kb := (But2.set (c := KO) (d := KR) (k := 3) (w := u3) (.bool gate))
 clear X R Y b0 kb dx yy3 zz3
 generalize (u3.setCell ⟨KO, 3, none⟩ (.bool gate)) = u4 at *
 have X := X'
 have R := R'
 have Y := Y'
 have b0 := b0'
 clear X' R' Y' b0'
 have dx := X.c 4 (.int .i64 inc) rfl
 have yy4 := Y.c 4 (.int .i64 0) rfl
 have zz4 := Y.z 4
 go_upto_region 7 with fail
 have X' := (X.far (k := 4) (v := .int .i64 inc) n1)
 have R' := (R.far (k := 4) (v := .int .i64 inc) n2)
 have Y' : Ws _ KO [.int .i64 me, .bool up, .bool gone, .bool gate, .int .i64 inc, .int .i64 0, .int .i64 0, .int .i64 0, .slice none 0 0, .slice none 0 0, .int .i64 0, .int .i64 0, .int .i64 0, .bool false, .slice none 0 0, .int .i64 0, .int .i64 0, .int .i64 0, .int .i64 0, .slice none 0 0, .slice none 0 0] := (Y.set 4 (by simp) (.int .i64 inc))
 have b0' := (b0.setCell (p := ⟨KO, 4, none⟩) g2 (.int .i64 inc))
 have kb := (But2.set (c := KO) (d := KR) (k := 4) (w := u4) (.int .i64 inc))
 clear X R Y b0 kb dx yy4 zz4
 generalize (u4.setCell ⟨KO, 4, none⟩ (.int .i64 inc)) = u5 at *
 have X := X'
 have R := R'
 have Y := Y'
 have b0 := b0'
 clear X' R' Y' b0'
 have dx := X.c 5 (.int .i64 now) rfl
 have yy5 := Y.c 5 (.int .i64 0) rfl
 have zz5 := Y.z 5
 go_upto_region 8 with fail
 have X' := (X.far (k := 5) (v := .int .i64 now) n1)
 have R' := (R.far (k := 5) (v := .int .i64 now) n2)
 have Y' : Ws _ KO [.int .i64 me, .bool up, .bool gone, .bool gate, .int .i64 inc, .int .i64 now, .int .i64 0, .int .i64 0, .slice none 0 0, .slice none 0 0, .int .i64 0, .int .i64 0, .int .i64 0, .bool false, .slice none 0 0, .int .i64 0, .int .i64 0, .int .i64 0, .int .i64 0, .slice none 0 0, .slice none 0 0] := (Y.set 5 (by simp) (.int .i64 now))
 have b0' := (b0.setCell (p := ⟨KO, 5, none⟩) g2 (.int .i64 now))
 have kb := (But2.set (c := KO) (d := KR) (k := 5) (w := u5) (.int .i64 now))
 clear X R Y b0 kb dx yy5 zz5
 generalize (u5.setCell ⟨KO, 5, none⟩ (.int .i64 now)) = u6 at *
 have X := X'
 have R := R'
 have Y := Y'
 have b0 := b0'
 clear X' R' Y' b0'
 have dx := X.c 6 (.int .i64 sq) rfl
 have yy6 := Y.c 6 (.int .i64 0) rfl
 have zz6 := Y.z 6
 go_upto_region 9 with fail
 have X' := (X.far (k := 6) (v := .int .i64 sq) n1)
 have R' := (R.far (k := 6) (v := .int .i64 sq) n2)
 have Y' : Ws _ KO [.int .i64 me, .bool up, .bool gone, .bool gate, .int .i64 inc, .int .i64 now, .int .i64 sq, .int .i64 0, .slice none 0 0, .slice none 0 0, .int .i64 0, .int .i64 0, .int .i64 0, .bool false, .slice none 0 0, .int .i64 0, .int .i64 0, .int .i64 0, .int .i64 0, .slice none 0 0, .slice none 0 0] := (Y.set 6 (by simp) (.int .i64 sq))
 have b0' := (b0.setCell (p := ⟨KO, 6, none⟩) g2 (.int .i64 sq))
 have kb := (But2.set (c := KO) (d := KR) (k := 6) (w := u6) (.int .i64 sq))
 clear X R Y b0 kb dx yy6 zz6
 generalize (u6.setCell ⟨KO, 6, none⟩ (.int .i64 sq)) = u7 at *
 have X := X'
 have R := R'
 have Y := Y'
 have b0 := b0'
 clear X' R' Y' b0'
 have dx := X.c 7 (.int .i64 turn) rfl
 have yy7 := Y.c 7 (.int .i64 0) rfl
 have zz7 := Y.z 7
 go_upto_region 10 with fail
 have X' := (X.far (k := 7) (v := .int .i64 turn) n1)
 have R' := (R.far (k := 7) (v := .int .i64 turn) n2)
 have Y' : Ws _ KO [.int .i64 me, .bool up, .bool gone, .bool gate, .int .i64 inc, .int .i64 now, .int .i64 sq, .int .i64 turn, .slice none 0 0, .slice none 0 0, .int .i64 0, .int .i64 0, .int .i64 0, .bool false, .slice none 0 0, .int .i64 0, .int .i64 0, .int .i64 0, .int .i64 0, .slice none 0 0, .slice none 0 0] := (Y.set 7 (by simp) (.int .i64 turn))
 have b0' := (b0.setCell (p := ⟨KO, 7, none⟩) g2 (.int .i64 turn))
 have kb := (But2.set (c := KO) (d := KR) (k := 7) (w := u7) (.int .i64 turn))
 clear X R Y b0 kb dx yy7 zz7
 generalize (u7.setCell ⟨KO, 7, none⟩ (.int .i64 turn)) = u8 at *
 have X := X'
 have R := R'
 have Y := Y'
 have b0 := b0'
 clear X' R' Y' b0'
 have dx := X.c 8 (.slice ta tl tc) rfl
 go_wp2_with fail
 refine (toFactS_row ta tl tc F _ (h.f.below b0) h.hf hct).mono ?_
 rintro r w1 ⟨b1, rfl, hF, hb1, k1⟩
 clear dx
 have lO := Y.lt
 have lR := R.lt
 have n1o : b1 ≠ KO := by omega
 have n1r : b1 ≠ KR := by omega
 have lo1 : w.heap.size ≤ b1 := Nat.le_trans b0.size hb1
 clear lO lR
 have X' := X.below k1
 have R' := R.below k1
 have Y' := Y.below k1
 have b0' := btrans b0 k1
 have kb := But2.of_below (c := KO) (d := KR) k1
 clear X R b0 kb
 have X := X'
 have R := R'
 have b0 := b0'
 clear X' R' b0'
 clear Y
 have Y := Y'
 clear Y'
 have yy8 := Y.c 8 (.slice none 0 0) rfl
 have zz8 := Y.z 8
 go_upto_region 11 with fail
 have X' := (X.far (k := 8) (v := .slice (some ⟨b1, 0, none⟩) tl tl) n1)
 have R' := (R.far (k := 8) (v := .slice (some ⟨b1, 0, none⟩) tl tl) n2)
 have Y' : Ws _ KO [.int .i64 me, .bool up, .bool gone, .bool gate, .int .i64 inc, .int .i64 now, .int .i64 sq, .int .i64 turn, .slice (some ⟨b1, 0, none⟩) tl tl, .slice none 0 0, .int .i64 0, .int .i64 0, .int .i64 0, .bool false, .slice none 0 0, .int .i64 0, .int .i64 0, .int .i64 0, .int .i64 0, .slice none 0 0, .slice none 0 0] := (Y.set 8 (by simp) (.slice (some ⟨b1, 0, none⟩) tl tl))
 have b0' := (b0.setCell (p := ⟨KO, 8, none⟩) g2 (.slice (some ⟨b1, 0, none⟩) tl tl))
 have kb := (But2.set (c := KO) (d := KR) (k := 8) (w := w1) (.slice (some ⟨b1, 0, none⟩) tl tl))
 replace hF := row_but hF kb n1o n1r
 clear X R Y b0 kb  yy8 zz8
 generalize (w1.setCell ⟨KO, 8, none⟩ (.slice (some ⟨b1, 0, none⟩) tl tl)) = u9 at *
 have X := X'
 have R := R'
 have Y := Y'
 have b0 := b0'
 clear X' R' Y' b0'
 have dx := X.c 9 (.slice ca cl cc) rfl
 go_wp2_with fail
 refine (toItemS_any ca cl cc GI _ (h.i.below b0) h.hi hcc).mono ?_
 rintro r w2 ⟨b2, rfl, hI, hb2, k2⟩
 clear dx
 have lO := Y.lt
 have lR := R.lt
 have n2o : b2 ≠ KO := by omega
 have n2r : b2 ≠ KR := by omega
 have o12 : b1 < b2 := Nat.lt_of_lt_of_le hF.lt hb2
 clear lO lR
 have X' := X.below k2
 have R' := R.below k2
 have Y' := Y.below k2
 have b0' := btrans b0 k2
 have kb := But2.of_below (c := KO) (d := KR) k2
 replace hF := row_but hF kb n1o n1r
 clear X R b0 kb
 have X := X'
 have R := R'
 have b0 := b0'
 clear X' R' b0'
 clear Y
 have Y := Y'
 clear Y'
 have yy9 := Y.c 9 (.slice none 0 0) rfl
 have zz9 := Y.z 9
 go_upto_region 12 with fail
 have X' := (X.far (k := 9) (v := .slice (some ⟨b2, 0, none⟩) cl cl) n1)
 have R' := (R.far (k := 9) (v := .slice (some ⟨b2, 0, none⟩) cl cl) n2)
 have Y' : Ws _ KO [.int .i64 me, .bool up, .bool gone, .bool gate, .int .i64 inc, .int .i64 now, .int .i64 sq, .int .i64 turn, .slice (some ⟨b1, 0, none⟩) tl tl, .slice (some ⟨b2, 0, none⟩) cl cl, .int .i64 0, .int .i64 0, .int .i64 0, .bool false, .slice none 0 0, .int .i64 0, .int .i64 0, .int .i64 0, .int .i64 0, .slice none 0 0, .slice none 0 0] := (Y.set 9 (by simp) (.slice (some ⟨b2, 0, none⟩) cl cl))
 have b0' := (b0.setCell (p := ⟨KO, 9, none⟩) g2 (.slice (some ⟨b2, 0, none⟩) cl cl))
 have kb := (But2.set (c := KO) (d := KR) (k := 9) (w := w2) (.slice (some ⟨b2, 0, none⟩) cl cl))
 replace hF := row_but hF kb n1o n1r
 replace hI := row_but hI kb n2o n2r
 clear X R Y b0 kb  yy9 zz9
 generalize (w2.setCell ⟨KO, 9, none⟩ (.slice (some ⟨b2, 0, none⟩) cl cl)) = u10 at *
 have X := X'
 have R := R'
 have Y := Y'
 have b0 := b0'
 clear X' R' Y' b0'
 have dx10 := X.c 10 (.int .i64 pn) rfl
 have dx11 := X.c 11 (.int .i64 ps) rfl
 have dx12 := X.c 12 (.int .i64 pq) rfl
 have dx13 := X.c 13 (.bool pa) rfl
 go_wp2_with fail
 refine (toProbe_any pn ps pq pa _).mono ?_
 rintro r w3 ⟨rfl, k3⟩
 clear dx10 dx11 dx12 dx13
 have X' := X.below k3
 have R' := R.below k3
 have Y' := Y.below k3
 have b0' := btrans b0 k3
 have kb := But2.of_below (c := KO) (d := KR) k3
 replace hF := row_but hF kb n1o n1r
 replace hI := row_but hI kb n2o n2r
 clear X R b0 kb
 have X := X'
 have R := R'
 have b0 := b0'
 clear X' R' b0'
 clear Y k3
 have Y := Y'
 clear Y'
 have yy10 := Y.c 10 (.int .i64 0) rfl
 have zz10 := Y.z 10
 have yy11 := Y.c 11 (.int .i64 0) rfl
 have zz11 := Y.z 11
 have yy12 := Y.c 12 (.int .i64 0) rfl
 have zz12 := Y.z 12
 have yy13 := Y.c 13 (.bool false) rfl
 have zz13 := Y.z 13
 go_upto_region 13 with fail
 have X' := ((((X.far (k := 10) (v := .int .i64 pn) n1).far (k := 11) (v := .int .i64 ps) n1).far (k := 12) (v := .int .i64 pq) n1).far (k := 13) (v := .bool pa) n1)
 have R' := ((((R.far (k := 10) (v := .int .i64 pn) n2).far (k := 11) (v := .int .i64 ps) n2).far (k := 12) (v := .int .i64 pq) n2).far (k := 13) (v := .bool pa) n2)
 have Y' : Ws _ KO [.int .i64 me, .bool up, .bool gone, .bool gate, .int .i64 inc, .int .i64 now, .int .i64 sq, .int .i64 turn, .slice (some ⟨b1, 0, none⟩) tl tl, .slice (some ⟨b2, 0, none⟩) cl cl, .int .i64 pn, .int .i64 ps, .int .i64 pq, .bool pa, .slice none 0 0, .int .i64 0, .int .i64 0, .int .i64 0, .int .i64 0, .slice none 0 0, .slice none 0 0] := ((((Y.set 10 (by simp) (.int .i64 pn)).set 11 (by simp) (.int .i64 ps)).set 12 (by simp) (.int .i64 pq)).set 13 (by simp) (.bool pa))
 have b0' := ((((b0.setCell (p := ⟨KO, 10, none⟩) g2 (.int .i64 pn)).setCell (p := ⟨KO, 11, none⟩) g2 (.int .i64 ps)).setCell (p := ⟨KO, 12, none⟩) g2 (.int .i64 pq)).setCell (p := ⟨KO, 13, none⟩) g2 (.bool pa))
 have kb := ((((But2.set (c := KO) (d := KR) (k := 10) (w := w3) (.int .i64 pn)).trans (But2.set (c := KO) (d := KR) (k := 11) (w := (w3.setCell ⟨KO, 10, none⟩ (.int .i64 pn))) (.int .i64 ps))).trans (But2.set (c := KO) (d := KR) (k := 12) (w := ((w3.setCell ⟨KO, 10, none⟩ (.int .i64 pn)).setCell ⟨KO, 11, none⟩ (.int .i64 ps))) (.int .i64 pq))).trans (But2.set (c := KO) (d := KR) (k := 13) (w := (((w3.setCell ⟨KO, 10, none⟩ (.int .i64 pn)).setCell ⟨KO, 11, none⟩ (.int .i64 ps)).setCell ⟨KO, 12, none⟩ (.int .i64 pq))) (.bool pa)))
 replace hF := row_but hF kb n1o n1r
 replace hI := row_but hI kb n2o n2r
 clear X R Y b0 kb  yy10 zz10 yy11 zz11 yy12 zz12 yy13 zz13
 generalize ((((w3.setCell ⟨KO, 10, none⟩ (.int .i64 pn)).setCell ⟨KO, 11, none⟩ (.int .i64 ps)).setCell ⟨KO, 12, none⟩ (.int .i64 pq)).setCell ⟨KO, 13, none⟩ (.bool pa)) = u11 at *
 have X := X'
 have R := R'
 have Y := Y'
 have b0 := b0'
 clear X' R' Y' b0'
 have dx := X.c 14 (.slice da dl dc) rfl
 go_wp2_with fail
 refine (DttoS_any da dl dc GD _ (h.d.below b0) h.hd (h.db.below b0) hcd2).mono ?_
 rintro r w4 ⟨b3, GD', rfl, hD, hDB, hDE, hb3, k4⟩
 clear dx
 have lO := Y.lt
 have lR := R.lt
 have n3o : b3 ≠ KO := by omega
 have n3r : b3 ≠ KR := by omega
 have lt3o : KO ≤ b3 := by omega
 have lt3r : KR ≤ b3 := by omega
 have o23 : b2 < b3 := Nat.lt_of_lt_of_le hI.lt hb3
 clear lO lR
 have X' := X.below k4
 have R' := R.below k4
 have Y' := Y.below k4
 have b0' := btrans b0 k4
 have kb := But2.of_below (c := KO) (d := KR) k4
 replace hF := row_but hF kb n1o n1r
 replace hI := row_but hI kb n2o n2r
 clear X R b0 kb
 have X := X'
 have R := R'
 have b0 := b0'
 clear X' R' b0'
 clear Y
 have Y := Y'
 clear Y'
 have yy14 := Y.c 14 (.slice none 0 0) rfl
 have zz14 := Y.z 14
 go_upto_region 14 with fail
 have X' := (X.far (k := 14) (v := .slice (some ⟨b3, 0, none⟩) dl dl) n1)
 have R' := (R.far (k := 14) (v := .slice (some ⟨b3, 0, none⟩) dl dl) n2)
 have Y' : Ws _ KO [.int .i64 me, .bool up, .bool gone, .bool gate, .int .i64 inc, .int .i64 now, .int .i64 sq, .int .i64 turn, .slice (some ⟨b1, 0, none⟩) tl tl, .slice (some ⟨b2, 0, none⟩) cl cl, .int .i64 pn, .int .i64 ps, .int .i64 pq, .bool pa, .slice (some ⟨b3, 0, none⟩) dl dl, .int .i64 0, .int .i64 0, .int .i64 0, .int .i64 0, .slice none 0 0, .slice none 0 0] := (Y.set 14 (by simp) (.slice (some ⟨b3, 0, none⟩) dl dl))
 have b0' := (b0.setCell (p := ⟨KO, 14, none⟩) g2 (.slice (some ⟨b3, 0, none⟩) dl dl))
 have kb := (But2.set (c := KO) (d := KR) (k := 14) (w := w4) (.slice (some ⟨b3, 0, none⟩) dl dl))
 replace hF := row_but hF kb n1o n1r
 replace hI := row_but hI kb n2o n2r
 replace hD := row_but hD kb n3o n3r
 replace hDB := hDB.but kb lt3o lt3r
 clear X R Y b0 kb  yy14 zz14
 generalize (w4.setCell ⟨KO, 14, none⟩ (.slice (some ⟨b3, 0, none⟩) dl dl)) = u12 at *
 have X := X'
 have R := R'
 have Y := Y'
 have b0 := b0'
 clear X' R' Y' b0'
 have dx15 := X.c 15 (.int .i64 cx) rfl
 have dx16 := X.c 16 (.int .i64 cy) rfl
 have dx17 := X.c 17 (.int .i64 ch) rfl
 have dx18 := X.c 18 (.int .i64 ce) rfl
 go_wp2_with fail
 refine (toCoordB_any cx cy ch ce _).mono ?_
 rintro r w5 ⟨rfl, k5⟩
 clear dx15 dx16 dx17 dx18
 have X' := X.below k5
 have R' := R.below k5
 have Y' := Y.below k5
 have b0' := btrans b0 k5
 have kb := But2.of_below (c := KO) (d := KR) k5
 replace hF := row_but hF kb n1o n1r
 replace hI := row_but hI kb n2o n2r
 replace hD := row_but hD kb n3o n3r
 replace hDB := hDB.but kb lt3o lt3r
 clear X R b0 kb
 have X := X'
 have R := R'
 have b0 := b0'
 clear X' R' b0'
 clear Y k5
 have Y := Y'
 clear Y'
 have yy15 := Y.c 15 (.int .i64 0) rfl
 have zz15 := Y.z 15
 have yy16 := Y.c 16 (.int .i64 0) rfl
 have zz16 := Y.z 16
 have yy17 := Y.c 17 (.int .i64 0) rfl
 have zz17 := Y.z 17
 have yy18 := Y.c 18 (.int .i64 0) rfl
 have zz18 := Y.z 18
 go_upto_region 15 with fail
 have X' := ((((X.far (k := 15) (v := .int .i64 cx) n1).far (k := 16) (v := .int .i64 cy) n1).far (k := 17) (v := .int .i64 ch) n1).far (k := 18) (v := .int .i64 ce) n1)
 have R' := ((((R.far (k := 15) (v := .int .i64 cx) n2).far (k := 16) (v := .int .i64 cy) n2).far (k := 17) (v := .int .i64 ch) n2).far (k := 18) (v := .int .i64 ce) n2)
 have Y' : Ws _ KO [.int .i64 me, .bool up, .bool gone, .bool gate, .int .i64 inc, .int .i64 now, .int .i64 sq, .int .i64 turn, .slice (some ⟨b1, 0, none⟩) tl tl, .slice (some ⟨b2, 0, none⟩) cl cl, .int .i64 pn, .int .i64 ps, .int .i64 pq, .bool pa, .slice (some ⟨b3, 0, none⟩) dl dl, .int .i64 cx, .int .i64 cy, .int .i64 ch, .int .i64 ce, .slice none 0 0, .slice none 0 0] := ((((Y.set 15 (by simp) (.int .i64 cx)).set 16 (by simp) (.int .i64 cy)).set 17 (by simp) (.int .i64 ch)).set 18 (by simp) (.int .i64 ce))
 have b0' := ((((b0.setCell (p := ⟨KO, 15, none⟩) g2 (.int .i64 cx)).setCell (p := ⟨KO, 16, none⟩) g2 (.int .i64 cy)).setCell (p := ⟨KO, 17, none⟩) g2 (.int .i64 ch)).setCell (p := ⟨KO, 18, none⟩) g2 (.int .i64 ce))
 have kb := ((((But2.set (c := KO) (d := KR) (k := 15) (w := w5) (.int .i64 cx)).trans (But2.set (c := KO) (d := KR) (k := 16) (w := (w5.setCell ⟨KO, 15, none⟩ (.int .i64 cx))) (.int .i64 cy))).trans (But2.set (c := KO) (d := KR) (k := 17) (w := ((w5.setCell ⟨KO, 15, none⟩ (.int .i64 cx)).setCell ⟨KO, 16, none⟩ (.int .i64 cy))) (.int .i64 ch))).trans (But2.set (c := KO) (d := KR) (k := 18) (w := (((w5.setCell ⟨KO, 15, none⟩ (.int .i64 cx)).setCell ⟨KO, 16, none⟩ (.int .i64 cy)).setCell ⟨KO, 17, none⟩ (.int .i64 ch))) (.int .i64 ce)))
 replace hF := row_but hF kb n1o n1r
 replace hI := row_but hI kb n2o n2r
 replace hD := row_but hD kb n3o n3r
 replace hDB := hDB.but kb lt3o lt3r
 clear X R Y b0 kb  yy15 zz15 yy16 zz16 yy17 zz17 yy18 zz18
 generalize ((((w5.setCell ⟨KO, 15, none⟩ (.int .i64 cx)).setCell ⟨KO, 16, none⟩ (.int .i64 cy)).setCell ⟨KO, 17, none⟩ (.int .i64 ch)).setCell ⟨KO, 18, none⟩ (.int .i64 ce)) = u13 at *
 have X := X'
 have R := R'
 have Y := Y'
 have b0 := b0'
 clear X' R' Y' b0'
 have dx := X.c 19 (.slice pla pll plc) rfl
 go_wp2_with fail
 refine (PltoS_any pla pll plc GP _ (h.p.below b0) h.hp (h.pb.below b0) hcp2).mono ?_
 rintro r w6 ⟨b4, GP', rfl, hP, hPB, hPE, hb4, k6⟩
 clear dx
 have lO := Y.lt
 have lR := R.lt
 have n4o : b4 ≠ KO := by omega
 have n4r : b4 ≠ KR := by omega
 have lt4o : KO ≤ b4 := by omega
 have lt4r : KR ≤ b4 := by omega
 have o34 : b3 < b4 := Nat.lt_of_lt_of_le hD.lt hb4
 have m34 : ∀ j bb, j < dl → (GD' j).ba = some ⟨bb, 0, none⟩ → bb < b4 := fun j bb hj e => Nat.lt_of_lt_of_le (hDB.lt j bb hj e) hb4
 clear lO lR
 have X' := X.below k6
 have R' := R.below k6
 have Y' := Y.below k6
 have b0' := btrans b0 k6
 have kb := But2.of_below (c := KO) (d := KR) k6
 replace hF := row_but hF kb n1o n1r
 replace hI := row_but hI kb n2o n2r
 replace hD := row_but hD kb n3o n3r
 replace hDB := hDB.but kb lt3o lt3r
 clear X R b0 kb
 have X := X'
 have R := R'
 have b0 := b0'
 clear X' R' b0'
 clear Y
 have Y := Y'
 clear Y'
 have yy19 := Y.c 19 (.slice none 0 0) rfl
 have zz19 := Y.z 19
 go_upto_region 16 with fail
 have X' := (X.far (k := 19) (v := .slice (some ⟨b4, 0, none⟩) pll pll) n1)
 have R' := (R.far (k := 19) (v := .slice (some ⟨b4, 0, none⟩) pll pll) n2)
 have Y' : Ws _ KO [.int .i64 me, .bool up, .bool gone, .bool gate, .int .i64 inc, .int .i64 now, .int .i64 sq, .int .i64 turn, .slice (some ⟨b1, 0, none⟩) tl tl, .slice (some ⟨b2, 0, none⟩) cl cl, .int .i64 pn, .int .i64 ps, .int .i64 pq, .bool pa, .slice (some ⟨b3, 0, none⟩) dl dl, .int .i64 cx, .int .i64 cy, .int .i64 ch, .int .i64 ce, .slice (some ⟨b4, 0, none⟩) pll pll, .slice none 0 0] := (Y.set 19 (by simp) (.slice (some ⟨b4, 0, none⟩) pll pll))
 have b0' := (b0.setCell (p := ⟨KO, 19, none⟩) g2 (.slice (some ⟨b4, 0, none⟩) pll pll))
 have kb := (But2.set (c := KO) (d := KR) (k := 19) (w := w6) (.slice (some ⟨b4, 0, none⟩) pll pll))
 replace hF := row_but hF kb n1o n1r
 replace hI := row_but hI kb n2o n2r
 replace hD := row_but hD kb n3o n3r
 replace hDB := hDB.but kb lt3o lt3r
 replace hP := row_but hP kb n4o n4r
 replace hPB := hPB.but kb lt4o lt4r
 clear X R Y b0 kb  yy19 zz19
 generalize (w6.setCell ⟨KO, 19, none⟩ (.slice (some ⟨b4, 0, none⟩) pll pll)) = u14 at *
 have X := X'
 have R := R'
 have Y := Y'
 have b0 := b0'
 clear X' R' Y' b0'
 have dx := X.c 20 (.slice oa ol oc) rfl
 go_wp2_with fail
 refine (FgtoS_any oa ol oc GO _ (h.o.below b0) h.ho (h.ob.below b0) hco2).mono ?_
 rintro r w7 ⟨b5, GO', rfl, hG, hGB, hGE, hb5, k7⟩
 clear dx
 have lO := Y.lt
 have lR := R.lt
 have n5o : b5 ≠ KO := by omega
 have n5r : b5 ≠ KR := by omega
 have lt5o : KO ≤ b5 := by omega
 have lt5r : KR ≤ b5 := by omega
 have o45 : b4 < b5 := Nat.lt_of_lt_of_le hP.lt hb5
 have m45 : ∀ j bb, j < pll → (GP' j).ba = some ⟨bb, 0, none⟩ → bb < b5 := fun j bb hj e => Nat.lt_of_lt_of_le (hPB.lt j bb hj e) hb5
 clear lO lR
 have X' := X.below k7
 have R' := R.below k7
 have Y' := Y.below k7
 have b0' := btrans b0 k7
 have kb := But2.of_below (c := KO) (d := KR) k7
 replace hF := row_but hF kb n1o n1r
 replace hI := row_but hI kb n2o n2r
 replace hD := row_but hD kb n3o n3r
 replace hDB := hDB.but kb lt3o lt3r
 replace hP := row_but hP kb n4o n4r
 replace hPB := hPB.but kb lt4o lt4r
 clear X R b0 kb
 have X := X'
 have R := R'
 have b0 := b0'
 clear X' R' b0'
 clear Y
 have Y := Y'
 clear Y'
 have yy20 := Y.c 20 (.slice none 0 0) rfl
 have zz20 := Y.z 20
 go_upto_region 17 with fail
 have X' := (X.far (k := 20) (v := .slice (some ⟨b5, 0, none⟩) ol ol) n1)
 have R' := (R.far (k := 20) (v := .slice (some ⟨b5, 0, none⟩) ol ol) n2)
 have Y' : Ws _ KO [.int .i64 me, .bool up, .bool gone, .bool gate, .int .i64 inc, .int .i64 now, .int .i64 sq, .int .i64 turn, .slice (some ⟨b1, 0, none⟩) tl tl, .slice (some ⟨b2, 0, none⟩) cl cl, .int .i64 pn, .int .i64 ps, .int .i64 pq, .bool pa, .slice (some ⟨b3, 0, none⟩) dl dl, .int .i64 cx, .int .i64 cy, .int .i64 ch, .int .i64 ce, .slice (some ⟨b4, 0, none⟩) pll pll, .slice (some ⟨b5, 0, none⟩) ol ol] := (Y.set 20 (by simp) (.slice (some ⟨b5, 0, none⟩) ol ol))
 have b0' := (b0.setCell (p := ⟨KO, 20, none⟩) g2 (.slice (some ⟨b5, 0, none⟩) ol ol))
 have kb := (But2.set (c := KO) (d := KR) (k := 20) (w := w7) (.slice (some ⟨b5, 0, none⟩) ol ol))
 replace hF := row_but hF kb n1o n1r
 replace hI := row_but hI kb n2o n2r
 replace hD := row_but hD kb n3o n3r
 replace hDB := hDB.but kb lt3o lt3r
 replace hP := row_but hP kb n4o n4r
 replace hPB := hPB.but kb lt4o lt4r
 replace hG := row_but hG kb n5o n5r
 replace hGB := hGB.but kb lt5o lt5r
 clear X R Y b0 kb  yy20 zz20
 generalize (w7.setCell ⟨KO, 20, none⟩ (.slice (some ⟨b5, 0, none⟩) ol ol)) = u15 at *
 have X := X'
 have R := R'
 have Y := Y'
 have b0 := b0'
 clear X' R' Y' b0'
 have kb := But2.cells (c := KO) (d := KR) (o := 0) (w := u15) (#[.int .i64 me, .bool up, .bool gone, .bool gate, .int .i64 inc, .int .i64 now, .int .i64 sq, .int .i64 turn, .slice (some ⟨b1, 0, none⟩) tl tl, .slice (some ⟨b2, 0, none⟩) cl cl, .int .i64 pn, .int .i64 ps, .int .i64 pq, .bool pa, .slice (some ⟨b3, 0, none⟩) dl dl, .int .i64 cx, .int .i64 cy, .int .i64 ch, .int .i64 ce, .slice (some ⟨b4, 0, none⟩) pll pll, .slice (some ⟨b5, 0, none⟩) ol ol] : Array Value).toList
 replace hF := row_but hF kb n1o n1r
 replace hI := row_but hI kb n2o n2r
 replace hD := row_but hD kb n3o n3r
 replace hDB := hDB.but kb lt3o lt3r
 replace hP := row_but hP kb n4o n4r
 replace hPB := hPB.but kb lt4o lt4r
 replace hG := row_but hG kb n5o n5r
 replace hGB := hGB.but kb lt5o lt5r
 have hth : u15.there KR 0 21 := R.there rfl
 have yr := Y.range
 go_wp2_with (first | (refine load43L (by rfl) (.tmp 3) rfl KO rfl [.int .i64 me, .bool up, .bool gone, .bool gate, .int .i64 inc, .int .i64 now, .int .i64 sq, .int .i64 turn, .slice (some ⟨b1, 0, none⟩) tl tl, .slice (some ⟨b2, 0, none⟩) cl cl, .int .i64 pn, .int .i64 ps, .int .i64 pq, .bool pa, .slice (some ⟨b3, 0, none⟩) dl dl, .int .i64 cx, .int .i64 cy, .int .i64 ch, .int .i64 ce, .slice (some ⟨b4, 0, none⟩) pll pll, .slice (some ⟨b5, 0, none⟩) ol ol] yr rfl ?_) | (refine wpList_store_mid rfl 42 _ _ rfl KR 0 #[.int .i64 me, .bool up, .bool gone, .bool gate, .int .i64 inc, .int .i64 now, .int .i64 sq, .int .i64 turn, .slice (some ⟨b1, 0, none⟩) tl tl, .slice (some ⟨b2, 0, none⟩) cl cl, .int .i64 pn, .int .i64 ps, .int .i64 pq, .bool pa, .slice (some ⟨b3, 0, none⟩) dl dl, .int .i64 cx, .int .i64 cy, .int .i64 ch, .int .i64 ce, .slice (some ⟨b4, 0, none⟩) pll pll, .slice (some ⟨b5, 0, none⟩) ol ol] rfl rfl hth (by kernel_rfl) (by kernel_rfl) ?_))
 have hr := read43 (World.rangeAt_setCells_same u15 KR 0 (#[.int .i64 me, .bool up, .bool gone, .bool gate, .int .i64 inc, .int .i64 now, .int .i64 sq, .int .i64 turn, .slice (some ⟨b1, 0, none⟩) tl tl, .slice (some ⟨b2, 0, none⟩) cl cl, .int .i64 pn, .int .i64 ps, .int .i64 pq, .bool pa, .slice (some ⟨b3, 0, none⟩) dl dl, .int .i64 cx, .int .i64 cy, .int .i64 ch, .int .i64 ce, .slice (some ⟨b4, 0, none⟩) pll pll, .slice (some ⟨b5, 0, none⟩) ol ol] : Array Value).toList hth) rfl
 have b9 := below_cells KR (#[.int .i64 me, .bool up, .bool gone, .bool gate, .int .i64 inc, .int .i64 now, .int .i64 sq, .int .i64 turn, .slice (some ⟨b1, 0, none⟩) tl tl, .slice (some ⟨b2, 0, none⟩) cl cl, .int .i64 pn, .int .i64 ps, .int .i64 pq, .bool pa, .slice (some ⟨b3, 0, none⟩) dl dl, .int .i64 cx, .int .i64 cy, .int .i64 ch, .int .i64 ce, .slice (some ⟨b4, 0, none⟩) pll pll, .slice (some ⟨b5, 0, none⟩) ol ol] : Array Value).toList 0 u15 g1 b0
 refine bodyPost_ret (v := .agg #[.int .i64 me, .bool up, .bool gone, .bool gate, .int .i64 inc, .int .i64 now, .int .i64 sq, .int .i64 turn, .slice (some ⟨b1, 0, none⟩) tl tl, .slice (some ⟨b2, 0, none⟩) cl cl, .int .i64 pn, .int .i64 ps, .int .i64 pq, .bool pa, .slice (some ⟨b3, 0, none⟩) dl dl, .int .i64 cx, .int .i64 cy, .int .i64 ch, .int .i64 ce, .slice (some ⟨b4, 0, none⟩) pll pll, .slice (some ⟨b5, 0, none⟩) ol ol]) ?_ rfl ⟨b1, b2, b3, b4, b5, GD', GP', GO', rfl, ⟨hF, hI, hD, hDB, hP, hPB, hG, hGB, lo1, o12, o23, o34, m34, o45, m45⟩, hDE, hPE, hGE, b9⟩
 simp only [results, Tryz.results8]
 clear hF hI hD hDB hP hPB hG hGB b9 hth kb
 generalize (u15.setCells KR 0 (#[.int .i64 me, .bool up, .bool gone, .bool gate, .int .i64 inc, .int .i64 now, .int .i64 sq, .int .i64 turn, .slice (some ⟨b1, 0, none⟩) tl tl, .slice (some ⟨b2, 0, none⟩) cl cl, .int .i64 pn, .int .i64 ps, .int .i64 pq, .bool pa, .slice (some ⟨b3, 0, none⟩) dl dl, .int .i64 cx, .int .i64 cy, .int .i64 ch, .int .i64 ce, .slice (some ⟨b4, 0, none⟩) pll pll, .slice (some ⟨b5, 0, none⟩) ol ol] : Array Value).toList) = W4 at *
 simp [asAddr, hr]
theorem NdRows.toIn {w : World} {lo b1 b2 b3 b4 b5 : Nat} {tl : Nat} {F : Nat → Fc} {cl : Nat} {GI : Nat → It} {dl : Nat} {GD : Nat → Dt} {pll : Nat} {GP : Nat → Pl} {ol : Nat} {GO : Nat → Fg} {GD0 : Nat → Dt} {GP0 : Nat → Pl} {GO0 : Nat → Fg} (h : NdRows w lo b1 b2 b3 b4 b5 tl F cl GI dl GD pll GP ol GO) (hd : ∀ j, DtEq (GD j) (GD0 j)) (hp : ∀ j, PlEq (GP j) (GP0 j)) (ho : ∀ j, FgEq (GO j) (GO0 j)) (bd : ∀ j, j < dl → (GD0 j).bl ≤ 1048576) (bp : ∀ j, j < pll → (GP0 j).bl ≤ 1048576) (bo : ∀ j, j < ol → (GO0 j).bl ≤ 1048576) (m1 : tl ≤ 1048576) (m2 : cl ≤ 1048576) (m3 : dl ≤ 1048576) (m4 : pll ≤ 1048576) (m5 : ol ≤ 1048576) :
  NdIn w (some ⟨b1, 0, none⟩) tl F (some ⟨b2, 0, none⟩) cl GI (some ⟨b3, 0, none⟩) dl GD (some ⟨b4, 0, none⟩) pll GP (some ⟨b5, 0, none⟩) ol GO :=
 ⟨fsl_row h.f, fun _ => ⟨b2, 0, rfl, h.i.lt, trow_in h.i⟩, Dtrow_sl h.d, h.dO.B hd bd, Plrow_sl h.p, h.pO.B hp bp, Fgrow_sl h.o, h.oO.B ho bo, m1, m2, m3, m4, m5⟩
end Go.Proofs.YtgcdcfjaeehnbaaGreat
