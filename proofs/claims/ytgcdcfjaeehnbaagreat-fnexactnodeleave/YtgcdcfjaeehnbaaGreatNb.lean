/- Nodes: the program's copy of a node. -/
import Derived.Test.YtgcdcfjaeehnbaaGreatNa
namespace Go.Proofs.YtgcdcfjaeehnbaaGreat
open Go.ChangeShapes Go.WideShapes Go.ChangeAt Go.RowKit
attribute [local go_sem ↓] Go.wp_at_zero Go.wp_at_succ
def s96_7 : List Stp := [⟨some 29, .fieldAddr 42 (.tmp 1) 11, 0, none, 0⟩, ⟨some 30, .load 37 (.tmp 29), 37, none, 0⟩, ⟨some 31, .move (.tmp 3), 3, none, 0⟩, ⟨some 32, .fieldAddr 121 (.tmp 4) 3, 0, none, 0⟩, ⟨some 33, .load 54 (.tmp 32), 54, none, 0⟩, ⟨some 34, .call { callee := .value (.func 179), args := #[.tmp 33], argTypes := #[54] }, 54, none, 1⟩, ⟨some 35, .indexAddr 37 (.tmp 30) (.tmp 31), 0, none, 0⟩, ⟨some 36, .fieldAddr 121 (.tmp 35) 3, 0, none, 0⟩, ⟨none, .store 54 (.tmp 36) (.tmp 34), 0, none, 1⟩]
def t96_7 : List (Nat × Nat) := [(0, 0), (1, 0), (2, 0), (3, 0), (4, 0), (5, 1), (6, 0), (7, 0), (8, 1)]
def s96_13 : List Stp := [⟨some 50, .fieldAddr 42 (.tmp 1) 13, 0, none, 0⟩, ⟨some 51, .load 39 (.tmp 50), 39, none, 0⟩, ⟨some 52, .move (.tmp 5), 3, none, 0⟩, ⟨some 53, .fieldAddr 103 (.tmp 6) 2, 0, none, 0⟩, ⟨some 54, .load 54 (.tmp 53), 54, none, 0⟩, ⟨some 55, .call { callee := .value (.func 179), args := #[.tmp 54], argTypes := #[54] }, 54, none, 1⟩, ⟨some 56, .indexAddr 39 (.tmp 51) (.tmp 52), 0, none, 0⟩, ⟨some 57, .fieldAddr 103 (.tmp 56) 2, 0, none, 0⟩, ⟨none, .store 54 (.tmp 57) (.tmp 55), 0, none, 1⟩]
def t96_13 : List (Nat × Nat) := [(0, 0), (1, 0), (2, 0), (3, 0), (4, 0), (5, 1), (6, 0), (7, 0), (8, 1)]
def s96_19 : List Stp := [⟨some 71, .fieldAddr 42 (.tmp 1) 14, 0, none, 0⟩, ⟨some 72, .load 40 (.tmp 71), 40, none, 0⟩, ⟨some 73, .move (.tmp 7), 3, none, 0⟩, ⟨some 74, .fieldAddr 123 (.tmp 8) 1, 0, none, 0⟩, ⟨some 75, .load 34 (.tmp 74), 34, none, 0⟩, ⟨some 76, .call { callee := .value (.func 132), args := #[.tmp 75], argTypes := #[34] }, 34, none, 1⟩, ⟨some 77, .indexAddr 40 (.tmp 72) (.tmp 73), 0, none, 0⟩, ⟨some 78, .fieldAddr 123 (.tmp 77) 1, 0, none, 0⟩, ⟨none, .store 34 (.tmp 78) (.tmp 76), 0, none, 1⟩]
def t96_19 : List (Nat × Nat) := [(0, 0), (1, 0), (2, 0), (3, 0), (4, 0), (5, 1), (6, 0), (7, 0), (8, 1)]
def CpN (w w' : World) (r : Ending) (n : Nod) : Prop := ∃ v1 v2 v3 v4 v5 sD sP sO, r = .returned (ndW n v1 v2 v3 v4 v5) ∧ NdO w' w.heap.size n v1 v2 v3 v4 v5 sD sP sO ∧ Below w.heap.size w w'
theorem dR_one {l : List Dd} {sl : Nat → Value} (h : ∀ j, j < l.length → (sl j).oneCell' = true) (j : Nat) (hj : j < l.length * 4) : (dR l sl j).oneCell' = true := by
 unfold dR
 repeat' split
 all_goals (first | rfl | exact h _ (by omega))
theorem pR_one {l : List Pd} {sl : Nat → Value} (h : ∀ j, j < l.length → (sl j).oneCell' = true) (j : Nat) (hj : j < l.length * 6) : (pR l sl j).oneCell' = true := by
 unfold pR
 repeat' split
 all_goals (first | rfl | exact h _ (by omega))
theorem oR_one {l : List Od} {sl : Nat → Value} (h : ∀ j, j < l.length → (sl j).oneCell' = true) (j : Nat) (hj : j < l.length * 2) : (oR l sl j).oneCell' = true := by
 unfold oR
 repeat' split
 all_goals (first | rfl | exact h _ (by omega))
theorem dR_put (l : List Dd) (sl : Nat → Value) (k : Nat) (v : Value) (i : Nat) : (if i = k * 4 + 3 then v else dR l sl i) = dR l (fun j => if j = k then v else sl j) i := by
 by_cases e : i = k * 4 + 3
 ·subst e
  rw [if_pos rfl, (dR_at l _ k).2.2.2, if_pos rfl]
 ·rw [if_neg e]
  unfold dR
  dsimp only
  repeat' split
  all_goals (first | rfl | (exfalso; omega))
theorem pR_put (l : List Pd) (sl : Nat → Value) (k : Nat) (v : Value) (i : Nat) : (if i = k * 6 + 5 then v else pR l sl i) = pR l (fun j => if j = k then v else sl j) i := by
 by_cases e : i = k * 6 + 5
 ·subst e
  rw [if_pos rfl, (pR_at l _ k).2.2.2.2.2, if_pos rfl]
 ·rw [if_neg e]
  unfold pR
  dsimp only
  repeat' split
  all_goals (first | rfl | (exfalso; omega))
theorem oR_put (l : List Od) (sl : Nat → Value) (k : Nat) (v : Value) (i : Nat) : (if i = k * 2 + 1 then v else oR l sl i) = oR l (fun j => if j = k then v else sl j) i := by
 by_cases e : i = k * 2 + 1
 ·subst e
  rw [if_pos rfl, (oR_at l _ k).2, if_pos rfl]
 ·rw [if_neg e]
  unfold oR
  dsimp only
  repeat' split
  all_goals (first | rfl | (exfalso; omega))
set_option maxRecDepth 20000 in
set_option maxHeartbeats 8000000 in
theorem ncopied_any (n : Nod) (L : Loc) (w : World) (h : NdR w n L) (hf : LocF n L) : Calls Tryz.prog 107 #[ndV n L] w fun r w' => CpN w w' r n := by
 obtain ⟨me, up, gone, gate, inc, now, sq, turn, T, C, pn, ps, pq, pa, D, cx, cy, ch, ce, P, O⟩ := n
 obtain ⟨ta, tc, ca, cc, da, dc, dA, dC, pla, plc, pA, pC, oa, oc, oA, oC⟩ := L
 have hh : NdIn w ta T.length (tF T) ca C.length (cF C) da D.length (dF D dA dC) pla P.length (pF P pA pC) oa O.length (oF O oA oC) := h
 have f1 : Fine ta T.length tc := hf.t
 have f2 : Fine ca C.length cc := hf.c
 have f3 : Fine da D.length dc := hf.d
 have f4 : Fine pla P.length plc := hf.p
 have f5 : Fine oa O.length oc := hf.o
 have f3b : ∀ j, j < D.length → Fine (dA j) (dN D j) (dC j) := hf.db
 have f4b : ∀ j, j < P.length → Fine (pA j) (pN P j) (pC j) := hf.pb
 have f5b : ∀ j, j < O.length → Fine (oA j) (oN O j) (oC j) := hf.ob
 clear h hf
 unfold ndV
 dsimp only
 obtain ⟨u, hu, X, R, b0, hs2⟩ := enter2 w #[.int .i64 me, .bool up, .bool gone, .bool gate, .int .i64 inc, .int .i64 now, .int .i64 sq, .int .i64 turn, .slice ta T.length tc, .slice ca C.length cc, .int .i64 pn, .int .i64 ps, .int .i64 pq, .bool pa, .slice da D.length dc, .int .i64 cx, .int .i64 cy, .int .i64 ch, .int .i64 ce, .slice pla P.length plc, .slice oa O.length oc] 42 #[.int .i64 0, .bool false, .bool false, .bool false, .int .i64 0, .int .i64 0, .int .i64 0, .int .i64 0, .slice none 0 0, .slice none 0 0, .int .i64 0, .int .i64 0, .int .i64 0, .bool false, .slice none 0 0, .int .i64 0, .int .i64 0, .int .i64 0, .int .i64 0, .slice none 0 0, .slice none 0 0] 42
 go_enter Tryz.func107, Tryz.ntmps107
 go_upto_region 1 with fail
 rw [← hu.out]
 clear hu
 obtain ⟨KX, hKX⟩ : ∃ K, Hid (w.heap.size = K) := ⟨_, rfl⟩
 have g0 : w.heap.size ≤ KX := by rw [← hKX.out]; exact Nat.le_refl _
 have g1 : w.heap.size ≤ KX + 1 := by omega
 have gB : w.heap.size ≤ KX + 1 + 1 := by omega
 have nXR : KX ≠ KX + 1 := by omega
 rw [hKX.out] at X R hs2
 rw [hKX.out]
 have pB : KX + 1 + 1 ≤ u.heap.size := by omega
 clear hs2
 have d8 := X.c 8 (.slice ta T.length tc) rfl
 go_wp2_with fail
 refine (cpF_any _ T.length (fv (tF T)) _ (fsl_src (hh.f.below b0) f1) (fun j _ => fv_one _ j) hh.hf).mono ?_
 rintro r w1 ⟨v, rfl, o1, k1⟩
 replace o1 := own_mono pB o1
 clear d8
 replace X := X.below k1
 replace R := R.below k1
 replace pB := Nat.le_trans pB k1.size
 replace b0 := btrans b0 k1
 obtain ⟨a1, c1, rfl, _⟩ := own_slice o1
 clear k1
 have y8 := X.c 8 (.slice ta T.length tc) rfl
 have z8 := X.z 8
 go_upto_region 2 with fail
 have mX : Mw (fun x => x = KX) w1 (w1.setCell ⟨KX, 8, none⟩ (.slice a1 T.length c1)) := (Mw.refl _ _).set rfl
 replace o1 := own_mw o1 mX (fun x e q => by have := (o1.lt x e).1; omega)
 have X2 := X.set 8 (by simp) (.slice a1 T.length c1)
 have R2 := R.far (b' := KX) (k := 8) (v := .slice a1 T.length c1) nXR.symm
 have b02 := b0.setCell (p := ⟨KX, 8, none⟩) g0 (.slice a1 T.length c1)
 have pB2 : KX + 1 + 1 ≤ (w1.setCell ⟨KX, 8, none⟩ (.slice a1 T.length c1)).heap.size := by simpa [World.setCell] using pB
 clear mX X R b0 pB y8 z8
 generalize w1.setCell ⟨KX, 8, none⟩ (.slice a1 T.length c1) = u1 at *
 have X : Ws u1 KX [.int .i64 me, .bool up, .bool gone, .bool gate, .int .i64 inc, .int .i64 now, .int .i64 sq, .int .i64 turn, .slice a1 T.length c1, .slice ca C.length cc, .int .i64 pn, .int .i64 ps, .int .i64 pq, .bool pa, .slice da D.length dc, .int .i64 cx, .int .i64 cy, .int .i64 ch, .int .i64 ce, .slice pla P.length plc, .slice oa O.length oc] := X2
 have R := R2
 have b0 := b02
 have pB := pB2
 clear X2 R2 b02 pB2
 have d9 := X.c 9 (.slice ca C.length cc) rfl
 go_wp2_with fail
 refine (cpT_any _ C.length (tv (cF C)) _ (tsl_src (hh.i.below b0) f2) (fun j _ => tv_one _ j) hh.hi).mono ?_
 rintro r w1 ⟨v, rfl, o2, k1⟩
 replace o2 := own_mono pB o2
 clear d9
 replace X := X.below k1
 replace R := R.below k1
 replace pB := Nat.le_trans pB k1.size
 replace o1 := own_below o1 k1
 replace b0 := btrans b0 k1
 obtain ⟨a2, c2, rfl, _⟩ := own_slice o2
 clear k1
 have y9 := X.c 9 (.slice ca C.length cc) rfl
 have z9 := X.z 9
 go_upto_region 3 with fail
 have mX : Mw (fun x => x = KX) w1 (w1.setCell ⟨KX, 9, none⟩ (.slice a2 C.length c2)) := (Mw.refl _ _).set rfl
 replace o1 := own_mw o1 mX (fun x e q => by have := (o1.lt x e).1; omega)
 replace o2 := own_mw o2 mX (fun x e q => by have := (o2.lt x e).1; omega)
 have X2 := X.set 9 (by simp) (.slice a2 C.length c2)
 have R2 := R.far (b' := KX) (k := 9) (v := .slice a2 C.length c2) nXR.symm
 have b02 := b0.setCell (p := ⟨KX, 9, none⟩) g0 (.slice a2 C.length c2)
 have pB2 : KX + 1 + 1 ≤ (w1.setCell ⟨KX, 9, none⟩ (.slice a2 C.length c2)).heap.size := by simpa [World.setCell] using pB
 clear mX X R b0 pB y9 z9
 generalize w1.setCell ⟨KX, 9, none⟩ (.slice a2 C.length c2) = u2 at *
 have X : Ws u2 KX [.int .i64 me, .bool up, .bool gone, .bool gate, .int .i64 inc, .int .i64 now, .int .i64 sq, .int .i64 turn, .slice a1 T.length c1, .slice a2 C.length c2, .int .i64 pn, .int .i64 ps, .int .i64 pq, .bool pa, .slice da D.length dc, .int .i64 cx, .int .i64 cy, .int .i64 ch, .int .i64 ce, .slice pla P.length plc, .slice oa O.length oc] := X2
 have R := R2
 have b0 := b02
 have pB := pB2
 clear X2 R2 b02 pB2
 obtain ⟨BD, hBD⟩ : ∃ B, Hid (u2.heap.size = B) := ⟨_, rfl⟩
 have qBD : KX + 1 + 1 ≤ BD := by rw [← hBD.out]; exact pB
 have lo1D : Hid (∀ x, (Value.slice a1 T.length c1).ownBlock = some x → x < BD) := fun x e => by rw [← hBD.out]; exact (o1.lt x e).2
 have lo2D : Hid (∀ x, (Value.slice a2 C.length c2).ownBlock = some x → x < BD) := fun x e => by rw [← hBD.out]; exact (o2.lt x e).2
 have d14 := X.c 14 (.slice da D.length dc) rfl
 go_wp2_with fail
 refine (cpD_any _ D.length (dR D (fun j => .slice (dA j) (dN D j) (dC j))) _ (dsl_src (hh.d.below b0) f3) (dR_one (fun _ _ => rfl)) hh.hd).mono ?_
 rintro r w1 ⟨v, rfl, o3, k1⟩
 rw [hBD.out] at o3
 clear d14
 replace X := X.below k1
 replace R := R.below k1
 replace pB := Nat.le_trans pB k1.size
 replace o1 := own_below o1 k1
 replace o2 := own_below o2 k1
 replace b0 := btrans b0 k1
 obtain ⟨a3, c3, rfl, _⟩ := own_slice o3
 clear k1
 have y14 := X.c 14 (.slice da D.length dc) rfl
 have z14 := X.z 14
 go_upto_region 4 with fail
 have mX : Mw (fun x => x = KX) w1 (w1.setCell ⟨KX, 14, none⟩ (.slice a3 D.length c3)) := (Mw.refl _ _).set rfl
 replace o1 := own_mw o1 mX (fun x e q => by have := (o1.lt x e).1; omega)
 replace o2 := own_mw o2 mX (fun x e q => by have := (o2.lt x e).1; omega)
 replace o3 := own_mw o3 mX (fun x e q => by have := (o3.lt x e).1; omega)
 have X2 := X.set 14 (by simp) (.slice a3 D.length c3)
 have R2 := R.far (b' := KX) (k := 14) (v := .slice a3 D.length c3) nXR.symm
 have b02 := b0.setCell (p := ⟨KX, 14, none⟩) g0 (.slice a3 D.length c3)
 have pB2 : KX + 1 + 1 ≤ (w1.setCell ⟨KX, 14, none⟩ (.slice a3 D.length c3)).heap.size := by simpa [World.setCell] using pB
 clear mX X R b0 pB y14 z14 hBD
 generalize w1.setCell ⟨KX, 14, none⟩ (.slice a3 D.length c3) = u3 at *
 have X : Ws u3 KX [.int .i64 me, .bool up, .bool gone, .bool gate, .int .i64 inc, .int .i64 now, .int .i64 sq, .int .i64 turn, .slice a1 T.length c1, .slice a2 C.length c2, .int .i64 pn, .int .i64 ps, .int .i64 pq, .bool pa, .slice a3 D.length c3, .int .i64 cx, .int .i64 cy, .int .i64 ch, .int .i64 ce, .slice pla P.length plc, .slice oa O.length oc] := X2
 have R := R2
 have b0 := b02
 have pB := pB2
 clear X2 R2 b02 pB2
 have y14 := X.c 14 (.slice a3 D.length c3) rfl
 go_wp2_with fail
 clear y14
 go_loopw [24] (fun i wr => ∃ (k : Nat) (sl : Nat → Value), k ≤ D.length ∧ i = .int .i64 k ∧ Below w.heap.size w wr ∧ Ws wr KX [.int .i64 me, .bool up, .bool gone, .bool gate, .int .i64 inc, .int .i64 now, .int .i64 sq, .int .i64 turn, .slice a1 T.length c1, .slice a2 C.length c2, .int .i64 pn, .int .i64 ps, .int .i64 pq, .bool pa, .slice a3 D.length c3, .int .i64 cx, .int .i64 cy, .int .i64 ch, .int .i64 ce, .slice pla P.length plc, .slice oa O.length oc] ∧ Ws wr (KX + 1) [.int .i64 0, .bool false, .bool false, .bool false, .int .i64 0, .int .i64 0, .int .i64 0, .int .i64 0, .slice none 0 0, .slice none 0 0, .int .i64 0, .int .i64 0, .int .i64 0, .bool false, .slice none 0 0, .int .i64 0, .int .i64 0, .int .i64 0, .int .i64 0, .slice none 0 0, .slice none 0 0] ∧ KX + 1 + 1 ≤ wr.heap.size ∧ wr.ownsRow (KX + 1 + 1) 96 4 (.slice a1 T.length c1) T.length (rv (fv (tF T)) (T.length * 4)) ∧ wr.ownsRow (KX + 1 + 1) 127 5 (.slice a2 C.length c2) C.length (rv (tv (cF C)) (C.length * 5)) ∧ wr.ownsRow BD 121 4 (.slice a3 D.length c3) D.length (rv (dR D (fun j => if j < k then sl j else .slice (dA j) (dN D j) (dC j))) (D.length * 4)) ∧ (∀ j, j < k → wr.ownsRow BD 3 1 (sl j) (dN D j) (dX D j)) ∧ (∀ i j, i < k → j < k → i ≠ j → Apt (sl i) (sl j))) (fun i _ => D.length - (intOf i).toNat)
 case atStart => exact ⟨0, fun _ => .slice none 0 0, Nat.zero_le _, rfl, b0, X, R, pB, o1, o2, by simpa using o3, fun j hj => by omega, fun i j hi => by omega⟩
 case round =>
  clear X R b0 pB o1 o2 o3
  obtain ⟨k, sl, hk, rfl, b0, X, R, pB, o1, o2, o3, on, oa_⟩ := hrel
  by_cases hlt : k < D.length
  ·have i0 : (0 : Int) ≤ (k : Int) := by omega
   have i1 : (k : Int) < (D.length : Int) := by omega
   rcases own_cases o3 with ⟨_, e⟩ | ⟨g, c, e, hg, hgl, _⟩
   ·omega
   obtain ⟨rfl, rfl⟩ : a3 = some ⟨g, 0, none⟩ ∧ c3 = c := by simpa using e
   clear e
   obtain ⟨e0, e1, e2, e3⟩ := dR_at D (fun j => if j < k then sl j else .slice (dA j) (dN D j) (dC j)) k
   (try dsimp only at e3)
   rw [if_neg (Nat.lt_irrefl k)] at e3
   have c0_ := (own_at o3 (j := k * 4) (by omega)).trans (congrArg some e0)
   have c1_ := (own_at o3 (j := k * 4 + 1) (by omega)).trans (congrArg some e1)
   have c2_ := (own_at o3 (j := k * 4 + 2) (by omega)).trans (congrArg some e2)
   have c3_ := (own_at o3 (j := k * 4 + 3) (by omega)).trans (congrArg some e3)
   clear e0 e1 e2 e3
   obtain ⟨x0, hx0⟩ : ∃ x, Hid ((D.getD k Dd.zero).n = x) := ⟨_, rfl⟩
   rw [hx0.out] at c0_
   obtain ⟨x1, hx1⟩ : ∃ x, Hid ((D.getD k Dd.zero).i = x) := ⟨_, rfl⟩
   rw [hx1.out] at c1_
   obtain ⟨x2, hx2⟩ : ∃ x, Hid ((D.getD k Dd.zero).s = x) := ⟨_, rfl⟩
   rw [hx2.out] at c2_
   have Y : Ws (wr.alloc (.cells #[.int .i64 x0, .int .i64 x1, .int .i64 x2, .slice (dA k) (dN D k) (dC k)] 121)) wr.heap.size [.int .i64 x0, .int .i64 x1, .int .i64 x2, .slice (dA k) (dN D k) (dC k)] := Ws.box (w := wr) #[.int .i64 x0, .int .i64 x1, .int .i64 x2, .slice (dA k) (dN D k) (dC k)] 121
   have kY : Below wr.heap.size wr (wr.alloc (.cells #[.int .i64 x0, .int .i64 x1, .int .i64 x2, .slice (dA k) (dN D k) (dC k)] 121)) := balloc (.cells #[.int .i64 x0, .int .i64 x1, .int .i64 x2, .slice (dA k) (dN D k) (dC k)] 121) (Below.refl wr.heap.size wr)
   have dX : X.lt = X.lt := rfl
   go_upto_region 7 with fail
   clear dX c0_ c1_ c2_ c3_
   generalize wr.alloc (.cells #[.int .i64 x0, .int .i64 x1, .int .i64 x2, .slice (dA k) (dN D k) (dC k)] 121) = y at *
   obtain ⟨KY, hKY⟩ : ∃ K, Hid (wr.heap.size = K) := ⟨_, rfl⟩
   have gY : g ≠ KY := by rw [← hKY.out]; omega
   have nXY : KX ≠ KY := by have := X.lt; rw [← hKY.out]; omega
   replace X := X.below kY
   replace R := R.below kY
   replace pB := Nat.le_trans pB kY.size
   replace o1 := own_below o1 kY
   replace o2 := own_below o2 kY
   replace o3 := own_below o3 kY
   replace b0 := btrans b0 kY
   have on1 : (∀ j, j < k → y.ownsRow BD 3 1 (sl j) (dN D j) (dX D j)) := fun j hj => own_below (on j hj) kY
   clear on kY
   rw [hKY.out] at Y
   rw [hKY.out]
   clear hKY
   have yc := X.c 14 (.slice (some ⟨g, 0, none⟩) D.length c3) rfl
   have yl := Y.c 3 (.slice (dA k) (dN D k) (dC k)) rfl
   have gX : g ≠ KX := by omega
   have hgl2 : g < y.heap.size := (o3.lt g rfl).2
   refine wp_region_w (fun x => x = g) s96_7 t96_7 (fun hbq => ?_)
   refine mY ?_
   refine mL ?_
   refine mY ?_
   refine mY ?_
   refine mL ?_
   refine mC (fun K hK => ?_)
   go_simp
   have bb : Below w.heap.size w y.drew := ⟨b0.os, b0.tape, b0.output, b0.size, b0.block⟩
   refine (cpI_any _ (dN D k) (nv (iF (D.getD k Dd.zero).bs)) _ (isl_src ((hh.db k hlt).1.below bb) (f3b k hlt)) (fun j _ => nv_one _ j) (hh.db k hlt).2).mono ?_
   rintro r w5 ⟨v5, rfl, on5, k5⟩
   obtain ⟨a_, c_, rfl, _⟩ := own_slice on5
   go_wp2_with fail
   refine hK.out _ _ (hbq.trans (Mw.of_below k5)) (.inl ?_)
   clear hK K
   replace hbq := hbq.trans (Mw.of_below k5)
   try simp only [putQ]
   refine mY ?_
   refine mY ?_
   have oW := own_below (show y.drew.ownsRow BD 121 4 (.slice (some ⟨g, 0, none⟩) D.length c3) D.length _ from o3) k5
   have cg := own_at oW (j := k * 4 + 3) (by omega)
   have fg := oW.frozenAt (k * 4 + 3)
   refine mC (fun K hK => ?_)
   go_simp
   go_wp2_with fail
   refine hK.out _ _ (hbq.set rfl) (.inl ?_)
   clear hK K
   try simp only [putQ]
   refine mE ?_
   have kk : Below y.heap.size y w5 := ⟨k5.os, k5.tape, k5.output, k5.size, k5.block⟩
   have mG : Mw (fun x => x = g) y (w5.setCell ⟨g, k * 4 + 3, none⟩ (.slice a_ (dN D k) c_)) := (Mw.of_below kk).set rfl
   have bE : Below w.heap.size w (w5.setCell ⟨g, k * 4 + 3, none⟩ (.slice a_ (dN D k) c_)) := (btrans b0 kk).setCell (p := ⟨g, k * 4 + 3, none⟩) (show w.heap.size ≤ g by omega) (.slice a_ (dN D k) c_)
   have XE := X.mw mG (fun q => gX q.symm)
   have RE := R.mw mG (fun q => by omega)
   have pE := Nat.le_trans pB mG.size
   have o1E := own_mw o1 mG (fun x e q => by have := lo1D.out x e; omega)
   have o2E := own_mw o2 mG (fun x e q => by have := lo2D.out x e; omega)
   have oE := own_put oW (k * 4 + 3) (.slice a_ (dN D k) c_)
   rw [rv_congr (fun i _ => dR_put D _ k (.slice a_ (dN D k) c_) i)] at oE
   have onE : (∀ j, j < k → (w5.setCell ⟨g, k * 4 + 3, none⟩ (.slice a_ (dN D k) c_)).ownsRow BD 3 1 (sl j) (dN D j) (dX D j)) := fun j hj => own_mw (on1 j hj) mG (fun x e q => by subst q; exact own_apart (on1 j hj) o3 (by decide) x e rfl)
   have on5E : (w5.setCell ⟨g, k * 4 + 3, none⟩ (.slice a_ (dN D k) c_)).ownsRow BD 3 1 (.slice a_ (dN D k) c_) (dN D k) (dX D k) := own_mw (own_mono (by have := (o3.lt g rfl).1; show BD ≤ y.drew.heap.size; have : y.drew.heap.size = y.heap.size := rfl; omega) on5) ((Mw.refl (fun x => x = g) _).set rfl) (fun x e q => by have := (on5.lt x e).1; have : y.drew.heap.size = y.heap.size := rfl; omega)
   have onL : ∀ j, j < k → ∀ x, (sl j).ownBlock = some x → x < y.heap.size := fun j hj x e => ((on1 j hj).lt x e).2
   have on5L : ∀ x, (Value.slice a_ (dN D k) c_).ownBlock = some x → y.heap.size ≤ x := fun x e => (on5.lt x e).1
   have hln := hh.hd
   clear o3 oW on1 on5 cg fg yc yl hbq k5 kk mG X R Y o1 o2 b0 pB
   generalize w5.setCell ⟨g, k * 4 + 3, none⟩ (.slice a_ (dN D k) c_) = z at *
   go_wp2
   go_roundw
   case rel =>
    refine ⟨k + 1, fun j => if j = k then .slice a_ (dN D k) c_ else sl j, by omega, by go_num, bE, XE, RE, pE, o1E, o2E, ?_, fun j hj => ?_, fun i j hi hj hij => ?_⟩
    ·rw [rv_congr (g := dR D (fun j => if j < k + 1 then (if j = k then .slice a_ (dN D k) c_ else sl j) else .slice (dA j) (dN D j) (dC j))) (fun i _ => ?_)] at oE
     ·exact oE
     ·congr 1
      funext j
      by_cases e : j = k
      ·subst e; simp
      ·have : j < k + 1 ↔ j < k := by omega
       simp [e, this]
    ·dsimp only
     by_cases e : j = k
     ·subst e
      rw [if_pos rfl]
      exact on5E
     ·rw [if_neg e]
      exact onE j (by omega)
    ·dsimp only
     by_cases e : i = k
     ·subst e
      rw [if_pos rfl, if_neg (fun q => hij q.symm)]
      intro x e1 e2
      have q1 := on5L x e1
      have q2 := onL j (by omega) x e2
      omega
     ·rw [if_neg e]
      by_cases e' : j = k
      ·subst e'
       rw [if_pos rfl]
       intro x e1 e2
       have q1 := on5L x e2
       have q2 := onL i (by omega) x e1
       omega
      ·rw [if_neg e']
       exact oa_ i j (by omega) (by omega) hij
   case measure => simp [intOf]; omega
  ·have e : k = D.length := by omega
   subst e
   obtain ⟨sD, hsD⟩ : ∃ s, Hid (sl = s) := ⟨_, rfl⟩
   rw [hsD.out] at o3 on oa_
   clear hsD sl hk hlt
   have rz : wr.ownsRow BD 121 4 (.slice a3 D.length c3) D.length (rv (dR D sD) (D.length * 4)) := by
    rw [rv_congr (g := dR D sD) (fun i hi => ?_)] at o3
    ·exact o3
    ·unfold dR
     dsimp only
     repeat' split
     all_goals (first | rfl | (exfalso; omega))
   have nD : OwD wr BD (.slice a3 D.length c3) D.length (dR D sD) sD (dN D) (dX D) := ⟨rz, fun j _ => (dR_at D sD j).2.2.2, on, oa_⟩
   clear o3 on oa_ rz
   have mD : OwD wr (KX + 1 + 1) (.slice a3 D.length c3) D.length (dR D sD) sD (dN D) (dX D) := ⟨own_mono qBD nD.row, nD.at_, fun j hj => own_mono qBD (nD.nest j hj), nD.apart⟩
   have kD : Hid (∀ x, bkD (.slice a3 D.length c3) D.length sD x → BD ≤ x) := fun x e => (nD.lo x e).1
   clear nD
   obtain ⟨BP, hBP⟩ : ∃ B, Hid (wr.heap.size = B) := ⟨_, rfl⟩
   have qBP : KX + 1 + 1 ≤ BP := by rw [← hBP.out]; exact pB
   have lo1P : Hid (∀ x, (Value.slice a1 T.length c1).ownBlock = some x → x < BP) := fun x e => by rw [← hBP.out]; exact (o1.lt x e).2
   have lo2P : Hid (∀ x, (Value.slice a2 C.length c2).ownBlock = some x → x < BP) := fun x e => by rw [← hBP.out]; exact (o2.lt x e).2
   have lmDP : Hid (∀ x, bkD (.slice a3 D.length c3) D.length sD x → x < BP) := fun x e => by rw [← hBP.out]; exact (mD.lo x e).2
   have d19 := X.c 19 (.slice pla P.length plc) rfl
   go_wp2_with fail
   refine (cpP_any _ P.length (pR P (fun j => .slice (pA j) (pN P j) (pC j))) _ (psl_src (hh.p.below b0) f4) (pR_one (fun _ _ => rfl)) hh.hp).mono ?_
   rintro r w1 ⟨v, rfl, o4, k1⟩
   rw [hBP.out] at o4
   clear d19
   replace X := X.below k1
   replace R := R.below k1
   replace pB := Nat.le_trans pB k1.size
   replace o1 := own_below o1 k1
   replace o2 := own_below o2 k1
   replace mD := mD.below k1
   replace b0 := btrans b0 k1
   obtain ⟨a4, c4, rfl, _⟩ := own_slice o4
   clear k1
   have y19 := X.c 19 (.slice pla P.length plc) rfl
   have z19 := X.z 19
   go_upto_region 10 with fail
   have mX : Mw (fun x => x = KX) w1 (w1.setCell ⟨KX, 19, none⟩ (.slice a4 P.length c4)) := (Mw.refl _ _).set rfl
   replace o1 := own_mw o1 mX (fun x e q => by have := (o1.lt x e).1; omega)
   replace o2 := own_mw o2 mX (fun x e q => by have := (o2.lt x e).1; omega)
   replace mD := mD.mw mX (fun x e q => by have := (mD.lo x e).1; omega)
   replace o4 := own_mw o4 mX (fun x e q => by have := (o4.lt x e).1; omega)
   have X2 := X.set 19 (by simp) (.slice a4 P.length c4)
   have R2 := R.far (b' := KX) (k := 19) (v := .slice a4 P.length c4) nXR.symm
   have b02 := b0.setCell (p := ⟨KX, 19, none⟩) g0 (.slice a4 P.length c4)
   have pB2 : KX + 1 + 1 ≤ (w1.setCell ⟨KX, 19, none⟩ (.slice a4 P.length c4)).heap.size := by simpa [World.setCell] using pB
   clear mX X R b0 pB y19 z19 hBP
   generalize w1.setCell ⟨KX, 19, none⟩ (.slice a4 P.length c4) = u4 at *
   have X : Ws u4 KX [.int .i64 me, .bool up, .bool gone, .bool gate, .int .i64 inc, .int .i64 now, .int .i64 sq, .int .i64 turn, .slice a1 T.length c1, .slice a2 C.length c2, .int .i64 pn, .int .i64 ps, .int .i64 pq, .bool pa, .slice a3 D.length c3, .int .i64 cx, .int .i64 cy, .int .i64 ch, .int .i64 ce, .slice a4 P.length c4, .slice oa O.length oc] := X2
   have R := R2
   have b0 := b02
   have pB := pB2
   clear X2 R2 b02 pB2
   have y19 := X.c 19 (.slice a4 P.length c4) rfl
   go_wp2_with fail
   clear y19
   go_loopw [45] (fun i wr => ∃ (k : Nat) (sl : Nat → Value), k ≤ P.length ∧ i = .int .i64 k ∧ Below w.heap.size w wr ∧ Ws wr KX [.int .i64 me, .bool up, .bool gone, .bool gate, .int .i64 inc, .int .i64 now, .int .i64 sq, .int .i64 turn, .slice a1 T.length c1, .slice a2 C.length c2, .int .i64 pn, .int .i64 ps, .int .i64 pq, .bool pa, .slice a3 D.length c3, .int .i64 cx, .int .i64 cy, .int .i64 ch, .int .i64 ce, .slice a4 P.length c4, .slice oa O.length oc] ∧ Ws wr (KX + 1) [.int .i64 0, .bool false, .bool false, .bool false, .int .i64 0, .int .i64 0, .int .i64 0, .int .i64 0, .slice none 0 0, .slice none 0 0, .int .i64 0, .int .i64 0, .int .i64 0, .bool false, .slice none 0 0, .int .i64 0, .int .i64 0, .int .i64 0, .int .i64 0, .slice none 0 0, .slice none 0 0] ∧ KX + 1 + 1 ≤ wr.heap.size ∧ wr.ownsRow (KX + 1 + 1) 96 4 (.slice a1 T.length c1) T.length (rv (fv (tF T)) (T.length * 4)) ∧ wr.ownsRow (KX + 1 + 1) 127 5 (.slice a2 C.length c2) C.length (rv (tv (cF C)) (C.length * 5)) ∧ OwD wr (KX + 1 + 1) (.slice a3 D.length c3) D.length (dR D sD) sD (dN D) (dX D) ∧ wr.ownsRow BP 103 6 (.slice a4 P.length c4) P.length (rv (pR P (fun j => if j < k then sl j else .slice (pA j) (pN P j) (pC j))) (P.length * 6)) ∧ (∀ j, j < k → wr.ownsRow BP 3 1 (sl j) (pN P j) (pX P j)) ∧ (∀ i j, i < k → j < k → i ≠ j → Apt (sl i) (sl j))) (fun i _ => P.length - (intOf i).toNat)
   case atStart => exact ⟨0, fun _ => .slice none 0 0, Nat.zero_le _, rfl, b0, X, R, pB, o1, o2, mD, by simpa using o4, fun j hj => by omega, fun i j hi => by omega⟩
   case round =>
    clear X R b0 pB o1 o2 mD o4
    obtain ⟨k, sl, hk, rfl, b0, X, R, pB, o1, o2, mD, o4, on, oa_⟩ := hrel
    by_cases hlt : k < P.length
    ·have i0 : (0 : Int) ≤ (k : Int) := by omega
     have i1 : (k : Int) < (P.length : Int) := by omega
     rcases own_cases o4 with ⟨_, e⟩ | ⟨g, c, e, hg, hgl, _⟩
     ·omega
     obtain ⟨rfl, rfl⟩ : a4 = some ⟨g, 0, none⟩ ∧ c4 = c := by simpa using e
     clear e
     obtain ⟨e0, e1, e2, e3, e4, e5⟩ := pR_at P (fun j => if j < k then sl j else .slice (pA j) (pN P j) (pC j)) k
     (try dsimp only at e5)
     rw [if_neg (Nat.lt_irrefl k)] at e5
     have c0_ := (own_at o4 (j := k * 6) (by omega)).trans (congrArg some e0)
     have c1_ := (own_at o4 (j := k * 6 + 1) (by omega)).trans (congrArg some e1)
     have c2_ := (own_at o4 (j := k * 6 + 2) (by omega)).trans (congrArg some e2)
     have c3_ := (own_at o4 (j := k * 6 + 3) (by omega)).trans (congrArg some e3)
     have c4_ := (own_at o4 (j := k * 6 + 4) (by omega)).trans (congrArg some e4)
     have c5_ := (own_at o4 (j := k * 6 + 5) (by omega)).trans (congrArg some e5)
     clear e0 e1 e2 e3 e4 e5
     obtain ⟨x0, hx0⟩ : ∃ x, Hid ((P.getD k Pd.zero).n = x) := ⟨_, rfl⟩
     rw [hx0.out] at c0_
     obtain ⟨x1, hx1⟩ : ∃ x, Hid ((P.getD k Pd.zero).x = x) := ⟨_, rfl⟩
     rw [hx1.out] at c1_
     obtain ⟨x2, hx2⟩ : ∃ x, Hid ((P.getD k Pd.zero).y = x) := ⟨_, rfl⟩
     rw [hx2.out] at c2_
     obtain ⟨x3, hx3⟩ : ∃ x, Hid ((P.getD k Pd.zero).h = x) := ⟨_, rfl⟩
     rw [hx3.out] at c3_
     obtain ⟨x4, hx4⟩ : ∃ x, Hid ((P.getD k Pd.zero).e = x) := ⟨_, rfl⟩
     rw [hx4.out] at c4_
     have Y : Ws (wr.alloc (.cells #[.int .i64 x0, .int .i64 x1, .int .i64 x2, .int .i64 x3, .int .i64 x4, .slice (pA k) (pN P k) (pC k)] 103)) wr.heap.size [.int .i64 x0, .int .i64 x1, .int .i64 x2, .int .i64 x3, .int .i64 x4, .slice (pA k) (pN P k) (pC k)] := Ws.box (w := wr) #[.int .i64 x0, .int .i64 x1, .int .i64 x2, .int .i64 x3, .int .i64 x4, .slice (pA k) (pN P k) (pC k)] 103
     have kY : Below wr.heap.size wr (wr.alloc (.cells #[.int .i64 x0, .int .i64 x1, .int .i64 x2, .int .i64 x3, .int .i64 x4, .slice (pA k) (pN P k) (pC k)] 103)) := balloc (.cells #[.int .i64 x0, .int .i64 x1, .int .i64 x2, .int .i64 x3, .int .i64 x4, .slice (pA k) (pN P k) (pC k)] 103) (Below.refl wr.heap.size wr)
     have dX : X.lt = X.lt := rfl
     go_upto_region 13 with fail
     clear dX c0_ c1_ c2_ c3_ c4_ c5_
     generalize wr.alloc (.cells #[.int .i64 x0, .int .i64 x1, .int .i64 x2, .int .i64 x3, .int .i64 x4, .slice (pA k) (pN P k) (pC k)] 103) = y at *
     obtain ⟨KY, hKY⟩ : ∃ K, Hid (wr.heap.size = K) := ⟨_, rfl⟩
     have gY : g ≠ KY := by rw [← hKY.out]; omega
     have nXY : KX ≠ KY := by have := X.lt; rw [← hKY.out]; omega
     replace X := X.below kY
     replace R := R.below kY
     replace pB := Nat.le_trans pB kY.size
     replace o1 := own_below o1 kY
     replace o2 := own_below o2 kY
     replace mD := mD.below kY
     replace o4 := own_below o4 kY
     replace b0 := btrans b0 kY
     have on1 : (∀ j, j < k → y.ownsRow BP 3 1 (sl j) (pN P j) (pX P j)) := fun j hj => own_below (on j hj) kY
     clear on kY
     rw [hKY.out] at Y
     rw [hKY.out]
     clear hKY
     have yc := X.c 19 (.slice (some ⟨g, 0, none⟩) P.length c4) rfl
     have yl := Y.c 5 (.slice (pA k) (pN P k) (pC k)) rfl
     have gX : g ≠ KX := by omega
     have hgl2 : g < y.heap.size := (o4.lt g rfl).2
     refine wp_region_w (fun x => x = g) s96_13 t96_13 (fun hbq => ?_)
     refine mY ?_
     refine mL ?_
     refine mY ?_
     refine mY ?_
     refine mL ?_
     refine mC (fun K hK => ?_)
     go_simp
     have bb : Below w.heap.size w y.drew := ⟨b0.os, b0.tape, b0.output, b0.size, b0.block⟩
     refine (cpI_any _ (pN P k) (nv (iF (P.getD k Pd.zero).ts)) _ (isl_src ((hh.pb k hlt).1.below bb) (f4b k hlt)) (fun j _ => nv_one _ j) (hh.pb k hlt).2).mono ?_
     rintro r w5 ⟨v5, rfl, on5, k5⟩
     obtain ⟨a_, c_, rfl, _⟩ := own_slice on5
     go_wp2_with fail
     refine hK.out _ _ (hbq.trans (Mw.of_below k5)) (.inl ?_)
     clear hK K
     replace hbq := hbq.trans (Mw.of_below k5)
     try simp only [putQ]
     refine mY ?_
     refine mY ?_
     have oW := own_below (show y.drew.ownsRow BP 103 6 (.slice (some ⟨g, 0, none⟩) P.length c4) P.length _ from o4) k5
     have cg := own_at oW (j := k * 6 + 5) (by omega)
     have fg := oW.frozenAt (k * 6 + 5)
     refine mC (fun K hK => ?_)
     go_simp
     go_wp2_with fail
     refine hK.out _ _ (hbq.set rfl) (.inl ?_)
     clear hK K
     try simp only [putQ]
     refine mE ?_
     have kk : Below y.heap.size y w5 := ⟨k5.os, k5.tape, k5.output, k5.size, k5.block⟩
     have mG : Mw (fun x => x = g) y (w5.setCell ⟨g, k * 6 + 5, none⟩ (.slice a_ (pN P k) c_)) := (Mw.of_below kk).set rfl
     have bE : Below w.heap.size w (w5.setCell ⟨g, k * 6 + 5, none⟩ (.slice a_ (pN P k) c_)) := (btrans b0 kk).setCell (p := ⟨g, k * 6 + 5, none⟩) (show w.heap.size ≤ g by omega) (.slice a_ (pN P k) c_)
     have XE := X.mw mG (fun q => gX q.symm)
     have RE := R.mw mG (fun q => by omega)
     have pE := Nat.le_trans pB mG.size
     have o1E := own_mw o1 mG (fun x e q => by have := lo1P.out x e; omega)
     have o2E := own_mw o2 mG (fun x e q => by have := lo2P.out x e; omega)
     have mDE := mD.mw mG (fun x e q => by have := lmDP.out x e; omega)
     have oE := own_put oW (k * 6 + 5) (.slice a_ (pN P k) c_)
     rw [rv_congr (fun i _ => pR_put P _ k (.slice a_ (pN P k) c_) i)] at oE
     have onE : (∀ j, j < k → (w5.setCell ⟨g, k * 6 + 5, none⟩ (.slice a_ (pN P k) c_)).ownsRow BP 3 1 (sl j) (pN P j) (pX P j)) := fun j hj => own_mw (on1 j hj) mG (fun x e q => by subst q; exact own_apart (on1 j hj) o4 (by decide) x e rfl)
     have on5E : (w5.setCell ⟨g, k * 6 + 5, none⟩ (.slice a_ (pN P k) c_)).ownsRow BP 3 1 (.slice a_ (pN P k) c_) (pN P k) (pX P k) := own_mw (own_mono (by have := (o4.lt g rfl).1; show BP ≤ y.drew.heap.size; have : y.drew.heap.size = y.heap.size := rfl; omega) on5) ((Mw.refl (fun x => x = g) _).set rfl) (fun x e q => by have := (on5.lt x e).1; have : y.drew.heap.size = y.heap.size := rfl; omega)
     have onL : ∀ j, j < k → ∀ x, (sl j).ownBlock = some x → x < y.heap.size := fun j hj x e => ((on1 j hj).lt x e).2
     have on5L : ∀ x, (Value.slice a_ (pN P k) c_).ownBlock = some x → y.heap.size ≤ x := fun x e => (on5.lt x e).1
     have hln := hh.hp
     clear o4 oW on1 on5 cg fg yc yl hbq k5 kk mG X R Y o1 o2 mD b0 pB
     generalize w5.setCell ⟨g, k * 6 + 5, none⟩ (.slice a_ (pN P k) c_) = z at *
     go_wp2
     go_roundw
     case rel =>
      refine ⟨k + 1, fun j => if j = k then .slice a_ (pN P k) c_ else sl j, by omega, by go_num, bE, XE, RE, pE, o1E, o2E, mDE, ?_, fun j hj => ?_, fun i j hi hj hij => ?_⟩
      ·rw [rv_congr (g := pR P (fun j => if j < k + 1 then (if j = k then .slice a_ (pN P k) c_ else sl j) else .slice (pA j) (pN P j) (pC j))) (fun i _ => ?_)] at oE
       ·exact oE
       ·congr 1
        funext j
        by_cases e : j = k
        ·subst e; simp
        ·have : j < k + 1 ↔ j < k := by omega
         simp [e, this]
      ·dsimp only
       by_cases e : j = k
       ·subst e
        rw [if_pos rfl]
        exact on5E
       ·rw [if_neg e]
        exact onE j (by omega)
      ·dsimp only
       by_cases e : i = k
       ·subst e
        rw [if_pos rfl, if_neg (fun q => hij q.symm)]
        intro x e1 e2
        have q1 := on5L x e1
        have q2 := onL j (by omega) x e2
        omega
       ·rw [if_neg e]
        by_cases e' : j = k
        ·subst e'
         rw [if_pos rfl]
         intro x e1 e2
         have q1 := on5L x e2
         have q2 := onL i (by omega) x e1
         omega
        ·rw [if_neg e']
         exact oa_ i j (by omega) (by omega) hij
     case measure => simp [intOf]; omega
    ·have e : k = P.length := by omega
     subst e
     obtain ⟨sP, hsP⟩ : ∃ s, Hid (sl = s) := ⟨_, rfl⟩
     rw [hsP.out] at o4 on oa_
     clear hsP sl hk hlt
     have rz : wr.ownsRow BP 103 6 (.slice a4 P.length c4) P.length (rv (pR P sP) (P.length * 6)) := by
      rw [rv_congr (g := pR P sP) (fun i hi => ?_)] at o4
      ·exact o4
      ·unfold pR
       dsimp only
       repeat' split
       all_goals (first | rfl | (exfalso; omega))
     have nP : OwP wr BP (.slice a4 P.length c4) P.length (pR P sP) sP (pN P) (pX P) := ⟨rz, fun j _ => (pR_at P sP j).2.2.2.2.2, on, oa_⟩
     clear o4 on oa_ rz
     have mP : OwP wr (KX + 1 + 1) (.slice a4 P.length c4) P.length (pR P sP) sP (pN P) (pX P) := ⟨own_mono qBP nP.row, nP.at_, fun j hj => own_mono qBP (nP.nest j hj), nP.apart⟩
     have kP : Hid (∀ x, bkP (.slice a4 P.length c4) P.length sP x → BP ≤ x) := fun x e => (nP.lo x e).1
     clear nP
     obtain ⟨BO, hBO⟩ : ∃ B, Hid (wr.heap.size = B) := ⟨_, rfl⟩
     have qBO : KX + 1 + 1 ≤ BO := by rw [← hBO.out]; exact pB
     have lo1O : Hid (∀ x, (Value.slice a1 T.length c1).ownBlock = some x → x < BO) := fun x e => by rw [← hBO.out]; exact (o1.lt x e).2
     have lo2O : Hid (∀ x, (Value.slice a2 C.length c2).ownBlock = some x → x < BO) := fun x e => by rw [← hBO.out]; exact (o2.lt x e).2
     have lmDO : Hid (∀ x, bkD (.slice a3 D.length c3) D.length sD x → x < BO) := fun x e => by rw [← hBO.out]; exact (mD.lo x e).2
     have lmPO : Hid (∀ x, bkP (.slice a4 P.length c4) P.length sP x → x < BO) := fun x e => by rw [← hBO.out]; exact (mP.lo x e).2
     have d20 := X.c 20 (.slice oa O.length oc) rfl
     go_wp2_with fail
     refine (cpO_any _ O.length (oR O (fun j => .slice (oA j) (oN O j) (oC j))) _ (osl_src (hh.o.below b0) f5) (oR_one (fun _ _ => rfl)) hh.ho).mono ?_
     rintro r w1 ⟨v, rfl, o5, k1⟩
     rw [hBO.out] at o5
     clear d20
     replace X := X.below k1
     replace R := R.below k1
     replace pB := Nat.le_trans pB k1.size
     replace o1 := own_below o1 k1
     replace o2 := own_below o2 k1
     replace mD := mD.below k1
     replace mP := mP.below k1
     replace b0 := btrans b0 k1
     obtain ⟨a5, c5, rfl, _⟩ := own_slice o5
     clear k1
     have y20 := X.c 20 (.slice oa O.length oc) rfl
     have z20 := X.z 20
     go_upto_region 16 with fail
     have mX : Mw (fun x => x = KX) w1 (w1.setCell ⟨KX, 20, none⟩ (.slice a5 O.length c5)) := (Mw.refl _ _).set rfl
     replace o1 := own_mw o1 mX (fun x e q => by have := (o1.lt x e).1; omega)
     replace o2 := own_mw o2 mX (fun x e q => by have := (o2.lt x e).1; omega)
     replace mD := mD.mw mX (fun x e q => by have := (mD.lo x e).1; omega)
     replace mP := mP.mw mX (fun x e q => by have := (mP.lo x e).1; omega)
     replace o5 := own_mw o5 mX (fun x e q => by have := (o5.lt x e).1; omega)
     have X2 := X.set 20 (by simp) (.slice a5 O.length c5)
     have R2 := R.far (b' := KX) (k := 20) (v := .slice a5 O.length c5) nXR.symm
     have b02 := b0.setCell (p := ⟨KX, 20, none⟩) g0 (.slice a5 O.length c5)
     have pB2 : KX + 1 + 1 ≤ (w1.setCell ⟨KX, 20, none⟩ (.slice a5 O.length c5)).heap.size := by simpa [World.setCell] using pB
     clear mX X R b0 pB y20 z20 hBO
     generalize w1.setCell ⟨KX, 20, none⟩ (.slice a5 O.length c5) = u5 at *
     have X : Ws u5 KX [.int .i64 me, .bool up, .bool gone, .bool gate, .int .i64 inc, .int .i64 now, .int .i64 sq, .int .i64 turn, .slice a1 T.length c1, .slice a2 C.length c2, .int .i64 pn, .int .i64 ps, .int .i64 pq, .bool pa, .slice a3 D.length c3, .int .i64 cx, .int .i64 cy, .int .i64 ch, .int .i64 ce, .slice a4 P.length c4, .slice a5 O.length c5] := X2
     have R := R2
     have b0 := b02
     have pB := pB2
     clear X2 R2 b02 pB2
     have y20 := X.c 20 (.slice a5 O.length c5) rfl
     go_wp2_with fail
     clear y20
     go_loopw [66] (fun i wr => ∃ (k : Nat) (sl : Nat → Value), k ≤ O.length ∧ i = .int .i64 k ∧ Below w.heap.size w wr ∧ Ws wr KX [.int .i64 me, .bool up, .bool gone, .bool gate, .int .i64 inc, .int .i64 now, .int .i64 sq, .int .i64 turn, .slice a1 T.length c1, .slice a2 C.length c2, .int .i64 pn, .int .i64 ps, .int .i64 pq, .bool pa, .slice a3 D.length c3, .int .i64 cx, .int .i64 cy, .int .i64 ch, .int .i64 ce, .slice a4 P.length c4, .slice a5 O.length c5] ∧ Ws wr (KX + 1) [.int .i64 0, .bool false, .bool false, .bool false, .int .i64 0, .int .i64 0, .int .i64 0, .int .i64 0, .slice none 0 0, .slice none 0 0, .int .i64 0, .int .i64 0, .int .i64 0, .bool false, .slice none 0 0, .int .i64 0, .int .i64 0, .int .i64 0, .int .i64 0, .slice none 0 0, .slice none 0 0] ∧ KX + 1 + 1 ≤ wr.heap.size ∧ wr.ownsRow (KX + 1 + 1) 96 4 (.slice a1 T.length c1) T.length (rv (fv (tF T)) (T.length * 4)) ∧ wr.ownsRow (KX + 1 + 1) 127 5 (.slice a2 C.length c2) C.length (rv (tv (cF C)) (C.length * 5)) ∧ OwD wr (KX + 1 + 1) (.slice a3 D.length c3) D.length (dR D sD) sD (dN D) (dX D) ∧ OwP wr (KX + 1 + 1) (.slice a4 P.length c4) P.length (pR P sP) sP (pN P) (pX P) ∧ wr.ownsRow BO 123 2 (.slice a5 O.length c5) O.length (rv (oR O (fun j => if j < k then sl j else .slice (oA j) (oN O j) (oC j))) (O.length * 2)) ∧ (∀ j, j < k → wr.ownsRow BO 96 4 (sl j) (oN O j) (oX O j)) ∧ (∀ i j, i < k → j < k → i ≠ j → Apt (sl i) (sl j))) (fun i _ => O.length - (intOf i).toNat)
     case atStart => exact ⟨0, fun _ => .slice none 0 0, Nat.zero_le _, rfl, b0, X, R, pB, o1, o2, mD, mP, by simpa using o5, fun j hj => by omega, fun i j hi => by omega⟩
     case round =>
      clear X R b0 pB o1 o2 mD mP o5
      obtain ⟨k, sl, hk, rfl, b0, X, R, pB, o1, o2, mD, mP, o5, on, oa_⟩ := hrel
      by_cases hlt : k < O.length
      ·have i0 : (0 : Int) ≤ (k : Int) := by omega
       have i1 : (k : Int) < (O.length : Int) := by omega
       rcases own_cases o5 with ⟨_, e⟩ | ⟨g, c, e, hg, hgl, _⟩
       ·omega
       obtain ⟨rfl, rfl⟩ : a5 = some ⟨g, 0, none⟩ ∧ c5 = c := by simpa using e
       clear e
       obtain ⟨e0, e1⟩ := oR_at O (fun j => if j < k then sl j else .slice (oA j) (oN O j) (oC j)) k
       (try dsimp only at e1)
       rw [if_neg (Nat.lt_irrefl k)] at e1
       have c0_ := (own_at o5 (j := k * 2) (by omega)).trans (congrArg some e0)
       have c1_ := (own_at o5 (j := k * 2 + 1) (by omega)).trans (congrArg some e1)
       clear e0 e1
       obtain ⟨x0, hx0⟩ : ∃ x, Hid ((O.getD k Od.zero).n = x) := ⟨_, rfl⟩
       rw [hx0.out] at c0_
       have Y : Ws (wr.alloc (.cells #[.int .i64 x0, .slice (oA k) (oN O k) (oC k)] 123)) wr.heap.size [.int .i64 x0, .slice (oA k) (oN O k) (oC k)] := Ws.box (w := wr) #[.int .i64 x0, .slice (oA k) (oN O k) (oC k)] 123
       have kY : Below wr.heap.size wr (wr.alloc (.cells #[.int .i64 x0, .slice (oA k) (oN O k) (oC k)] 123)) := balloc (.cells #[.int .i64 x0, .slice (oA k) (oN O k) (oC k)] 123) (Below.refl wr.heap.size wr)
       have dX : X.lt = X.lt := rfl
       go_upto_region 19 with fail
       clear dX c0_ c1_
       generalize wr.alloc (.cells #[.int .i64 x0, .slice (oA k) (oN O k) (oC k)] 123) = y at *
       obtain ⟨KY, hKY⟩ : ∃ K, Hid (wr.heap.size = K) := ⟨_, rfl⟩
       have gY : g ≠ KY := by rw [← hKY.out]; omega
       have nXY : KX ≠ KY := by have := X.lt; rw [← hKY.out]; omega
       replace X := X.below kY
       replace R := R.below kY
       replace pB := Nat.le_trans pB kY.size
       replace o1 := own_below o1 kY
       replace o2 := own_below o2 kY
       replace mD := mD.below kY
       replace mP := mP.below kY
       replace o5 := own_below o5 kY
       replace b0 := btrans b0 kY
       have on1 : (∀ j, j < k → y.ownsRow BO 96 4 (sl j) (oN O j) (oX O j)) := fun j hj => own_below (on j hj) kY
       clear on kY
       rw [hKY.out] at Y
       rw [hKY.out]
       clear hKY
       have yc := X.c 20 (.slice (some ⟨g, 0, none⟩) O.length c5) rfl
       have yl := Y.c 1 (.slice (oA k) (oN O k) (oC k)) rfl
       have gX : g ≠ KX := by omega
       have hgl2 : g < y.heap.size := (o5.lt g rfl).2
       refine wp_region_w (fun x => x = g) s96_19 t96_19 (fun hbq => ?_)
       refine mY ?_
       refine mL ?_
       refine mY ?_
       refine mY ?_
       refine mL ?_
       refine mC (fun K hK => ?_)
       go_simp
       have bb : Below w.heap.size w y.drew := ⟨b0.os, b0.tape, b0.output, b0.size, b0.block⟩
       refine (cpF_any _ (oN O k) (fv (tF (O.getD k Od.zero).fs)) _ (fsl_src ((hh.ob k hlt).1.below bb) (f5b k hlt)) (fun j _ => fv_one _ j) (hh.ob k hlt).2).mono ?_
       rintro r w5 ⟨v5, rfl, on5, k5⟩
       obtain ⟨a_, c_, rfl, _⟩ := own_slice on5
       go_wp2_with fail
       refine hK.out _ _ (hbq.trans (Mw.of_below k5)) (.inl ?_)
       clear hK K
       replace hbq := hbq.trans (Mw.of_below k5)
       try simp only [putQ]
       refine mY ?_
       refine mY ?_
       have oW := own_below (show y.drew.ownsRow BO 123 2 (.slice (some ⟨g, 0, none⟩) O.length c5) O.length _ from o5) k5
       have cg := own_at oW (j := k * 2 + 1) (by omega)
       have fg := oW.frozenAt (k * 2 + 1)
       refine mC (fun K hK => ?_)
       go_simp
       go_wp2_with fail
       refine hK.out _ _ (hbq.set rfl) (.inl ?_)
       clear hK K
       try simp only [putQ]
       refine mE ?_
       have kk : Below y.heap.size y w5 := ⟨k5.os, k5.tape, k5.output, k5.size, k5.block⟩
       have mG : Mw (fun x => x = g) y (w5.setCell ⟨g, k * 2 + 1, none⟩ (.slice a_ (oN O k) c_)) := (Mw.of_below kk).set rfl
       have bE : Below w.heap.size w (w5.setCell ⟨g, k * 2 + 1, none⟩ (.slice a_ (oN O k) c_)) := (btrans b0 kk).setCell (p := ⟨g, k * 2 + 1, none⟩) (show w.heap.size ≤ g by omega) (.slice a_ (oN O k) c_)
       have XE := X.mw mG (fun q => gX q.symm)
       have RE := R.mw mG (fun q => by omega)
       have pE := Nat.le_trans pB mG.size
       have o1E := own_mw o1 mG (fun x e q => by have := lo1O.out x e; omega)
       have o2E := own_mw o2 mG (fun x e q => by have := lo2O.out x e; omega)
       have mDE := mD.mw mG (fun x e q => by have := lmDO.out x e; omega)
       have mPE := mP.mw mG (fun x e q => by have := lmPO.out x e; omega)
       have oE := own_put oW (k * 2 + 1) (.slice a_ (oN O k) c_)
       rw [rv_congr (fun i _ => oR_put O _ k (.slice a_ (oN O k) c_) i)] at oE
       have onE : (∀ j, j < k → (w5.setCell ⟨g, k * 2 + 1, none⟩ (.slice a_ (oN O k) c_)).ownsRow BO 96 4 (sl j) (oN O j) (oX O j)) := fun j hj => own_mw (on1 j hj) mG (fun x e q => by subst q; exact own_apart (on1 j hj) o5 (by decide) x e rfl)
       have on5E : (w5.setCell ⟨g, k * 2 + 1, none⟩ (.slice a_ (oN O k) c_)).ownsRow BO 96 4 (.slice a_ (oN O k) c_) (oN O k) (oX O k) := own_mw (own_mono (by have := (o5.lt g rfl).1; show BO ≤ y.drew.heap.size; have : y.drew.heap.size = y.heap.size := rfl; omega) on5) ((Mw.refl (fun x => x = g) _).set rfl) (fun x e q => by have := (on5.lt x e).1; have : y.drew.heap.size = y.heap.size := rfl; omega)
       have onL : ∀ j, j < k → ∀ x, (sl j).ownBlock = some x → x < y.heap.size := fun j hj x e => ((on1 j hj).lt x e).2
       have on5L : ∀ x, (Value.slice a_ (oN O k) c_).ownBlock = some x → y.heap.size ≤ x := fun x e => (on5.lt x e).1
       have hln := hh.ho
       clear o5 oW on1 on5 cg fg yc yl hbq k5 kk mG X R Y o1 o2 mD mP b0 pB
       generalize w5.setCell ⟨g, k * 2 + 1, none⟩ (.slice a_ (oN O k) c_) = z at *
       go_wp2
       go_roundw
       case rel =>
        refine ⟨k + 1, fun j => if j = k then .slice a_ (oN O k) c_ else sl j, by omega, by go_num, bE, XE, RE, pE, o1E, o2E, mDE, mPE, ?_, fun j hj => ?_, fun i j hi hj hij => ?_⟩
        ·rw [rv_congr (g := oR O (fun j => if j < k + 1 then (if j = k then .slice a_ (oN O k) c_ else sl j) else .slice (oA j) (oN O j) (oC j))) (fun i _ => ?_)] at oE
         ·exact oE
         ·congr 1
          funext j
          by_cases e : j = k
          ·subst e; simp
          ·have : j < k + 1 ↔ j < k := by omega
           simp [e, this]
        ·dsimp only
         by_cases e : j = k
         ·subst e
          rw [if_pos rfl]
          exact on5E
         ·rw [if_neg e]
          exact onE j (by omega)
        ·dsimp only
         by_cases e : i = k
         ·subst e
          rw [if_pos rfl, if_neg (fun q => hij q.symm)]
          intro x e1 e2
          have q1 := on5L x e1
          have q2 := onL j (by omega) x e2
          omega
         ·rw [if_neg e]
          by_cases e' : j = k
          ·subst e'
           rw [if_pos rfl]
           intro x e1 e2
           have q1 := on5L x e2
           have q2 := onL i (by omega) x e1
           omega
          ·rw [if_neg e']
           exact oa_ i j (by omega) (by omega) hij
       case measure => simp [intOf]; omega
      ·have e : k = O.length := by omega
       subst e
       obtain ⟨sO, hsO⟩ : ∃ s, Hid (sl = s) := ⟨_, rfl⟩
       rw [hsO.out] at o5 on oa_
       clear hsO sl hk hlt
       have rz : wr.ownsRow BO 123 2 (.slice a5 O.length c5) O.length (rv (oR O sO) (O.length * 2)) := by
        rw [rv_congr (g := oR O sO) (fun i hi => ?_)] at o5
        ·exact o5
        ·unfold oR
         dsimp only
         repeat' split
         all_goals (first | rfl | (exfalso; omega))
       have nO : OwO wr BO (.slice a5 O.length c5) O.length (oR O sO) sO (oN O) (oX O) := ⟨rz, fun j _ => (oR_at O sO j).2, on, oa_⟩
       clear o5 on oa_ rz
       have mO : OwO wr (KX + 1 + 1) (.slice a5 O.length c5) O.length (oR O sO) sO (oN O) (oX O) := ⟨own_mono qBO nO.row, nO.at_, fun j hj => own_mono qBO (nO.nest j hj), nO.apart⟩
       have kO : Hid (∀ x, bkO (.slice a5 O.length c5) O.length sO x → BO ≤ x) := fun x e => (nO.lo x e).1
       clear nO
       have hth : wr.there (KX + 1) 0 21 := R.there rfl
       have yr := X.range
       have mE : Mw (fun x => x = KX + 1) wr (wr.setCells (KX + 1) 0 (#[.int .i64 me, .bool up, .bool gone, .bool gate, .int .i64 inc, .int .i64 now, .int .i64 sq, .int .i64 turn, .slice a1 T.length c1, .slice a2 C.length c2, .int .i64 pn, .int .i64 ps, .int .i64 pq, .bool pa, .slice a3 D.length c3, .int .i64 cx, .int .i64 cy, .int .i64 ch, .int .i64 ce, .slice a4 P.length c4, .slice a5 O.length c5] : Array Value).toList) := by
        have q := But2.cells (c := KX + 1) (d := KX + 1) (o := 0) (w := wr) (#[.int .i64 me, .bool up, .bool gone, .bool gate, .int .i64 inc, .int .i64 now, .int .i64 sq, .int .i64 turn, .slice a1 T.length c1, .slice a2 C.length c2, .int .i64 pn, .int .i64 ps, .int .i64 pq, .bool pa, .slice a3 D.length c3, .int .i64 cx, .int .i64 cy, .int .i64 ch, .int .i64 ce, .slice a4 P.length c4, .slice a5 O.length c5] : Array Value).toList
        have q2 := below_cells (w := wr) (B := 0) (KX + 1) (#[.int .i64 me, .bool up, .bool gone, .bool gate, .int .i64 inc, .int .i64 now, .int .i64 sq, .int .i64 turn, .slice a1 T.length c1, .slice a2 C.length c2, .int .i64 pn, .int .i64 ps, .int .i64 pq, .bool pa, .slice a3 D.length c3, .int .i64 cx, .int .i64 cy, .int .i64 ch, .int .i64 ce, .slice a4 P.length c4, .slice a5 O.length c5] : Array Value).toList 0 wr (Nat.zero_le _) (Below.refl 0 wr)
        exact ⟨q2.os, q2.tape, q2.output, q.size, fun i hi n => q.block i hi n n⟩
       go_wp2_with (first | (refine load43L (by rfl) (.tmp 1) rfl KX rfl [.int .i64 me, .bool up, .bool gone, .bool gate, .int .i64 inc, .int .i64 now, .int .i64 sq, .int .i64 turn, .slice a1 T.length c1, .slice a2 C.length c2, .int .i64 pn, .int .i64 ps, .int .i64 pq, .bool pa, .slice a3 D.length c3, .int .i64 cx, .int .i64 cy, .int .i64 ch, .int .i64 ce, .slice a4 P.length c4, .slice a5 O.length c5] yr rfl ?_) | (refine wpList_store_mid rfl 42 _ _ rfl (KX + 1) 0 #[.int .i64 me, .bool up, .bool gone, .bool gate, .int .i64 inc, .int .i64 now, .int .i64 sq, .int .i64 turn, .slice a1 T.length c1, .slice a2 C.length c2, .int .i64 pn, .int .i64 ps, .int .i64 pq, .bool pa, .slice a3 D.length c3, .int .i64 cx, .int .i64 cy, .int .i64 ch, .int .i64 ce, .slice a4 P.length c4, .slice a5 O.length c5] rfl rfl hth (by kernel_rfl) (by kernel_rfl) ?_))
       have hr := read43 (World.rangeAt_setCells_same wr (KX + 1) 0 (#[.int .i64 me, .bool up, .bool gone, .bool gate, .int .i64 inc, .int .i64 now, .int .i64 sq, .int .i64 turn, .slice a1 T.length c1, .slice a2 C.length c2, .int .i64 pn, .int .i64 ps, .int .i64 pq, .bool pa, .slice a3 D.length c3, .int .i64 cx, .int .i64 cy, .int .i64 ch, .int .i64 ce, .slice a4 P.length c4, .slice a5 O.length c5] : Array Value).toList hth) rfl
       have b9 := below_cells (KX + 1) (#[.int .i64 me, .bool up, .bool gone, .bool gate, .int .i64 inc, .int .i64 now, .int .i64 sq, .int .i64 turn, .slice a1 T.length c1, .slice a2 C.length c2, .int .i64 pn, .int .i64 ps, .int .i64 pq, .bool pa, .slice a3 D.length c3, .int .i64 cx, .int .i64 cy, .int .i64 ch, .int .i64 ce, .slice a4 P.length c4, .slice a5 O.length c5] : Array Value).toList 0 wr g1 b0
       have t9 := own_mw o1 mE (fun x e q => by have := (o1.lt x e).1; omega)
       have c9 := own_mw o2 mE (fun x e q => by have := (o2.lt x e).1; omega)
       have d9 := mD.mw mE (fun x e q => by have := (mD.lo x e).1; omega)
       have p9 := mP.mw mE (fun x e q => by have := (mP.lo x e).1; omega)
       have o9 := mO.mw mE (fun x e q => by have := (mO.lo x e).1; omega)
       clear o1 o2 mD mP mO mE X R yr
       refine bodyPost_ret (v := .agg #[.int .i64 me, .bool up, .bool gone, .bool gate, .int .i64 inc, .int .i64 now, .int .i64 sq, .int .i64 turn, .slice a1 T.length c1, .slice a2 C.length c2, .int .i64 pn, .int .i64 ps, .int .i64 pq, .bool pa, .slice a3 D.length c3, .int .i64 cx, .int .i64 cy, .int .i64 ch, .int .i64 ce, .slice a4 P.length c4, .slice a5 O.length c5]) ?_ rfl ⟨.slice a1 T.length c1, .slice a2 C.length c2, .slice a3 D.length c3, .slice a4 P.length c4, .slice a5 O.length c5, sD, sP, sO, rfl, ⟨own_mono gB t9, own_mono gB c9, ⟨own_mono gB d9.row, d9.at_, fun j hj => own_mono gB (d9.nest j hj), d9.apart⟩, ⟨own_mono gB p9.row, p9.at_, fun j hj => own_mono gB (p9.nest j hj), p9.apart⟩, ⟨own_mono gB o9.row, o9.at_, fun j hj => own_mono gB (o9.nest j hj), o9.apart⟩, fun i j hi hj x e1 e2 => ?_, fun j hj x e1 e2 => ?_, hh.hf, hh.hi, hh.hd, hh.hp, hh.ho, fun j hj => (hh.db j hj).2, fun j hj => (hh.pb j hj).2, fun j hj => (hh.ob j hj).2⟩, b9⟩
       ·simp only [results, Tryz.results107]
        clear t9 c9 d9 p9 o9 b9 hth
        generalize wr.setCells (KX + 1) 0 (#[.int .i64 me, .bool up, .bool gone, .bool gate, .int .i64 inc, .int .i64 now, .int .i64 sq, .int .i64 turn, .slice a1 T.length c1, .slice a2 C.length c2, .int .i64 pn, .int .i64 ps, .int .i64 pq, .bool pa, .slice a3 D.length c3, .int .i64 cx, .int .i64 cy, .int .i64 ch, .int .i64 ce, .slice a4 P.length c4, .slice a5 O.length c5] : Array Value).toList = W4 at *
        simp [asAddr, hr]
       ·have q1 := lmDP.out x (.inr ⟨i, hi, e1⟩)
        have q2 := kP.out x (.inr ⟨j, hj, e2⟩)
        omega
       ·have q1 := lo1O.out x e1
        have q2 := kO.out x (.inr ⟨j, hj, e2⟩)
        omega
end Go.Proofs.YtgcdcfjaeehnbaaGreat
namespace Go.Proofs.YtgcdcfjaeehnbaaGreat
open Go.ChangeShapes Go.WideShapes Go.ChangeAt Go.RowKit
section
variable {P : Program} {w : World}
theorem run_append_none (t ty e : TypeId) (i : TypeInfo) (ht : P.underlying t = some (.slice e)) (hi : P.info? e = some i) (a : Option Addr) (n c : Nat) (ha : (a = none ∧ n = 0 ∧ c = 0) ∨ (∃ b, a = some b) ∧ n ≤ c) :
    (Builtin.append_ #[t, t] ty #[.slice a n c, .slice none 0 0]).run P w = .ok (.slice a n c) w := by
  rcases ha with ⟨rfl, rfl, rfl⟩ | ⟨⟨b, rfl⟩, hc⟩
  · simp [Builtin.append_, run_underlying ht, sizeOf, typeInfo, hi, Builtin.lenOf, Builtin.firstCells]
  · simp [Builtin.append_, run_underlying ht, sizeOf, typeInfo, hi, Builtin.lenOf, Builtin.firstCells, hc, storeCells]
theorem wp_append_src {o : Oper} {a : Act} {K : Act → World → Prop} {Q : Exit → Act → World → Prop} (s x : Operand) (t : TypeId)
    (ho : o.op = .call { callee := .builtin .append, args := #[s, x], argTypes := #[t, t] })
    (base : Nat) (e : TypeId) (i : TypeInfo) (z : Value) (size bytes : Nat) (ht : P.underlying t = some (.slice e)) (hi : P.info? e = some i) (hz : i.zero = some z)
    (hsize : i.size = size) (hby : i.bytes = bytes) (hzs : z.cells.size = size) (hsz : 0 < size)
    (v : Value) (n : Nat) (xs : List Value) (hs : a.eval s = v) (hown : w.ownsRow base e size v n xs)
    (sv : Value) (m : Nat) (f : Nat → Value) (hx : a.eval x = sv) (hsrc : Src w sv m (m * size) f) (h1 : ∀ j, j < m * size → (f j).oneCell' = true)
    (h63 : n + m ≤ maxLen) (hbytes : (n + m) * bytes ≤ 140737488355328) (hbase : base ≤ w.heap.size)
    (h : ∀ v' w', w'.ownsRow base e size v' (n + m) (xs ++ rv f (m * size)) → w.grownBy w' v.ownBlock → K (a.put o.dst v') w') : o.wp P a w K Q := by
  rcases hsrc with ⟨rfl, rfl⟩ | ⟨b, off, cap, rfl, _, hc⟩
  · have hr : (Builtin.append_ #[t, t] o.type #[v, .slice none 0 0]).run P w = .ok v w := by
      rcases own_cases hown with ⟨rfl, rfl⟩ | ⟨g, c, rfl, _, _, hle⟩
      · exact run_append_none t _ e i ht hi none 0 0 (.inl ⟨rfl, rfl, rfl⟩)
      · exact run_append_none t _ e i ht hi _ n c (.inr ⟨⟨_, rfl⟩, hle⟩)
    unfold Oper.wp execOp
    simp only [ho, resolve, invoke, builtin, Sem.run_bind, Sem.run_pure, Result.andThen_ok, List.map_toArray, List.map_cons, List.map_nil, hs, hx, hr]
    refine h v w ?_ (World.grownBy.refl _ _)
    simpa [rv] using hown
  · refine wp_append_own w s x t ho base e i z size bytes ht hi hz hsize hby hzs hsz v n xs hs hown ⟨b, off, none⟩ m cap (rv f (m * size)) hx (rv_len _ _) (src_cells hc) (rv_one h1) h63 hbytes hbase ?_
    intro v' w' o' g' _
    exact h v' w' o' g'
theorem wpList_append_src {ops : Array Oper} {rest : List Oper} {o : Oper} {a : Act} {Q : Exit → Act → World → Prop} (hgd : o.guard = none) (s x : Operand) (t : TypeId)
    (ho : o.op = .call { callee := .builtin .append, args := #[s, x], argTypes := #[t, t] })
    (base : Nat) (e : TypeId) (i : TypeInfo) (z : Value) (size bytes : Nat) (ht : P.underlying t = some (.slice e)) (hi : P.info? e = some i) (hz : i.zero = some z)
    (hsize : i.size = size) (hby : i.bytes = bytes) (hzs : z.cells.size = size) (hsz : 0 < size)
    (v : Value) (n : Nat) (xs : List Value) (hs : a.eval s = v) (hown : w.ownsRow base e size v n xs)
    (sv : Value) (m : Nat) (f : Nat → Value) (hx : a.eval x = sv) (hsrc : Src w sv m (m * size) f) (h1 : ∀ j, j < m * size → (f j).oneCell' = true)
    (h63 : n + m ≤ maxLen) (hbytes : (n + m) * bytes ≤ 140737488355328) (hbase : base ≤ w.heap.size)
    (h : ∀ v' w', w'.ownsRow base e size v' (n + m) (xs ++ rv f (m * size)) → w.grownBy w' v.ownBlock → wpList P ops Q rest (a.put o.dst v') w') : wpList P ops Q (o :: rest) a w :=
  wpList_plain hgd fun _ hK => wp_append_src s x t ho base e i z size bytes ht hi hz hsize hby hzs hsz v n xs hs hown sv m f hx hsrc h1 h63 hbytes hbase (fun v' w' h2 h3 => hK _ _ (h v' w' h2 h3))
end
theorem own_empty {w : World} {e size : Nat} : (w.alloc (.cells #[] e)).ownsRow w.heap.size e size (.slice (some ⟨w.heap.size, 0, none⟩) 0 0) 0 [] := World.ownsRow_made w #[] 0 (Nat.le_refl _) (Nat.zero_le _) (by simp)
end Go.Proofs.YtgcdcfjaeehnbaaGreat
namespace Go.Proofs.YtgcdcfjaeehnbaaGreat
open Go.ChangeShapes Go.WideShapes Go.ChangeAt Go.RowKit
attribute [local go_sem ↓] Go.wp_at_zero Go.wp_at_succ
theorem Ws.cells {w : World} {b : Nat} {xs : List Value} (h : Ws w b xs) (vs : List Value) (hl : vs.length = xs.length) : Ws (w.setCells b 0 vs) b vs := by
 have ht : w.there b 0 vs.length := h.there hl.symm
 have hr := World.rangeAt_setCells_same w b 0 vs ht
 refine ⟨?_, fun i v hv => by have := hr i v hv; rwa [Nat.zero_add] at this, fun o => ?_⟩
 ·have q := (below_cells (w := w) (B := 0) b vs 0 w (Nat.zero_le _) (Below.refl 0 w)).size
  exact Nat.lt_of_lt_of_le h.lt q
 ·have : ∀ (vs : List Value) (o' : Nat) (w : World), (w.setCells b o' vs).frozen? ⟨b, o, none⟩ = w.frozen? ⟨b, o, none⟩ := by
   intro vs
   induction vs with
   | nil => intro o' w; rfl
   | cons v vs ih => intro o' w; exact (ih (o' + 1) _).trans (World.frozen?_setCell _ _ _ _)
  rw [this]
  exact h.z o
theorem Mw.cells {b : Nat} {w : World} (vs : List Value) : Mw (fun x => x = b) w (w.setCells b 0 vs) := by
 have q := But2.cells (c := b) (d := b) (o := 0) (w := w) vs
 have q2 := below_cells (w := w) (B := 0) b vs 0 w (Nat.zero_le _) (Below.refl 0 w)
 exact ⟨q2.os, q2.tape, q2.output, q.size, fun i hi n => q.block i hi n n⟩
theorem row67 : ∃ d, Tryz.prog.underlying 88 = some d ∧ d.isRow = true := ⟨_, Tryz.underlying88, rfl⟩
theorem size67 : (Tryz.prog.info? 88).map (·.size) = some 11 := by kernel_rfl
theorem read67 {w : World} {b : Nat} {cs : Array Value} (h : w.rangeAt b 0 cs.toList) (hs : cs.size = 11) : (loadVar 88 ⟨b, 0, none⟩).run Tryz.prog w = .ok (.agg cs) w := by
  obtain ⟨d, hu, hd⟩ := row67
  have hr := run_loadVar_mid (P := Tryz.prog) w b 0 88 cs.toList _ h hu hd (by rw [Array.length_toList, hs]; exact size67)
  rwa [Array.toArray_toList] at hr
theorem load67L {ops : Array Oper} {rest : List Oper} {op : Oper} {a : Act} {w : World} {Q : Exit → Act → World → Prop} (hw : Region.wanted op (yielded ops a.tmps) = true) (x : Operand) (ho : op.op = .load 88 x) (b : Nat) (hx : a.eval x = .pointer (some ⟨b, 0, none⟩)) (xs : List Value) (hS : w.rangeAt b 0 xs) (hn : xs.length = 11)
    (h : wpList Tryz.prog ops Q rest (a.put op.dst (.agg xs.toArray)) w) : wpList Tryz.prog ops Q (op :: rest) a w := by
  obtain ⟨d, hu, hd⟩ := row67
  unfold wpList
  rw [if_pos hw]
  exact Or.inl (wp_load_mid 88 x ho b 0 hx xs d hS hu hd (hn ▸ size67) h)
structure Wo where
  p : Int
  k : Int
  f : Int
  t : Int
  q : Int
  a : Int
  x : Int
  y : Int
  h : Int
  e : Int
  fs : List Fc
def Wo.zero : Wo := ⟨0, 0, 0, 0, 0, 0, 0, 0, 0, 0, []⟩
def woC (x : Wo) (v : Value) : List Value := [.int .i64 x.p, .int .i64 x.k, .int .i64 x.f, .int .i64 x.t, .int .i64 x.q, .int .i64 x.a, .int .i64 x.x, .int .i64 x.y, .int .i64 x.h, .int .i64 x.e, v]
def wR (l : List Wo) (sl : Nat → Value) (i : Nat) : Value := (woC (l.getD (i / 11) Wo.zero) (sl (i / 11))).getD (i % 11) undef
def wN (l : List Wo) (j : Nat) : Nat := (l.getD j Wo.zero).fs.length
def wX (l : List Wo) (j : Nat) : List Value := rv (fv (tF (l.getD j Wo.zero).fs)) (wN l j * 4)
theorem wR_at (l : List Wo) (sl : Nat → Value) (k j : Nat) (v : Value) (h : (woC (l.getD k Wo.zero) (sl k))[j]? = some v) : wR l sl (k * 11 + j) = v := by
  have hj : j < 11 := (List.getElem?_eq_some_iff.1 h).1
  have e1 : (k * 11 + j) / 11 = k := by omega
  have e2 : (k * 11 + j) % 11 = j := by omega
  unfold wR
  rw [e1, e2, List.getD_eq_getElem?_getD, h]
  rfl
def BoxT (w : World) (g : Nat) (t : TypeId) : Prop := ∃ c, w.heap[g]? = some (.cells c t (0, 0))
theorem BoxT.lt {w : World} {g : Nat} {t : TypeId} (h : BoxT w g t) : g < w.heap.size := by obtain ⟨c, h⟩ := h; exact (Array.getElem?_eq_some_iff.1 h).1
theorem BoxT.mw {S : Nat → Prop} {w w' : World} {g : Nat} {t : TypeId} (h : BoxT w g t) (k : Mw S w w') (q : ¬ S g) : BoxT w' g t := by
  have hl := h.lt
  obtain ⟨c, h⟩ := h
  exact ⟨c, (k.block g hl q).trans h⟩
theorem BoxT.below {w w' : World} {g : Nat} {t : TypeId} (h : BoxT w g t) (k : Below w.heap.size w w') : BoxT w' g t := h.mw (S := fun _ => False) (Mw.of_below k) id
theorem BoxT.set {w : World} {g o : Nat} {t : TypeId} {v : Value} (h : BoxT w g t) : BoxT (w.setCell ⟨g, o, none⟩ v) g t := by
  obtain ⟨c, h⟩ := h
  have r : w.rowIs g t c.size (fun i => c.getD i undef) := ⟨c, h, rfl, fun i hi => by simp [Array.getD, hi]⟩
  obtain ⟨c', h', _⟩ := r.set o v
  exact ⟨c', h'⟩
theorem own_boxT {w : World} {base e size n g : Nat} {v : Value} {xs : List Value} {t : TypeId} (h : w.ownsRow base e size v n xs) (hb : BoxT w g t) (he : e ≠ t) : ∀ x, v.ownBlock = some x → x ≠ g := by
  rintro x e1 rfl
  obtain ⟨c, hc⟩ := hb
  exact own_box h hc he e1
def agC (n : Nod) (v1 v2 v3 v4 v5 : Value) (dr : Int) (vw : Value) : List Value := [.int .i64 n.me, .bool n.up, .bool n.gone, .bool n.gate, .int .i64 n.inc, .int .i64 n.now, .int .i64 n.sq, .int .i64 n.turn, v1, v2, .int .i64 n.pn, .int .i64 n.ps, .int .i64 n.pq, .bool n.pa, v3, .int .i64 n.cx, .int .i64 n.cy, .int .i64 n.ch, .int .i64 n.ce, v4, v5, .int .i64 dr, vw]
structure WdO (w : World) (base : Nat) (ws : List Wo) (vw : Value) (sW : Nat → Value) : Prop where
  o : OwW w base vw ws.length (wR ws sW) sW (wN ws) (wX ws)
  h : ws.length ≤ 1048576
  hn : ∀ j, j < ws.length → wN ws j ≤ 1048576
theorem WdO.mw {S : Nat → Prop} {w w' : World} {base : Nat} {ws : List Wo} {vw : Value} {sW : Nat → Value} (h : WdO w base ws vw sW) (k : Mw S w w') (q : ∀ x, bkW vw ws.length sW x → ¬ S x) : WdO w' base ws vw sW := ⟨h.o.mw k q, h.h, h.hn⟩
theorem WdO.below {w w' : World} {base : Nat} {ws : List Wo} {vw : Value} {sW : Nat → Value} (h : WdO w base ws vw sW) (k : Below w.heap.size w w') : WdO w' base ws vw sW := ⟨h.o.below k, h.h, h.hn⟩
theorem WdO.nil (w : World) (base : Nat) : WdO w base [] (.slice none 0 0) (fun _ => .slice none 0 0) := ⟨⟨World.ownsRow_nil _ _ _ _, fun j hj => absurd hj (Nat.not_lt_zero j), fun j hj => absurd hj (Nat.not_lt_zero j), fun i _ hi => absurd hi (Nat.not_lt_zero i)⟩, Nat.zero_le _, fun j hj => absurd hj (Nat.not_lt_zero j)⟩
structure Ag (w : World) (base g : Nat) (n : Nod) (dr : Int) (ws : List Wo) (v1 v2 v3 v4 v5 vw : Value) (sD sP sO sW : Nat → Value) : Prop where
  box : Ws w g (agC n v1 v2 v3 v4 v5 dr vw)
  ty : BoxT w g 76
  lo : base ≤ g
  nd : NdO w base n v1 v2 v3 v4 v5 sD sP sO
  wd : WdO w base ws vw sW
  nw : ∀ x, bkN n v1 v2 v3 v4 v5 sD sP sO x → ¬ bkW vw ws.length sW x
section
variable {S : Nat → Prop} {w w' : World} {base g : Nat} {n : Nod} {dr : Int} {ws : List Wo} {v1 v2 v3 v4 v5 vw : Value} {sD sP sO sW : Nat → Value}
theorem NdO.ng (h : NdO w base n v1 v2 v3 v4 v5 sD sP sO) (hb : BoxT w g 76) : ∀ x, bkN n v1 v2 v3 v4 v5 sD sP sO x → x ≠ g := by
  rintro x (q | q | (q | ⟨j, hj, q⟩) | (q | ⟨j, hj, q⟩) | (q | ⟨j, hj, q⟩))
  · exact own_boxT h.t hb (by decide) x q
  · exact own_boxT h.c hb (by decide) x q
  · exact own_boxT h.d.row hb (by decide) x q
  · exact own_boxT (h.d.nest j hj) hb (by decide) x q
  · exact own_boxT h.p.row hb (by decide) x q
  · exact own_boxT (h.p.nest j hj) hb (by decide) x q
  · exact own_boxT h.o.row hb (by decide) x q
  · exact own_boxT (h.o.nest j hj) hb (by decide) x q
theorem WdO.ng (h : WdO w base ws vw sW) (hb : BoxT w g 76) : ∀ x, bkW vw ws.length sW x → x ≠ g := by
  rintro x (q | ⟨j, hj, q⟩)
  · exact own_boxT h.o.row hb (by decide) x q
  · exact own_boxT (h.o.nest j hj) hb (by decide) x q
theorem Ag.below (h : Ag w base g n dr ws v1 v2 v3 v4 v5 vw sD sP sO sW) (k : Below w.heap.size w w') : Ag w' base g n dr ws v1 v2 v3 v4 v5 vw sD sP sO sW :=
  ⟨h.box.below k, h.ty.below k, h.lo, h.nd.below k, h.wd.below k, h.nw⟩
end
set_option maxRecDepth 20000 in
set_option maxHeartbeats 8000000 in
theorem awake_any (n : Nod) (L : Loc) (w : World) : Calls Tryz.prog 40 #[ndV n L] w fun r w' => r = .returned (.bool (n.up && !n.gone)) ∧ Below w.heap.size w w' := by
  obtain ⟨me, up, gone, gate, inc, now, sq, turn, T, C, pn, ps, pq, pa, D, cx, cy, ch, ce, P, O⟩ := n
  obtain ⟨ta, tc, ca, cc, da, dc, dA, dC, pla, plc, pA, pC, oa, oc, oA, oC⟩ := L
  unfold ndV
  dsimp only
  go_enter Tryz.func40, Tryz.ntmps40
  go_upto_region 1 with fail
  generalize hu : w.alloc (.cells _ _) = u
  obtain ⟨X, b0⟩ := box1 hu
  clear hu
  have d1 := X.c 1 (.bool up) rfl
  have d2 := X.c 2 (.bool gone) rfl
  clear X
  cases up <;> cases gone
  all_goals
    go_wp2
    go_ret
    exact ⟨rfl, b0⟩
def wordD (n : Nod) (k to_ : Int) (fs : List Fc) : Wo := ⟨1, k, n.me, to_, 0, n.me, n.cx, n.cy, n.ch, n.ce, fs⟩
set_option maxRecDepth 20000 in
set_option maxHeartbeats 8000000 in
theorem word_any (n : Nod) (L : Loc) (k to_ : Int) (w : World) : Calls Tryz.prog 114 #[ndV n L, .int .i64 k, .int .i64 to_] w fun r w' => r = .returned (.agg #[.int .i64 1, .int .i64 k, .int .i64 n.me, .int .i64 to_, .int .i64 0, .int .i64 n.me, .int .i64 n.cx, .int .i64 n.cy, .int .i64 n.ch, .int .i64 n.ce, .slice none 0 0]) ∧ Below w.heap.size w w' := by
  obtain ⟨me, up, gone, gate, inc, now, sq, turn, T, C, pn, ps, pq, pa, D, cx, cy, ch, ce, P, O⟩ := n
  obtain ⟨ta, tc, ca, cc, da, dc, dA, dC, pla, plc, pA, pC, oa, oc, oA, oC⟩ := L
  unfold ndV
  dsimp only
  obtain ⟨u, hu, X, R, b0, hs2⟩ := enter2 w #[.int .i64 me, .bool up, .bool gone, .bool gate, .int .i64 inc, .int .i64 now, .int .i64 sq, .int .i64 turn, .slice ta T.length tc, .slice ca C.length cc, .int .i64 pn, .int .i64 ps, .int .i64 pq, .bool pa, .slice da D.length dc, .int .i64 cx, .int .i64 cy, .int .i64 ch, .int .i64 ce, .slice pla P.length plc, .slice oa O.length oc] 42 #[.int .i64 0, .int .i64 0, .int .i64 0, .int .i64 0, .int .i64 0, .int .i64 0, .int .i64 0, .int .i64 0, .int .i64 0, .int .i64 0, .slice none 0 0] 88
  go_enter Tryz.func114, Tryz.ntmps114
  go_upto_region 1 with fail
  rw [← hu.out]
  clear hu
  have g1 : w.heap.size ≤ w.heap.size + 1 := by omega
  generalize w.heap.size + 1 = KR at *
  have d0 := X.c 0 (.int .i64 me) rfl
  have d15 := X.c 15 (.int .i64 cx) rfl
  have d16 := X.c 16 (.int .i64 cy) rfl
  have d17 := X.c 17 (.int .i64 ch) rfl
  have d18 := X.c 18 (.int .i64 ce) rfl
  have hth : u.there KR 0 11 := R.there rfl
  clear X R hs2
  go_wp2_with (refine wpList_store_mid rfl 88 _ _ rfl KR 0 #[.int .i64 1, .int .i64 k, .int .i64 me, .int .i64 to_, .int .i64 0, .int .i64 me, .int .i64 cx, .int .i64 cy, .int .i64 ch, .int .i64 ce, .slice none 0 0] rfl rfl hth (by kernel_rfl) (by kernel_rfl) ?_)
  have b9 := below_cells KR (#[.int .i64 1, .int .i64 k, .int .i64 me, .int .i64 to_, .int .i64 0, .int .i64 me, .int .i64 cx, .int .i64 cy, .int .i64 ch, .int .i64 ce, .slice none 0 0] : Array Value).toList 0 u g1 b0
  have rr := World.rangeAt_setCells_same u KR 0 (#[.int .i64 1, .int .i64 k, .int .i64 me, .int .i64 to_, .int .i64 0, .int .i64 me, .int .i64 cx, .int .i64 cy, .int .i64 ch, .int .i64 ce, .slice none 0 0] : Array Value).toList hth
  clear d0 d15 d16 d17 d18 hth b0
  generalize u.setCells KR 0 (#[.int .i64 1, .int .i64 k, .int .i64 me, .int .i64 to_, .int .i64 0, .int .i64 me, .int .i64 cx, .int .i64 cy, .int .i64 ch, .int .i64 ce, .slice none 0 0] : Array Value).toList = W4 at *
  have hr := read67 rr rfl
  refine bodyPost_ret (v := .agg #[.int .i64 1, .int .i64 k, .int .i64 me, .int .i64 to_, .int .i64 0, .int .i64 me, .int .i64 cx, .int .i64 cy, .int .i64 ch, .int .i64 ce, .slice none 0 0]) ?_ rfl ⟨rfl, b9⟩
  simp only [results, Tryz.results114]
  simp [asAddr, Act.put, hr]
def FwR (w w' : World) (r : Ending) (x : Wo) : Prop := ∃ vf, r = .returned (.agg (woC x vf).toArray) ∧ w'.ownsRow w.heap.size 96 4 vf x.fs.length (rv (fv (tF x.fs)) (x.fs.length * 4)) ∧ Below w.heap.size w w'
set_option maxRecDepth 20000 in
set_option maxHeartbeats 8000000 in
theorem fullWord_any (n : Nod) (L : Loc) (k to_ : Int) (w : World) (h : NdR w n L) (hf : LocF n L) : Calls Tryz.prog 70 #[ndV n L, .int .i64 k, .int .i64 to_] w fun r w' => FwR w w' r (wordD n k to_ n.T) := by
  have hw := word_any n L k to_
  obtain ⟨me, up, gone, gate, inc, now, sq, turn, T, C, pn, ps, pq, pa, D, cx, cy, ch, ce, P, O⟩ := n
  obtain ⟨ta, tc, ca, cc, da, dc, dA, dC, pla, plc, pA, pC, oa, oc, oA, oC⟩ := L
  have hh : FSl w ta T.length (tF T) := NdIn.f h
  have hm : T.length ≤ 1048576 := NdIn.hf h
  have f1 : Fine ta T.length tc := hf.t
  clear h hf
  unfold ndV at hw ⊢
  dsimp only at hw ⊢
  obtain ⟨u, hu, X, R, b0, hs2⟩ := enter2 w #[.int .i64 me, .bool up, .bool gone, .bool gate, .int .i64 inc, .int .i64 now, .int .i64 sq, .int .i64 turn, .slice ta T.length tc, .slice ca C.length cc, .int .i64 pn, .int .i64 ps, .int .i64 pq, .bool pa, .slice da D.length dc, .int .i64 cx, .int .i64 cy, .int .i64 ch, .int .i64 ce, .slice pla P.length plc, .slice oa O.length oc] 42 #[.int .i64 0, .int .i64 0, .int .i64 0, .int .i64 0, .int .i64 0, .int .i64 0, .int .i64 0, .int .i64 0, .int .i64 0, .int .i64 0, .slice none 0 0] 88
  go_enter Tryz.func70, Tryz.ntmps70
  go_upto_region 1 with fail
  rw [← hu.out]
  clear hu
  obtain ⟨KX, hKX⟩ : ∃ K, Hid (w.heap.size = K) := ⟨_, rfl⟩
  have g0 : w.heap.size ≤ KX := by rw [← hKX.out]; exact Nat.le_refl _
  have g1 : w.heap.size ≤ KX + 1 := by omega
  rw [hKX.out] at X R
  rw [hKX.out]
  clear hs2
  have x0 := X.range
  go_wp2_with (refine load43L (by rfl) (.tmp 3) rfl KX rfl [.int .i64 me, .bool up, .bool gone, .bool gate, .int .i64 inc, .int .i64 now, .int .i64 sq, .int .i64 turn, .slice ta T.length tc, .slice ca C.length cc, .int .i64 pn, .int .i64 ps, .int .i64 pq, .bool pa, .slice da D.length dc, .int .i64 cx, .int .i64 cy, .int .i64 ch, .int .i64 ce, .slice pla P.length plc, .slice oa O.length oc] x0 rfl ?_)
  refine (hw _).mono ?_
  rintro r w1 ⟨rfl, k1⟩
  clear hw x0
  replace X := X.below k1
  replace R := R.below k1
  replace b0 := btrans b0 k1
  clear k1
  have Y := Ws.box (w := w1) #[.int .i64 0, .int .i64 0, .int .i64 0, .int .i64 0, .int .i64 0, .int .i64 0, .int .i64 0, .int .i64 0, .int .i64 0, .int .i64 0, .slice none 0 0] 88
  have hth : (w1.alloc (.cells #[.int .i64 0, .int .i64 0, .int .i64 0, .int .i64 0, .int .i64 0, .int .i64 0, .int .i64 0, .int .i64 0, .int .i64 0, .int .i64 0, .slice none 0 0] 88)).there w1.heap.size 0 11 := Y.there rfl
  have kk := below_cells (w := w1) w1.heap.size (#[.int .i64 1, .int .i64 k, .int .i64 me, .int .i64 to_, .int .i64 0, .int .i64 me, .int .i64 cx, .int .i64 cy, .int .i64 ch, .int .i64 ce, .slice none 0 0] : Array Value).toList 0 (w1.alloc (.cells #[.int .i64 0, .int .i64 0, .int .i64 0, .int .i64 0, .int .i64 0, .int .i64 0, .int .i64 0, .int .i64 0, .int .i64 0, .int .i64 0, .slice none 0 0] 88)) (Nat.le_refl _) (balloc (.cells #[.int .i64 0, .int .i64 0, .int .i64 0, .int .i64 0, .int .i64 0, .int .i64 0, .int .i64 0, .int .i64 0, .int .i64 0, .int .i64 0, .slice none 0 0] 88) (Below.refl w1.heap.size w1))
  have rr := World.rangeAt_setCells_same (w1.alloc (.cells #[.int .i64 0, .int .i64 0, .int .i64 0, .int .i64 0, .int .i64 0, .int .i64 0, .int .i64 0, .int .i64 0, .int .i64 0, .int .i64 0, .slice none 0 0] 88)) w1.heap.size 0 (#[.int .i64 1, .int .i64 k, .int .i64 me, .int .i64 to_, .int .i64 0, .int .i64 me, .int .i64 cx, .int .i64 cy, .int .i64 ch, .int .i64 ce, .slice none 0 0] : Array Value).toList hth
  have zz : ∀ o, ((w1.alloc (.cells #[.int .i64 0, .int .i64 0, .int .i64 0, .int .i64 0, .int .i64 0, .int .i64 0, .int .i64 0, .int .i64 0, .int .i64 0, .int .i64 0, .slice none 0 0] 88)).setCells w1.heap.size 0 (#[.int .i64 1, .int .i64 k, .int .i64 me, .int .i64 to_, .int .i64 0, .int .i64 me, .int .i64 cx, .int .i64 cy, .int .i64 ch, .int .i64 ce, .slice none 0 0] : Array Value).toList).frozen? ⟨w1.heap.size, o, none⟩ = false := fun o => by
    simp only [World.setCells, World.frozen?_setCell]
    exact Y.z o
  have hlt : w1.heap.size < ((w1.alloc (.cells #[.int .i64 0, .int .i64 0, .int .i64 0, .int .i64 0, .int .i64 0, .int .i64 0, .int .i64 0, .int .i64 0, .int .i64 0, .int .i64 0, .slice none 0 0] 88)).setCells w1.heap.size 0 (#[.int .i64 1, .int .i64 k, .int .i64 me, .int .i64 to_, .int .i64 0, .int .i64 me, .int .i64 cx, .int .i64 cy, .int .i64 ch, .int .i64 ce, .slice none 0 0] : Array Value).toList).heap.size := by
    have := Y.lt
    have q := (below_cells (w := w1.alloc (.cells #[.int .i64 0, .int .i64 0, .int .i64 0, .int .i64 0, .int .i64 0, .int .i64 0, .int .i64 0, .int .i64 0, .int .i64 0, .int .i64 0, .slice none 0 0] 88)) (B := 0) w1.heap.size (#[.int .i64 1, .int .i64 k, .int .i64 me, .int .i64 to_, .int .i64 0, .int .i64 me, .int .i64 cx, .int .i64 cy, .int .i64 ch, .int .i64 ce, .slice none 0 0] : Array Value).toList 0 _ (Nat.zero_le _) (Below.refl 0 _)).size
    omega
  clear Y
  go_upto_region 2 with (refine wpList_store_mid rfl 88 _ _ rfl w1.heap.size 0 #[.int .i64 1, .int .i64 k, .int .i64 me, .int .i64 to_, .int .i64 0, .int .i64 me, .int .i64 cx, .int .i64 cy, .int .i64 ch, .int .i64 ce, .slice none 0 0] rfl rfl hth (by kernel_rfl) (by kernel_rfl) ?_)
  clear hth
  generalize (w1.alloc (.cells #[.int .i64 0, .int .i64 0, .int .i64 0, .int .i64 0, .int .i64 0, .int .i64 0, .int .i64 0, .int .i64 0, .int .i64 0, .int .i64 0, .slice none 0 0] 88)).setCells w1.heap.size 0 (#[.int .i64 1, .int .i64 k, .int .i64 me, .int .i64 to_, .int .i64 0, .int .i64 me, .int .i64 cx, .int .i64 cy, .int .i64 ch, .int .i64 ce, .slice none 0 0] : Array Value).toList = w2 at *
  obtain ⟨KY, hKY⟩ : ∃ K, Hid (w1.heap.size = K) := ⟨_, rfl⟩
  have nXY : KX ≠ KY := by have := X.lt; rw [← hKY.out]; omega
  have nRY : KX + 1 ≠ KY := by have := R.lt; rw [← hKY.out]; omega
  have gY : w.heap.size ≤ KY := by rw [← hKY.out]; exact b0.size
  rw [hKY.out] at rr zz hlt
  rw [hKY.out]
  replace X := X.below kk
  replace R := R.below kk
  replace b0 := btrans b0 kk
  have Y : Ws w2 KY [.int .i64 1, .int .i64 k, .int .i64 me, .int .i64 to_, .int .i64 0, .int .i64 me, .int .i64 cx, .int .i64 cy, .int .i64 ch, .int .i64 ce, .slice none 0 0] := ⟨hlt, fun i v hv => by have := rr i v hv; rwa [Nat.zero_add] at this, zz⟩
  clear rr zz hlt kk hKY
  have d8 := X.c 8 (.slice ta T.length tc) rfl
  go_wp2_with fail
  refine (cpF_any _ T.length (fv (tF T)) _ (fsl_src (hh.below b0) f1) (fun j _ => fv_one _ j) hm).mono ?_
  rintro r w3 ⟨vf, rfl, of, k3⟩
  have hYf : ∀ x, vf.ownBlock = some x → x ≠ KY ∧ x ≠ KX + 1 := fun x e => by have := (of.lt x e).1; have := Y.lt; have := R.lt; omega
  have oB := b0.size
  replace X := X.below k3
  replace R := R.below k3
  replace Y := Y.below k3
  replace b0 := btrans b0 k3
  replace of := own_mono oB of
  clear d8 k3 oB X
  obtain ⟨af, cf, rfl, _⟩ := own_slice of
  have y10 := Y.c 10 (.slice none 0 0) rfl
  have z10 := Y.z 10
  go_upto_region 3 with fail
  have mY : Mw (fun x => x = KY) w3 (w3.setCell ⟨KY, 10, none⟩ (.slice af T.length cf)) := (Mw.refl _ _).set rfl
  have Y2 : Ws (w3.setCell ⟨KY, 10, none⟩ (.slice af T.length cf)) KY [.int .i64 1, .int .i64 k, .int .i64 me, .int .i64 to_, .int .i64 0, .int .i64 me, .int .i64 cx, .int .i64 cy, .int .i64 ch, .int .i64 ce, .slice af T.length cf] := Y.set 10 (by simp) (.slice af T.length cf)
  replace R := R.mw mY (fun q => nRY q)
  replace of := own_mw of mY (fun x e q => (hYf x e).1 q)
  replace b0 := b0.setCell (p := ⟨KY, 10, none⟩) gY (.slice af T.length cf)
  clear y10 z10 mY Y
  generalize w3.setCell ⟨KY, 10, none⟩ (.slice af T.length cf) = w4 at *
  have yr := Y2.range
  have hth : w4.there (KX + 1) 0 11 := R.there rfl
  go_wp2_with (first | (refine load67L (by rfl) (.tmp 7) rfl KY rfl [.int .i64 1, .int .i64 k, .int .i64 me, .int .i64 to_, .int .i64 0, .int .i64 me, .int .i64 cx, .int .i64 cy, .int .i64 ch, .int .i64 ce, .slice af T.length cf] yr rfl ?_) | (refine wpList_store_mid rfl 88 _ _ rfl (KX + 1) 0 #[.int .i64 1, .int .i64 k, .int .i64 me, .int .i64 to_, .int .i64 0, .int .i64 me, .int .i64 cx, .int .i64 cy, .int .i64 ch, .int .i64 ce, .slice af T.length cf] rfl rfl hth (by kernel_rfl) (by kernel_rfl) ?_))
  have hr := read67 (World.rangeAt_setCells_same w4 (KX + 1) 0 (#[.int .i64 1, .int .i64 k, .int .i64 me, .int .i64 to_, .int .i64 0, .int .i64 me, .int .i64 cx, .int .i64 cy, .int .i64 ch, .int .i64 ce, .slice af T.length cf] : Array Value).toList hth) rfl
  have b9 := below_cells (KX + 1) (#[.int .i64 1, .int .i64 k, .int .i64 me, .int .i64 to_, .int .i64 0, .int .i64 me, .int .i64 cx, .int .i64 cy, .int .i64 ch, .int .i64 ce, .slice af T.length cf] : Array Value).toList 0 w4 g1 b0
  have mE : Mw (fun x => x = KX + 1) w4 (w4.setCells (KX + 1) 0 (#[.int .i64 1, .int .i64 k, .int .i64 me, .int .i64 to_, .int .i64 0, .int .i64 me, .int .i64 cx, .int .i64 cy, .int .i64 ch, .int .i64 ce, .slice af T.length cf] : Array Value).toList) := by
    have q := But2.cells (c := KX + 1) (d := KX + 1) (o := 0) (w := w4) (#[.int .i64 1, .int .i64 k, .int .i64 me, .int .i64 to_, .int .i64 0, .int .i64 me, .int .i64 cx, .int .i64 cy, .int .i64 ch, .int .i64 ce, .slice af T.length cf] : Array Value).toList
    have q2 := below_cells (w := w4) (B := 0) (KX + 1) (#[.int .i64 1, .int .i64 k, .int .i64 me, .int .i64 to_, .int .i64 0, .int .i64 me, .int .i64 cx, .int .i64 cy, .int .i64 ch, .int .i64 ce, .slice af T.length cf] : Array Value).toList 0 w4 (Nat.zero_le _) (Below.refl 0 w4)
    exact ⟨q2.os, q2.tape, q2.output, q.size, fun i hi n => q.block i hi n n⟩
  have o9 := own_mw of mE (fun x e q => (hYf x e).2 q)
  refine bodyPost_ret (v := .agg #[.int .i64 1, .int .i64 k, .int .i64 me, .int .i64 to_, .int .i64 0, .int .i64 me, .int .i64 cx, .int .i64 cy, .int .i64 ch, .int .i64 ce, .slice af T.length cf]) ?_ rfl ⟨.slice af T.length cf, rfl, o9, b9⟩
  simp only [results, Tryz.results70]
  clear o9 b9 mE hth yr Y2 R of
  generalize w4.setCells (KX + 1) 0 (#[.int .i64 1, .int .i64 k, .int .i64 me, .int .i64 to_, .int .i64 0, .int .i64 me, .int .i64 cx, .int .i64 cy, .int .i64 ch, .int .i64 ce, .slice af T.length cf] : Array Value).toList = W4 at *
  simp [asAddr, Act.put, hr]
end Go.Proofs.YtgcdcfjaeehnbaaGreat
namespace Go.Proofs.YtgcdcfjaeehnbaaGreat
open Go.ChangeShapes Go.WideShapes Go.ChangeAt Go.RowKit
attribute [local go_sem ↓] Go.wp_at_zero Go.wp_at_succ
def s46_1 : List Stp := [⟨some 4, .move (.tmp 0), 72, none, 0⟩, ⟨some 5, .nilCheck (.tmp 4), 0, none, 0⟩, ⟨some 6, .fieldAddr 76 (.tmp 5) 0, 0, none, 0⟩, ⟨some 7, .load 42 (.tmp 6), 42, none, 0⟩, ⟨some 8, .move (.tmp 0), 72, none, 0⟩, ⟨some 9, .nilCheck (.tmp 8), 0, none, 0⟩, ⟨some 10, .fieldAddr 76 (.tmp 9) 2, 0, none, 0⟩, ⟨some 11, .load 43 (.tmp 10), 43, none, 0⟩, ⟨none, .store 42 (.tmp 2) (.tmp 7), 0, none, 1⟩, ⟨some 3, .assign (.tmp 11), 43, none, 0⟩]
def t46_1 : List (Nat × Nat) := [(0, 0), (1, 0), (2, 0), (3, 0), (4, 0), (5, 0), (6, 0), (7, 0), (8, 1), (9, 0)]
def AgN (w w' : World) (r : Ending) (n : Nod) : Prop := ∃ g v1 v2 v3 v4 v5 sD sP sO, r = .returned (.pointer (some ⟨g, 0, none⟩)) ∧ Ag w' w.heap.size g n 0 [] v1 v2 v3 v4 v5 (.slice none 0 0) sD sP sO (fun _ => .slice none 0 0) ∧ Below w.heap.size w w'
theorem bkW_nil (sW : Nat → Value) (x : Nat) : ¬ bkW (.slice none 0 0) 0 sW x := by
  rintro (q | ⟨j, hj, _⟩)
  · simp [Value.ownBlock] at q
  · omega
set_option maxRecDepth 20000 in
set_option maxHeartbeats 8000000 in
theorem agentOf_any (n : Nod) (L : Loc) (w : World) (h : NdR w n L) (hf : LocF n L) : Calls Tryz.prog 39 #[ndV n L] w fun r w' => AgN w w' r n := by
  have hc := fun w1 (hb : Below w.heap.size w w1) => ncopied_any n L w1 (h.below hb) hf
  clear h hf
  obtain ⟨me, up, gone, gate, inc, now, sq, turn, T, C, pn, ps, pq, pa, D, cx, cy, ch, ce, P, O⟩ := n
  obtain ⟨ta, tc, ca, cc, da, dc, dA, dC, pla, plc, pA, pC, oa, oc, oA, oC⟩ := L
  unfold ndV at hc ⊢
  dsimp only at hc ⊢
  go_enter Tryz.func39, Tryz.ntmps39
  go_upto_region 1 with fail
  generalize hu : w.alloc (.cells _ _) = u
  obtain ⟨X, b0⟩ := box1 hu
  clear hu
  have x0 := X.range
  clear X
  go_wp2_with (refine load43L (by rfl) (.tmp 1) rfl w.heap.size rfl [.int .i64 me, .bool up, .bool gone, .bool gate, .int .i64 inc, .int .i64 now, .int .i64 sq, .int .i64 turn, .slice ta T.length tc, .slice ca C.length cc, .int .i64 pn, .int .i64 ps, .int .i64 pq, .bool pa, .slice da D.length dc, .int .i64 cx, .int .i64 cy, .int .i64 ch, .int .i64 ce, .slice pla P.length plc, .slice oa O.length oc] x0 rfl ?_)
  refine (hc _ b0).mono ?_
  rintro r w1 ⟨v1, v2, v3, v4, v5, sD, sP, sO, rfl, hN, k1⟩
  clear hc x0
  have hsz := b0.size
  have b1 := btrans b0 k1
  obtain ⟨a1, c1, rfl, _⟩ := own_slice hN.t
  obtain ⟨a2, c2, rfl, _⟩ := own_slice hN.c
  obtain ⟨a3, c3, rfl, _⟩ := own_slice hN.d.row
  obtain ⟨a4, c4, rfl, _⟩ := own_slice hN.p.row
  obtain ⟨a5, c5, rfl, _⟩ := own_slice hN.o.row
  unfold ndW
  dsimp only at hN ⊢
  have bx := Ws.box (w := w1) #[.int .i64 me, .bool up, .bool gone, .bool gate, .int .i64 inc, .int .i64 now, .int .i64 sq, .int .i64 turn, .slice a1 T.length c1, .slice a2 C.length c2, .int .i64 pn, .int .i64 ps, .int .i64 pq, .bool pa, .slice a3 D.length c3, .int .i64 cx, .int .i64 cy, .int .i64 ch, .int .i64 ce, .slice a4 P.length c4, .slice a5 O.length c5, .int .i64 0, .slice none 0 0] 76
  have ty : BoxT (w1.alloc (.cells #[.int .i64 me, .bool up, .bool gone, .bool gate, .int .i64 inc, .int .i64 now, .int .i64 sq, .int .i64 turn, .slice a1 T.length c1, .slice a2 C.length c2, .int .i64 pn, .int .i64 ps, .int .i64 pq, .bool pa, .slice a3 D.length c3, .int .i64 cx, .int .i64 cy, .int .i64 ch, .int .i64 ce, .slice a4 P.length c4, .slice a5 O.length c5, .int .i64 0, .slice none 0 0] 76)) w1.heap.size 76 := ⟨_, heap_alloc_new _ _⟩
  have k2 := balloc (.cells #[.int .i64 me, .bool up, .bool gone, .bool gate, .int .i64 inc, .int .i64 now, .int .i64 sq, .int .i64 turn, .slice a1 T.length c1, .slice a2 C.length c2, .int .i64 pn, .int .i64 ps, .int .i64 pq, .bool pa, .slice a3 D.length c3, .int .i64 cx, .int .i64 cy, .int .i64 ch, .int .i64 ce, .slice a4 P.length c4, .slice a5 O.length c5, .int .i64 0, .slice none 0 0] 76) (Below.refl w1.heap.size w1)
  have hN2 := hN.below k2
  have hN3 : NdO (w1.alloc (.cells #[.int .i64 me, .bool up, .bool gone, .bool gate, .int .i64 inc, .int .i64 now, .int .i64 sq, .int .i64 turn, .slice a1 T.length c1, .slice a2 C.length c2, .int .i64 pn, .int .i64 ps, .int .i64 pq, .bool pa, .slice a3 D.length c3, .int .i64 cx, .int .i64 cy, .int .i64 ch, .int .i64 ce, .slice a4 P.length c4, .slice a5 O.length c5, .int .i64 0, .slice none 0 0] 76)) w.heap.size ⟨me, up, gone, gate, inc, now, sq, turn, T, C, pn, ps, pq, pa, D, cx, cy, ch, ce, P, O⟩ (.slice a1 T.length c1) (.slice a2 C.length c2) (.slice a3 D.length c3) (.slice a4 P.length c4) (.slice a5 O.length c5) sD sP sO :=
    ⟨own_mono hsz hN2.t, own_mono hsz hN2.c, ⟨own_mono hsz hN2.d.row, hN2.d.at_, fun j hj => own_mono hsz (hN2.d.nest j hj), hN2.d.apart⟩, ⟨own_mono hsz hN2.p.row, hN2.p.at_, fun j hj => own_mono hsz (hN2.p.nest j hj), hN2.p.apart⟩, ⟨own_mono hsz hN2.o.row, hN2.o.at_, fun j hj => own_mono hsz (hN2.o.nest j hj), hN2.o.apart⟩, hN2.dp, hN2.tO, hN2.ht, hN2.hc, hN2.hd, hN2.hp, hN2.ho, hN2.hdn, hN2.hpn, hN2.hon⟩
  have b2 := btrans b1 k2
  have fin : AgN w (w1.alloc (.cells #[.int .i64 me, .bool up, .bool gone, .bool gate, .int .i64 inc, .int .i64 now, .int .i64 sq, .int .i64 turn, .slice a1 T.length c1, .slice a2 C.length c2, .int .i64 pn, .int .i64 ps, .int .i64 pq, .bool pa, .slice a3 D.length c3, .int .i64 cx, .int .i64 cy, .int .i64 ch, .int .i64 ce, .slice a4 P.length c4, .slice a5 O.length c5, .int .i64 0, .slice none 0 0] 76)) (.returned (.pointer (some ⟨w1.heap.size, 0, none⟩))) ⟨me, up, gone, gate, inc, now, sq, turn, T, C, pn, ps, pq, pa, D, cx, cy, ch, ce, P, O⟩ := ⟨w1.heap.size, _, _, _, _, _, sD, sP, sO, rfl, ⟨bx, ty, b1.size, hN3, WdO.nil _ _, fun x _ => bkW_nil _ x⟩, b2⟩
  clear hN hN2 hN3 b0 b1 b2 k1 k2 bx ty hsz
  go_wp2
  go_ret
  exact fin
theorem snoc_old (ws : List Wo) (x : Wo) (j : Nat) (h : j < ws.length) : (ws ++ [x]).getD j Wo.zero = ws.getD j Wo.zero := by
  rw [List.getD_eq_getElem?_getD, List.getElem?_append_left h, List.getD_eq_getElem?_getD]
theorem wR_snoc (ws : List Wo) (x : Wo) (sW : Nat → Value) (vf : Value) : rv (wR ws sW) (ws.length * 11) ++ woC x vf = rv (wR (ws ++ [x]) (fun j => if j < ws.length then sW j else vf)) ((ws.length + 1) * 11) := by
  rw [Nat.add_mul, Nat.one_mul, rv_add]
  congr 1
  · refine rv_congr fun i hi => ?_
    have h1 : i / 11 < ws.length := by omega
    unfold wR
    dsimp only
    rw [if_pos h1, snoc_old ws x _ h1]
  · have e1 : (ws ++ [x]).getD ws.length Wo.zero = x := by simp [List.getD]
    apply rv_ext rfl
    intro j hj
    have hj2 : j < 11 := hj
    have e2 : (ws.length * 11 + j) / 11 = ws.length := by omega
    have e3 : (ws.length * 11 + j) % 11 = j := by omega
    unfold wR
    dsimp only
    rw [e2, e3, e1, if_neg (Nat.lt_irrefl _), List.getD_eq_getElem?_getD, List.getElem?_eq_getElem (by exact hj)]
    rfl
theorem woC_one {x : Wo} {v : Value} (h : v.oneCell' = true) : ∀ u ∈ woC x v, u.oneCell' = true := by
  intro u hu
  simp only [woC, List.mem_cons, List.not_mem_nil, or_false] at hu
  rcases hu with rfl | rfl | rfl | rfl | rfl | rfl | rfl | rfl | rfl | rfl | rfl
  all_goals (first | rfl | exact h)
theorem snoc_new (ws : List Wo) (x : Wo) : (ws ++ [x]).getD ws.length Wo.zero = x := by simp [List.getD]
theorem infW : (Tryz.prog.info? 88).map (fun i => (i.zero, i.size, i.bytes)) = some (some (.agg #[.int .i64 0, .int .i64 0, .int .i64 0, .int .i64 0, .int .i64 0, .int .i64 0, .int .i64 0, .int .i64 0, .int .i64 0, .int .i64 0, .slice none 0 0]), 11, 104) := by kernel_rfl
def Sent (w w' : World) (r : Ending) (base g : Nat) (n : Nod) (dr : Int) (ws : List Wo) (v1 v2 v3 v4 v5 vw : Value) (sD sP sO sW : Nat → Value) : Prop := ∃ vw', r = .returned (.tuple #[]) ∧ Ag w' base g n dr ws v1 v2 v3 v4 v5 vw' sD sP sO sW ∧ Mw (fun y => y = g ∨ vw.ownBlock = some y) w w'
set_option maxRecDepth 20000 in
set_option maxHeartbeats 8000000 in
theorem send_any (base g : Nat) (n : Nod) (dr : Int) (ws : List Wo) (v1 v2 v3 v4 v5 vw : Value) (sD sP sO sW : Nat → Value) (x : Wo) (vf : Value) (b cap : Nat) (w : World) (h : Ag w base g n dr ws v1 v2 v3 v4 v5 vw sD sP sO sW) (hb : base ≤ w.heap.size) (hx : w.rangeAt b 0 (woC x vf)) (hf : w.ownsRow base 96 4 vf x.fs.length (rv (fv (tF x.fs)) (x.fs.length * 4))) (hfn : x.fs.length ≤ 1048576) (hws : ws.length < 1048576)
    (hap : ∀ y, vf.ownBlock = some y → ¬ bkN n v1 v2 v3 v4 v5 sD sP sO y ∧ ¬ bkW vw ws.length sW y) :
    Calls Tryz.prog 69 #[.pointer (some ⟨g, 0, none⟩), .slice (some ⟨b, 0, none⟩) 1 cap] w fun r w' => Sent w w' r base g n dr (ws ++ [x]) v1 v2 v3 v4 v5 vw sD sP sO (fun j => if j < ws.length then sW j else vf) := by
  obtain ⟨ti, hi, hz0, hz1, hz2⟩ := info_parts infW
  obtain ⟨aw, cw, rfl, _⟩ := own_slice h.wd.o.row
  have d22 := h.box.c 22 (.slice aw ws.length cw) rfl
  have own := h.wd.o.row
  have hcl : ∀ j u, (woC x vf)[j]? = some u → w.cell? ((⟨b, 0, none⟩ : Addr).add j) = some u := fun j u hu => by
    have e : (⟨b, 0, none⟩ : Addr).add j = ⟨b, 0 + j, none⟩ := by unfold Addr.add; split <;> simp_all
    rw [e]
    exact hx j u hu
  have hone : ∀ u ∈ woC x vf, u.oneCell' = true := woC_one (sl_one (own_sl hf))
  have hB := own_boxT own h.ty (by decide)
  have hl : (woC x vf).length = 1 * 11 := rfl
  go_enter Tryz.func69, Tryz.ntmps69
  go_wp2_with (at_builtin; refine wpList_append_own _ rfl _ _ 43 rfl base 88 ti (.agg #[.int .i64 0, .int .i64 0, .int .i64 0, .int .i64 0, .int .i64 0, .int .i64 0, .int .i64 0, .int .i64 0, .int .i64 0, .int .i64 0, .slice none 0 0]) 11 104 Tryz.underlying43 hi hz0 hz1 hz2 rfl (by decide) _ _ _ rfl own ⟨b, 0, none⟩ 1 cap (woC x vf) rfl hl hcl hone ?c3 ?c4 ?c5 ?_)
  case c3 => unfold maxLen; omega
  case c4 => omega
  case c5 => exact hb
  · intro v' w2 hown' hgrow _
    rw [wR_snoc] at hown'
    obtain ⟨av, cv, rfl, _⟩ := own_slice hown'
    have mg : Mw (fun y => (Value.slice aw ws.length cw).ownBlock = some y) w w2 := Mw.grown hgrow (fun _ e => e)
    have X := h.box.mw mg (fun e => hB g e rfl)
    have ty := h.ty.mw mg (fun e => hB g e rfl)
    have y22 := X.c 22 (.slice aw ws.length cw) rfl
    have z22 := X.z 22
    have nv : ∀ y, (Value.slice av (ws.length + 1) cv).ownBlock = some y → y ≠ g := own_boxT hown' ty (by decide)
    have nd2 := h.nd.mw mg (fun y e q => h.nw y e (.inl q))
    have nN2 := nd2.ng ty
    have hf2 := own_mw hf mg (fun y e q => (hap y e).2 (.inl q))
    have nf2 := own_boxT hf2 ty (by decide)
    have hn2 : ∀ j, j < ws.length → w2.ownsRow base 96 4 (sW j) (wN ws j) (wX ws j) := fun j hj => own_mw (h.wd.o.nest j hj) mg (own_apart (h.wd.o.nest j hj) own (by decide))
    have nn2 : ∀ j, j < ws.length → ∀ y, (sW j).ownBlock = some y → y ≠ g := fun j hj => own_boxT (hn2 j hj) ty (by decide)
    have ms : Mw (fun y => y = g) w2 (w2.setCell ⟨g, 22, none⟩ (.slice av (ws.length + 1) cv)) := (Mw.refl _ _).set rfl
    have X3 : Ws (w2.setCell ⟨g, 22, none⟩ (.slice av (ws.length + 1) cv)) g (agC n v1 v2 v3 v4 v5 dr (.slice av (ws.length + 1) cv)) := X.set 22 (by simp [agC]) (.slice av (ws.length + 1) cv)
    have ty3 : BoxT (w2.setCell ⟨g, 22, none⟩ (.slice av (ws.length + 1) cv)) g 76 := ty.set
    have row3 := own_mw hown' ms nv
    have nd3 := nd2.mw ms nN2
    have hf3 := own_mw hf2 ms nf2
    have hn3 : ∀ j, j < ws.length → (w2.setCell ⟨g, 22, none⟩ (.slice av (ws.length + 1) cv)).ownsRow base 96 4 (sW j) (wN ws j) (wX ws j) := fun j hj => own_mw (hn2 j hj) ms (nn2 j hj)
    have mE : Mw (fun y => y = g ∨ (Value.slice aw ws.length cw).ownBlock = some y) w (w2.setCell ⟨g, 22, none⟩ (.slice av (ws.length + 1) cv)) := (mg.mono (fun _ e => .inr e)).trans (ms.mono (fun _ e => .inl e))
    have wdE : WdO (w2.setCell ⟨g, 22, none⟩ (.slice av (ws.length + 1) cv)) base (ws ++ [x]) (.slice av (ws.length + 1) cv) (fun j => if j < ws.length then sW j else vf) := by
      have ll : (ws ++ [x]).length = ws.length + 1 := by simp
      refine ⟨⟨by rw [ll]; exact row3, fun j hj => wR_at _ _ j 10 _ rfl, fun j hj => ?_, fun i j hi hj hij => ?_⟩, by rw [ll]; omega, fun j hj => ?_⟩
      · rw [ll] at hj
        by_cases e : j < ws.length
        · (try dsimp only)
          rw [if_pos e]
          have := hn3 j e
          unfold wN wX at this ⊢
          unfold wN at this ⊢
          rw [snoc_old ws x j e]
          exact this
        · have e2 : j = ws.length := by omega
          subst e2
          (try dsimp only)
          rw [if_neg e]
          unfold wX wN
          rw [snoc_new]
          exact hf3
      · rw [ll] at hi hj
        (try dsimp only)
        by_cases e : i < ws.length
        · rw [if_pos e]
          by_cases e2 : j < ws.length
          · rw [if_pos e2]
            exact h.wd.o.apart i j e e2 hij
          · rw [if_neg e2]
            intro y q1 q2
            exact (hap y q2).2 (.inr ⟨i, e, q1⟩)
        · rw [if_neg e]
          by_cases e2 : j < ws.length
          · rw [if_pos e2]
            intro y q1 q2
            exact (hap y q1).2 (.inr ⟨j, e2, q2⟩)
          · omega
      · rw [ll] at hj
        unfold wN
        by_cases e : j < ws.length
        · rw [snoc_old ws x j e]
          exact h.wd.hn j e
        · have e2 : j = ws.length := by omega
          subst e2
          rw [snoc_new]
          exact hfn
    have nwE : ∀ y, bkN n v1 v2 v3 v4 v5 sD sP sO y → ¬ bkW (.slice av (ws.length + 1) cv) (ws ++ [x]).length (fun j => if j < ws.length then sW j else vf) y := by
      rintro y hy (q | ⟨j, hj, q⟩)
      · rcases hy with e | e | (e | ⟨i, hi, e⟩) | (e | ⟨i, hi, e⟩) | (e | ⟨i, hi, e⟩)
        · exact own_apart nd3.t row3 (by decide) y e q
        · exact own_apart nd3.c row3 (by decide) y e q
        · exact own_apart nd3.d.row row3 (by decide) y e q
        · exact own_apart (nd3.d.nest i hi) row3 (by decide) y e q
        · exact own_apart nd3.p.row row3 (by decide) y e q
        · exact own_apart (nd3.p.nest i hi) row3 (by decide) y e q
        · exact own_apart nd3.o.row row3 (by decide) y e q
        · exact own_apart (nd3.o.nest i hi) row3 (by decide) y e q
      · (try dsimp only at q)
        by_cases e : j < ws.length
        · rw [if_pos e] at q
          exact h.nw y hy (.inr ⟨j, e, q⟩)
        · rw [if_neg e] at q
          exact (hap y q).1 hy
    have fin : Sent w (w2.setCell ⟨g, 22, none⟩ (.slice av (ws.length + 1) cv)) (.returned (.tuple #[])) base g n dr (ws ++ [x]) v1 v2 v3 v4 v5 (.slice aw ws.length cw) sD sP sO (fun j => if j < ws.length then sW j else vf) := ⟨_, rfl, ⟨X3, ty3, h.lo, nd3, wdE, nwE⟩, mE⟩
    clear h own hcl hone hown' hgrow mg X ty nv nd2 nN2 hf2 nf2 hn2 nn2 ms X3 ty3 row3 nd3 hf3 hn3 mE wdE nwE d22
    go_wp2
    exact bodyPost_end (v := .tuple #[]) (by simp [results, Tryz.results69]) rfl fin
set_option maxRecDepth 20000 in
set_option maxHeartbeats 8000000 in
theorem done_any (base g : Nat) (n : Nod) (dr : Int) (ws : List Wo) (v1 v2 v3 v4 v5 vw : Value) (sD sP sO sW : Nat → Value) (w : World) (h : Ag w base g n dr ws v1 v2 v3 v4 v5 vw sD sP sO sW) :
    Calls Tryz.prog 41 #[.pointer (some ⟨g, 0, none⟩)] w fun r w' => r = .returned (.tuple #[ndW n v1 v2 v3 v4 v5, vw]) ∧ Below w.heap.size w w' := by
  have X := h.box
  have hN := h.nd
  obtain ⟨aw, cw, rfl, _⟩ := own_slice h.wd.o.row
  have gl := X.lt
  clear h
  obtain ⟨a1, c1, rfl, _⟩ := own_slice hN.t
  obtain ⟨a2, c2, rfl, _⟩ := own_slice hN.c
  obtain ⟨a3, c3, rfl, _⟩ := own_slice hN.d.row
  obtain ⟨a4, c4, rfl, _⟩ := own_slice hN.p.row
  obtain ⟨a5, c5, rfl, _⟩ := own_slice hN.o.row
  obtain ⟨me, up, gone, gate, inc, now, sq, turn, T, C, pn, ps, pq, pa, D, cx, cy, ch, ce, P, O⟩ := n
  unfold ndW
  dsimp only at *
  clear hN
  unfold agC at X
  dsimp only at X
  go_enter Tryz.func41, Tryz.ntmps41
  go_upto_region 1 with fail
  generalize hu : w.alloc (.cells _ _) = u
  obtain ⟨R, b0⟩ := box1 hu
  clear hu
  replace X := X.below b0
  have d22 := X.c 22 (.slice aw ws.length cw) rfl
  have xr : u.rangeAt g 0 [.int .i64 me, .bool up, .bool gone, .bool gate, .int .i64 inc, .int .i64 now, .int .i64 sq, .int .i64 turn, .slice a1 T.length c1, .slice a2 C.length c2, .int .i64 pn, .int .i64 ps, .int .i64 pq, .bool pa, .slice a3 D.length c3, .int .i64 cx, .int .i64 cy, .int .i64 ch, .int .i64 ce, .slice a4 P.length c4, .slice a5 O.length c5] := fun j x hx => by
    have hj : j < 21 := (List.getElem?_eq_some_iff.1 hx).1
    rw [Nat.zero_add]
    refine X.c j x ?_
    rw [← hx]
    exact List.getElem?_append_left (l₁ := ([.int .i64 me, .bool up, .bool gone, .bool gate, .int .i64 inc, .int .i64 now, .int .i64 sq, .int .i64 turn, .slice a1 T.length c1, .slice a2 C.length c2, .int .i64 pn, .int .i64 ps, .int .i64 pq, .bool pa, .slice a3 D.length c3, .int .i64 cx, .int .i64 cy, .int .i64 ch, .int .i64 ce, .slice a4 P.length c4, .slice a5 O.length c5] : List Value)) (l₂ := [.int .i64 dr, .slice aw ws.length cw]) hj
  have hth : u.there w.heap.size 0 21 := R.there rfl
  obtain ⟨KR, hKR⟩ : ∃ K, Hid (w.heap.size = K) := ⟨_, rfl⟩
  have gR : g ≠ KR := by rw [← hKR.out]; omega
  have g1 : w.heap.size ≤ KR := by rw [← hKR.out]; exact Nat.le_refl _
  rw [hKR.out] at hth
  rw [hKR.out]
  clear X R
  refine wp_region_w (fun x => x = KR) s46_1 t46_1 (fun hbq => ?_)
  refine mY ?_
  refine mY ?_
  refine mY ?_
  refine mR ?_
  refine mY ?_
  refine mY ?_
  refine mY ?_
  refine mL ?_
  refine mC (fun K hK => ?_)
  have hth' : u.drew.there KR 0 21 := hth
  refine wp_store_mid 42 _ _ rfl KR 0 #[.int .i64 me, .bool up, .bool gone, .bool gate, .int .i64 inc, .int .i64 now, .int .i64 sq, .int .i64 turn, .slice a1 T.length c1, .slice a2 C.length c2, .int .i64 pn, .int .i64 ps, .int .i64 pq, .bool pa, .slice a3 D.length c3, .int .i64 cx, .int .i64 cy, .int .i64 ch, .int .i64 ce, .slice a4 P.length c4, .slice a5 O.length c5] rfl rfl hth' (by kernel_rfl) (by kernel_rfl) ?_
  have mEE : Mw (fun x => x = KR) u (u.drew.setCells KR 0 (#[.int .i64 me, .bool up, .bool gone, .bool gate, .int .i64 inc, .int .i64 now, .int .i64 sq, .int .i64 turn, .slice a1 T.length c1, .slice a2 C.length c2, .int .i64 pn, .int .i64 ps, .int .i64 pq, .bool pa, .slice a3 D.length c3, .int .i64 cx, .int .i64 cy, .int .i64 ch, .int .i64 ce, .slice a4 P.length c4, .slice a5 O.length c5] : Array Value).toList) := by
    have q := But2.cells (c := KR) (d := KR) (o := 0) (w := u.drew) (#[.int .i64 me, .bool up, .bool gone, .bool gate, .int .i64 inc, .int .i64 now, .int .i64 sq, .int .i64 turn, .slice a1 T.length c1, .slice a2 C.length c2, .int .i64 pn, .int .i64 ps, .int .i64 pq, .bool pa, .slice a3 D.length c3, .int .i64 cx, .int .i64 cy, .int .i64 ch, .int .i64 ce, .slice a4 P.length c4, .slice a5 O.length c5] : Array Value).toList
    have q2 := below_cells (w := u.drew) (B := 0) KR (#[.int .i64 me, .bool up, .bool gone, .bool gate, .int .i64 inc, .int .i64 now, .int .i64 sq, .int .i64 turn, .slice a1 T.length c1, .slice a2 C.length c2, .int .i64 pn, .int .i64 ps, .int .i64 pq, .bool pa, .slice a3 D.length c3, .int .i64 cx, .int .i64 cy, .int .i64 ch, .int .i64 ce, .slice a4 P.length c4, .slice a5 O.length c5] : Array Value).toList 0 u.drew (Nat.zero_le _) (Below.refl 0 u.drew)
    exact ⟨q2.os, q2.tape, q2.output, q.size, fun i hi n => q.block i hi n n⟩
  refine hK.out _ _ mEE (.inl ?_)
  clear hK K
  try simp only [putQ]
  refine mY ?_
  refine mE ?_
  have hr := read43 (World.rangeAt_setCells_same u.drew KR 0 (#[.int .i64 me, .bool up, .bool gone, .bool gate, .int .i64 inc, .int .i64 now, .int .i64 sq, .int .i64 turn, .slice a1 T.length c1, .slice a2 C.length c2, .int .i64 pn, .int .i64 ps, .int .i64 pq, .bool pa, .slice a3 D.length c3, .int .i64 cx, .int .i64 cy, .int .i64 ch, .int .i64 ce, .slice a4 P.length c4, .slice a5 O.length c5] : Array Value).toList hth') rfl
  have b9 := below_cells KR (#[.int .i64 me, .bool up, .bool gone, .bool gate, .int .i64 inc, .int .i64 now, .int .i64 sq, .int .i64 turn, .slice a1 T.length c1, .slice a2 C.length c2, .int .i64 pn, .int .i64 ps, .int .i64 pq, .bool pa, .slice a3 D.length c3, .int .i64 cx, .int .i64 cy, .int .i64 ch, .int .i64 ce, .slice a4 P.length c4, .slice a5 O.length c5] : Array Value).toList 0 u.drew g1 (⟨b0.os, b0.tape, b0.output, b0.size, b0.block⟩ : Below w.heap.size w u.drew)
  clear hth hth' d22 xr b0 hbq
  generalize u.drew.setCells KR 0 (#[.int .i64 me, .bool up, .bool gone, .bool gate, .int .i64 inc, .int .i64 now, .int .i64 sq, .int .i64 turn, .slice a1 T.length c1, .slice a2 C.length c2, .int .i64 pn, .int .i64 ps, .int .i64 pq, .bool pa, .slice a3 D.length c3, .int .i64 cx, .int .i64 cy, .int .i64 ch, .int .i64 ce, .slice a4 P.length c4, .slice a5 O.length c5] : Array Value).toList = W4 at *
  go_wp2
  refine bodyPost_ret (v := .tuple #[.agg #[.int .i64 me, .bool up, .bool gone, .bool gate, .int .i64 inc, .int .i64 now, .int .i64 sq, .int .i64 turn, .slice a1 T.length c1, .slice a2 C.length c2, .int .i64 pn, .int .i64 ps, .int .i64 pq, .bool pa, .slice a3 D.length c3, .int .i64 cx, .int .i64 cy, .int .i64 ch, .int .i64 ce, .slice a4 P.length c4, .slice a5 O.length c5], .slice aw ws.length cw]) ?_ rfl ⟨rfl, b9⟩
  simp only [results, Tryz.results41]
  simp [asAddr, hr]
end Go.Proofs.YtgcdcfjaeehnbaaGreat
