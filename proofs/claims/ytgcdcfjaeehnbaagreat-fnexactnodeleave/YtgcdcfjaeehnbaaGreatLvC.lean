/- Leaving: the model's copy of a node. -/
import Derived.Test.YtgcdcfjaeehnbaaGreatLv5
namespace Go.Proofs.YtgcdcfjaeehnbaaGreat
open Go.ChangeShapes Go.WideShapes Go.ChangeAt Go.RowKit
attribute [local go_sem ↓] Go.wp_at_zero Go.wp_at_succ
theorem own_ep {E w : World} {KO base size n : Nat} {e : TypeId} {v : Value} {xs : List Value} (o : E.ownsRow base e size v n xs) (m : Mw (fun x => x = KO ∨ E.heap.size ≤ x) E w) (hb : KO < base) : w.ownsRow base e size v n xs := own_mw o m (fun x e q => by have := o.lt x e; omega)
theorem rv_snoc {f : Nat → Value} {k s : Nat} {xs : List Value} (hl : xs.length = s) (h : ∀ j, j < s → xs[j]? = some (f (k * s + j))) : rv f (k * s) ++ xs = rv f ((k + 1) * s) := by
 rw [Nat.add_mul, Nat.one_mul, rv_add]
 congr 1
 exact rv_ext hl h
theorem apt_snoc {sl : Nat → Value} {k : Nat} {v : Value} (h : ∀ i j, i < k → j < k → i ≠ j → ∀ x, (sl i).ownBlock = some x → (sl j).ownBlock ≠ some x) (hv : ∀ j, j < k → ∀ x, v.ownBlock = some x → (sl j).ownBlock ≠ some x) : ∀ i j, i < k + 1 → j < k + 1 → i ≠ j → ∀ x, (if i = k then v else sl i).ownBlock = some x → (if j = k then v else sl j).ownBlock ≠ some x := by
 intro i j hi hj hij x
 by_cases e : i = k
 ·rw [if_pos e, if_neg (by omega)]
  exact hv j (by omega) x
 ·rw [if_neg e]
  by_cases e' : j = k
  ·rw [if_pos e']
   exact fun q1 q2 => hv i (by omega) x q2 q1
  ·rw [if_neg e']
   exact h i j (by omega) (by omega) hij x
set_option maxRecDepth 20000 in
set_option maxHeartbeats 8000000 in
theorem scopied_any (n : Nod) (L : Loc) (w : World) (h : NdR w n L) (hf : LocF n L) : Calls Tryz.prog 30 #[ndV n L] w fun r w' => CpN w w' r n := by
 replace h : NdIn w L.ta n.T.length (tF n.T) L.ca n.C.length (cF n.C) L.da n.D.length (dF n.D L.dA L.dC) L.pla n.P.length (pF n.P L.pA L.pC) L.oa n.O.length (oF n.O L.oA L.oC) := h
 obtain ⟨xs, hxs⟩ : ∃ l, Hid (ndL n L = l) := ⟨_, rfl⟩
 have hv : ndV n L = .agg xs.toArray := by rw [← hxs.out]; rfl
 have hx : xs.length = 21 := by rw [← hxs.out]; rfl
 have hx1 : ∀ u ∈ xs, u.oneCell' = true := by rw [← hxs.out]; exact ndC_one rfl rfl rfl rfl rfl
 rw [hv]
 clear hv
 go_enter Tryz.func30, Tryz.ntmps30
 go_upto_region 1 with fail
 generalize hu : (w.alloc (.cells _ _)).alloc (.cells _ _) = u
 obtain ⟨X, R, b0, hs⟩ := box2 hu
 clear hu
 obtain ⟨KX, hKX⟩ : ∃ K, Hid (w.heap.size = K) := ⟨_, rfl⟩
 have g0 : w.heap.size ≤ KX := Nat.le_of_eq hKX.out
 rw [hKX.out] at X R hs ⊢
 obtain ⟨zs, hz21, R⟩ : ∃ zs, zs.length = 21 ∧ Ws u (KX + 1) zs := ⟨_, rfl, R⟩
 have x0 : u.rangeAt KX 0 xs := by simpa using X.range
 replace X : Ws u KX xs := by simpa using X
 obtain ⟨KO, hKO⟩ : ∃ K, Hid (u.heap.size = K) := ⟨_, rfl⟩
 have gO : KX + 2 ≤ KO := by have := hKO.out; omega
 clear hs
 have hth : ∀ y c, u.alloc (.cells c 42) = y → c.size = 21 → y.there u.heap.size 0 xs.toArray.size := fun y c e s => (box1 e).1.there (by simp [hx, s])
 go_upto_region 2 with (first | (refine load43L (by rfl) (.tmp 1) rfl KX rfl xs x0 hx ?_) | (refine wpList_store_mid rfl 42 _ _ rfl u.heap.size 0 xs.toArray rfl rfl (hth _ _ rfl rfl) (by rw [size43]; simp [hx]) (by simpa [Array.all_eq_true_iff_forall_mem] using hx1) ?_))
 clear hth x0 hx1
 generalize hy : u.alloc (.cells _ 42) = y
 have hY := box1 hy
 have hc21 : Ws (y.setCells u.heap.size 0 xs.toArray.toList) u.heap.size xs := hY.1.cells xs (by rw [hx]; rfl)
 have kk : Below u.heap.size u (y.setCells u.heap.size 0 xs.toArray.toList) := (Mw.cells (b := u.heap.size) xs).below hY.2 (fun i e => by omega)
 clear hY hy
 generalize y.setCells u.heap.size 0 xs.toArray.toList = E0 at *
 have Y : Ws E0 KO (ndL n L) := by rw [hxs.out]; exact hKO.out ▸ hc21
 rw [hKO.out]
 replace X : Ws E0 KX (ndL n L) := by rw [hxs.out]; exact X.below kk
 replace R := R.below kk
 replace b0 := btrans b0 kk
 clear kk hc21 hx hxs hKO hKX y
 unfold ndL at X Y
 have gE : KO + 1 ≤ E0.heap.size := Y.lt
 obtain ⟨ti, hi, hz0, hz1, hz2⟩ := info_parts infF
 have dd := (X.alloc (.cells #[] 96)).c 8 (.slice L.ta n.T.length L.tc) rfl
 have hl := h.hf
 have kA := balloc (.cells #[] 96) (Below.refl E0.heap.size E0)
 have sA := fsl_src (h.f.below (btrans b0 kA)) hf.t
 go_wp2_with (at_builtin; refine wpList_append_src rfl _ _ 34 rfl E0.heap.size 96 ti (.agg #[.int .i64 0, .int .i64 0, .int .i64 0, .bool false]) 4 32 Tryz.underlying34 hi hz0 hz1 hz2 rfl (by decide) _ 0 [] rfl own_empty _ n.T.length (fv (tF n.T)) rfl sA (fun j _ => fv_one _ j) (by unfold maxLen; omega) (by omega) kA.size ?_)
 intro v w1 o1 gr
 have k1 : Below E0.heap.size E0 w1 := kA.grown gr kA.size (fun k hk => by simp [Value.ownBlock] at hk; omega)
 replace o1 : w1.ownsRow (KO + 1) 96 4 v n.T.length (rv (fv (tF n.T)) (n.T.length * 4)) := own_mono gE (by simpa using o1)
 obtain ⟨a1, c1, rfl, _⟩ := own_slice o1
 have Y1 := Y.below k1
 have yf := Y1.c 8 (.slice L.ta n.T.length L.tc) rfl
 have yz := Y1.z 8
 go_upto_region 3 with fail
 clear dd kA sA gr hi hz0 hz1 hz2 ti yf yz Y
 have mz : Mw (fun x => x = KO) w1 (w1.setCell ⟨KO, 8, none⟩ (.slice a1 n.T.length c1)) := (Mw.refl _ _).set rfl
 have m : Mw (fun x => x = KO ∨ E0.heap.size ≤ x) E0 (w1.setCell ⟨KO, 8, none⟩ (.slice a1 n.T.length c1)) := (Mw.of_below k1).set (.inl rfl)
 replace o1 := own_mw o1 mz (fun x e q => by have := o1.lt x e; omega)
 have Y : Ws (w1.setCell ⟨KO, 8, none⟩ (.slice a1 n.T.length c1)) KO (ndC n (.slice a1 n.T.length c1) (.slice L.ca n.C.length L.cc) (.slice L.da n.D.length L.dc) (.slice L.pla n.P.length L.plc) (.slice L.oa n.O.length L.oc)) := Y1.set 8 (by simp [ndC]) _
 replace b0 := m.below b0 (fun i q => by have := b0.size; omega)
 replace X := X.mw m (fun q => by have := X.lt; omega)
 replace R := R.mw m (fun q => by have := R.lt; omega)
 generalize w1.setCell ⟨KO, 8, none⟩ (.slice a1 n.T.length c1) = E1 at *
 clear m mz Y1 k1 w1
 replace gE : KO + 1 ≤ E1.heap.size := Y.lt
 obtain ⟨ti, hi, hz0, hz1, hz2⟩ := info_parts infT
 have dd := (X.alloc (.cells #[] 127)).c 9 (.slice L.ca n.C.length L.cc) rfl
 have hl := h.hi
 have kA := balloc (.cells #[] 127) (Below.refl E1.heap.size E1)
 have sA := tsl_src (h.i.below (btrans b0 kA)) hf.c
 go_wp2_with (at_builtin; refine wpList_append_src rfl _ _ 35 rfl E1.heap.size 127 ti (.agg #[.int .i64 0, .int .i64 0, .int .i64 0, .bool false, .int .i64 0]) 5 40 Tryz.underlying35 hi hz0 hz1 hz2 rfl (by decide) _ 0 [] rfl own_empty _ n.C.length (tv (cF n.C)) rfl sA (fun j _ => tv_one _ j) (by unfold maxLen; omega) (by omega) kA.size ?_)
 intro v w1 o2 gr
 have k1 : Below E1.heap.size E1 w1 := kA.grown gr kA.size (fun k hk => by simp [Value.ownBlock] at hk; omega)
 replace o2 : w1.ownsRow (KO + 1) 127 5 v n.C.length (rv (tv (cF n.C)) (n.C.length * 5)) := own_mono gE (by simpa using o2)
 obtain ⟨a2, c2, rfl, _⟩ := own_slice o2
 have Y1 := Y.below k1
 have yf := Y1.c 9 (.slice L.ca n.C.length L.cc) rfl
 have yz := Y1.z 9
 go_upto_region 4 with fail
 clear dd kA sA gr hi hz0 hz1 hz2 ti yf yz Y
 have mz : Mw (fun x => x = KO) w1 (w1.setCell ⟨KO, 9, none⟩ (.slice a2 n.C.length c2)) := (Mw.refl _ _).set rfl
 have m : Mw (fun x => x = KO ∨ E1.heap.size ≤ x) E1 (w1.setCell ⟨KO, 9, none⟩ (.slice a2 n.C.length c2)) := (Mw.of_below k1).set (.inl rfl)
 replace o2 := own_mw o2 mz (fun x e q => by have := o2.lt x e; omega)
 have Y : Ws (w1.setCell ⟨KO, 9, none⟩ (.slice a2 n.C.length c2)) KO (ndC n (.slice a1 n.T.length c1) (.slice a2 n.C.length c2) (.slice L.da n.D.length L.dc) (.slice L.pla n.P.length L.plc) (.slice L.oa n.O.length L.oc)) := Y1.set 9 (by simp [ndC]) _
 replace b0 := m.below b0 (fun i q => by have := b0.size; omega)
 replace X := X.mw m (fun q => by have := X.lt; omega)
 replace R := R.mw m (fun q => by have := R.lt; omega)
 replace o1 := own_ep o1 m (Nat.lt_succ_self _)
 generalize w1.setCell ⟨KO, 9, none⟩ (.slice a2 n.C.length c2) = E2 at *
 clear m mz Y1 k1 w1
 -- D
 replace gE : KO + 1 ≤ E2.heap.size := Y.lt
 have kA := balloc (.cells #[] 121) (Below.refl E2.heap.size E2)
 have oE : (E2.alloc (.cells #[] 121)).ownsRow E2.heap.size 121 4 (.slice (some ⟨E2.heap.size, 0, none⟩) 0 0) 0 [] := own_empty
 have Y1 := Y.below kA
 have yf := Y1.c 14 (.slice L.da n.D.length L.dc) rfl
 have yz := Y1.z 14
 go_upto_region 5 with fail
 have m0 : Mw (fun x => x = KO ∨ E2.heap.size ≤ x) E2 ((E2.alloc (.cells #[] 121)).setCell ⟨KO, 14, none⟩ (.slice (some ⟨E2.heap.size, 0, none⟩) 0 0)) := (Mw.of_below kA).set (.inl rfl)
 replace oE := own_mw oE ((Mw.refl (fun x => x = KO) _).set (o := 14) (v := .slice (some ⟨E2.heap.size, 0, none⟩) 0 0) rfl) (fun x e q => by have := oE.lt x e; omega)
 have Y2 : Ws ((E2.alloc (.cells #[] 121)).setCell ⟨KO, 14, none⟩ (.slice (some ⟨E2.heap.size, 0, none⟩) 0 0)) KO (ndC n (.slice a1 n.T.length c1) (.slice a2 n.C.length c2) (.slice (some ⟨E2.heap.size, 0, none⟩) 0 0) (.slice L.pla n.P.length L.plc) (.slice L.oa n.O.length L.oc)) := Y1.set 14 (by simp [ndC]) _
 generalize (E2.alloc (.cells #[] 121)).setCell ⟨KO, 14, none⟩ (.slice (some ⟨E2.heap.size, 0, none⟩) 0 0) = w1 at *
 clear Y Y1 yf yz kA
 go_wp2_with fail
 go_loopw [4] (fun i E3 => ∃ (k : Nat) (sl : Nat → Value) (a3 : Option Addr) (c3 : Nat), k ≤ n.D.length ∧ i = .int .i64 k ∧ Mw (fun x => x = KO ∨ E2.heap.size ≤ x) E2 E3 ∧ Ws E3 KO (ndC n (.slice a1 n.T.length c1) (.slice a2 n.C.length c2) (.slice a3 k c3) (.slice L.pla n.P.length L.plc) (.slice L.oa n.O.length L.oc)) ∧ E3.ownsRow E2.heap.size 121 4 (.slice a3 k c3) k (rv (dR n.D sl) (k * 4)) ∧ (∀ j, j < k → E3.ownsRow E2.heap.size 3 1 (sl j) (dN n.D j) (dX n.D j)) ∧ ∀ i j, i < k → j < k → i ≠ j → ∀ x, (sl i).ownBlock = some x → (sl j).ownBlock ≠ some x) (fun i _ => n.D.length - (intOf i).toNat)
 case atStart => exact ⟨0, fun _ => .slice none 0 0, _, _, Nat.zero_le _, rfl, m0, Y2, by simpa [rv] using oE, fun j hj => by omega, fun i j hi => by omega⟩
 case round =>
  clear m0 Y2 oE
  obtain ⟨E3, hE⟩ : ∃ W : World, W = wr := ⟨_, rfl⟩
  subst hE
  obtain ⟨k, sl, a3, c3, hk, rfl, m, Y, or_, on, oa_⟩ := hrel
  have bw := m.below b0 (fun i q => by have := b0.size; omega)
  have dd : E3.cell? ⟨KX, 14, none⟩ = some (.slice L.da n.D.length L.dc) := m.cell (X.c 14 _ rfl) (fun q => by have := X.lt; dsimp only at q; omega)
  have gwr := m.size
  by_cases hlt : k < n.D.length
  ·have i0 : (0 : Int) ≤ (k : Int) := by omega
   have i1 : (k : Int) < (n.D.length : Int) := by omega
   obtain ⟨b, off, e_, _, hfd⟩ := (h.d.below bw) (by omega)
   obtain ⟨q0, q1, q2, q3⟩ := hfd k hlt
   simp only [dF] at q0 q1 q2 q3
   obtain ⟨x0, hx0⟩ : ∃ x, Hid ((n.D.getD k Dd.zero).n = x) := ⟨_, rfl⟩
   rw [hx0.out] at q0
   obtain ⟨x1, hx1⟩ : ∃ x, Hid ((n.D.getD k Dd.zero).i = x) := ⟨_, rfl⟩
   rw [hx1.out] at q1
   obtain ⟨x2, hx2⟩ : ∃ x, Hid ((n.D.getD k Dd.zero).s = x) := ⟨_, rfl⟩
   rw [hx2.out] at q2
   have cm : E3.cell? ⟨b, off + k * 4 + 3, none⟩ = some (.slice (L.dA k) (dN n.D k) (L.dC k)) := q3
   rw [e_] at dd
   clear q3 hfd e_
   go_upto_region 9 with fail
   clear dd cm q0 q1 q2
   generalize hy : E3.alloc (.cells _ _) = y
   obtain ⟨V, kY⟩ := box1 hy
   clear hy
   obtain ⟨KY, hKY⟩ : ∃ K, Hid (E3.heap.size = K) := ⟨_, rfl⟩
   have gY : E3.heap.size ≤ KY := Nat.le_of_eq hKY.out
   rw [hKY.out] at V ⊢
   obtain ⟨ti, hi, hz0, hz1, hz2⟩ := info_parts infI
   have dv := (V.alloc (.cells #[] 3)).c 3 (.slice (L.dA k) (dN n.D k) (L.dC k)) rfl
   have hlk : dN n.D k ≤ 1048576 := (h.db k hlt).2
   have kA := balloc (.cells #[] 3) (Below.refl y.heap.size y)
   obtain ⟨fk, hfk⟩ : ∃ f, Hid (nv (iF (n.D.getD k Dd.zero).bs) = f) := ⟨_, rfl⟩
   have sA : Src (y.alloc (.cells #[] 3)) (.slice (L.dA k) (dN n.D k) (L.dC k)) (dN n.D k) (dN n.D k * 1) fk := by rw [← hfk.out]; exact isl_src ((h.db k hlt).1.below (btrans (btrans bw kY) kA)) (hf.db k hlt)
   have hone5 : ∀ j, j < dN n.D k * 1 → (fk j).oneCell' = true := fun j _ => by rw [← hfk.out]; exact nv_one _ j
   go_wp2_with (at_builtin; refine wpList_append_src rfl _ _ 54 rfl y.heap.size 3 ti (.int .i64 0) 1 8 Tryz.underlying54 hi hz0 hz1 hz2 rfl (by decide) _ 0 [] rfl own_empty _ (dN n.D k) fk rfl sA hone5 (by unfold maxLen; omega) (by omega) kA.size ?_)
   intro v w1 on5 gr
   have k1 : Below y.heap.size y w1 := kA.grown gr kA.size (fun k hk => by simp [Value.ownBlock] at hk; omega)
   replace on5 : w1.ownsRow y.heap.size 3 1 v (dN n.D k) (dX n.D k) := by
    have q : w1.ownsRow y.heap.size 3 1 v (dN n.D k) (rv fk (dN n.D k * 1)) := by simpa using on5
    rw [← hfk.out] at q; exact q
   have hyl : KY < y.heap.size := V.lt
   clear dv kA sA gr hi hz0 hz1 hz2 ti hone5 hfk fk
   obtain ⟨a_, c_, rfl, _⟩ := own_slice on5
   replace V := V.below k1
   have yv := V.c 3 (.slice (L.dA k) (dN n.D k) (L.dC k)) rfl
   have zv := V.z 3
   go_upto_region 10 with fail
   have k2 : Below E3.heap.size E3 (w1.setCell ⟨KY, 3, none⟩ (.slice a_ (dN n.D k) c_)) := (btrans kY k1).setCell (p := ⟨KY, 3, none⟩) gY _
   replace on5 := own_mw on5 ((Mw.refl (fun x => x = KY) _).set (o := 3) (v := .slice a_ (dN n.D k) c_) rfl) (fun x e q => by have := on5.lt x e; omega)
   have V2 : Ws (w1.setCell ⟨KY, 3, none⟩ (.slice a_ (dN n.D k) c_)) KY [.int .i64 x0, .int .i64 x1, .int .i64 x2, .slice a_ (dN n.D k) c_] := V.set 3 (by simp) (.slice a_ (dN n.D k) c_)
   have g5 : E3.heap.size < y.heap.size := by omega
   clear V yv zv k1 kY
   generalize w1.setCell ⟨KY, 3, none⟩ (.slice a_ (dN n.D k) c_) = w2 at *
   obtain ⟨ti, hi, hz0, hz1, hz2⟩ := info_parts infD
   have hll := h.hd
   have yd := (Y.below k2).c 14 (.slice a3 k c3) rfl
   have e0_ := V2.c 0 (.int .i64 x0) rfl
   have e1_ := V2.c 1 (.int .i64 x1) rfl
   have e2_ := V2.c 2 (.int .i64 x2) rfl
   have e3_ := V2.c 3 (.slice a_ (dN n.D k) c_) rfl
   have kA := balloc (.cells #[.int .i64 x0, .int .i64 x1, .int .i64 x2, .slice a_ (dN n.D k) c_] 121) (Below.refl w2.heap.size w2)
   have oA := own_below (own_below or_ k2) kA
   have g2 := k2.size
   have eq : rv (dR n.D sl) (k * 4) ++ [.int .i64 x0, .int .i64 x1, .int .i64 x2, .slice a_ (dN n.D k) c_] = rv (dR n.D (fun j => if j = k then .slice a_ (dN n.D k) c_ else sl j)) ((k + 1) * 4) := by
    rw [show rv (dR n.D sl) (k * 4) = rv (dR n.D (fun j => if j = k then .slice a_ (dN n.D k) c_ else sl j)) (k * 4) from rv_congr fun i hi => by unfold dR; dsimp only; (repeat' split); all_goals (first | rfl | (exfalso; omega))]
    obtain ⟨r0, r1, r2, r3⟩ := dR_at n.D (fun j => if j = k then .slice a_ (dN n.D k) c_ else sl j) k
    refine rv_snoc rfl fun j hj => ?_
    match j, hj with
    | 0, _ => exact congrArg some (by rw [Nat.add_zero, r0, hx0.out])
    | 1, _ => exact congrArg some (by rw [r1, hx1.out])
    | 2, _ => exact congrArg some (by rw [r2, hx2.out])
    | 3, _ => exact congrArg some (by rw [r3, if_pos rfl])
   go_wp2_with (at_builtin; refine wpList_append_own _ rfl _ _ 37 rfl E2.heap.size 121 ti (.agg #[.int .i64 0, .int .i64 0, .int .i64 0, .slice none 0 0]) 4 48 Tryz.underlying37 hi hz0 hz1 hz2 rfl (by decide) _ _ _ rfl oA ⟨w2.heap.size, 0, none⟩ 1 1 [.int .i64 x0, .int .i64 x1, .int .i64 x2, .slice a_ (dN n.D k) c_] rfl rfl ?c1 ?c2 ?c3 ?c4 ?c5 ?_)
   case c1 =>
    intro j u hj
    match j, hj with
    | 0, hj => simp at hj; subst hj; simp [Addr.add]
    | 1, hj => simp at hj; subst hj; simp [Addr.add]
    | 2, hj => simp at hj; subst hj; simp [Addr.add]
    | 3, hj => simp at hj; subst hj; simp [Addr.add]
   case c2 => intro u hu; simp at hu; rcases hu with rfl | rfl | rfl | rfl <;> rfl
   case c3 => unfold maxLen; omega
   case c4 => omega
   case c5 => simp; omega
   intro v w3 on3 gr _
   try rw [eq] at on3
   obtain ⟨av_, cv_, rfl, _⟩ := own_slice on3
   have m3 : Mw (fun x => (Value.slice a3 k c3).ownBlock = some x) E3 w3 := (Mw.of_below (btrans k2 kA)).trans (Mw.grown gr (fun _ e => e))
   replace on5 := own_mw (own_below on5 kA) (Mw.grown gr (fun _ e => e)) (own_apart (own_below on5 kA) oA (by decide))
   have on3n : ∀ j, j < k → w3.ownsRow E2.heap.size 3 1 (sl j) (dN n.D j) (dX n.D j) := fun j hj => own_mw (on j hj) m3 (own_apart (on j hj) or_ (by decide))
   have ton := fun j (hj : j < k) x e => ((on j hj).lt x e).2
   have hor := fun x e => (or_.lt x e).1
   replace Y := Y.mw m3 (fun q => by have := hor _ q; omega)
   clear oA kA V2 gr yd e0_ e1_ e2_ e3_ hi hz0 hz1 hz2 ti eq on or_ k2
   have y_ := Y.c 14 (.slice a3 k c3) rfl
   have z_ := Y.z 14
   go_upto_region 7 with fail
   have mX : Mw (fun x => x = KO) w3 (w3.setCell ⟨KO, 14, none⟩ (.slice av_ (k + 1) cv_)) := (Mw.refl _ _).set rfl
   have m4 : Mw (fun x => x = KO ∨ E2.heap.size ≤ x) E2 (w3.setCell ⟨KO, 14, none⟩ (.slice av_ (k + 1) cv_)) := (m.trans (m3.mono fun x q => .inr (hor x q))).set (.inl rfl)
   have Y2 : Ws (w3.setCell ⟨KO, 14, none⟩ (.slice av_ (k + 1) cv_)) KO (ndC n (.slice a1 n.T.length c1) (.slice a2 n.C.length c2) (.slice av_ (k + 1) cv_) (.slice L.pla n.P.length L.plc) (.slice L.oa n.O.length L.oc)) := Y.set 14 (by simp [ndC]) _
   replace on3 := own_mw on3 mX (fun x e q => by have := on3.lt x e; omega)
   have h5 : ∀ x, (Value.slice a_ (dN n.D k) c_).ownBlock = some x → E3.heap.size ≤ x := fun x e => by have := on5.lt x e; omega
   replace on5 := own_mw on5 mX (fun x e q => by have := on5.lt x e; omega)
   have on4 : ∀ j, j < k → (w3.setCell ⟨KO, 14, none⟩ (.slice av_ (k + 1) cv_)).ownsRow E2.heap.size 3 1 (sl j) (dN n.D j) (dX n.D j) := fun j hj => own_mw (on3n j hj) mX (fun x e q => by have := (on3n j hj).lt x e; omega)
   clear mX y_ z_ on3n m3 m Y
   generalize w3.setCell ⟨KO, 14, none⟩ (.slice av_ (k + 1) cv_) = z at *
   go_wp2
   go_roundw
   case rel =>
    refine ⟨k + 1, fun j => if j = k then .slice a_ (dN n.D k) c_ else sl j, av_, cv_, by omega, by go_num, m4, Y2, on3, fun j hj => ?_, apt_snoc oa_ fun j hj x e q => by have := h5 x e; have := ton j hj x q; omega⟩
    dsimp only
    by_cases e : j = k
    ·subst e
     rw [if_pos rfl]
     exact own_mono (by omega) on5
    ·rw [if_neg e]
     exact on4 j (by omega)
   case measure => simp [intOf]; omega
  ·obtain rfl : k = n.D.length := by omega
   have hs1 : ∀ x, bkD (.slice a3 n.D.length c3) n.D.length sl x → E2.heap.size ≤ x := fun x e => by
    rcases e with e | ⟨j, hj, e⟩
    ·exact (or_.lt x e).1
    ·exact ((on j hj).lt x e).1
   obtain ⟨sD, hsD⟩ : ∃ s, Hid (sl = s) := ⟨_, rfl⟩
   rw [hsD.out] at or_ on oa_ hs1
   have mD : OwD E3 (KO + 1) (.slice a3 n.D.length c3) n.D.length (dR n.D sD) sD (dN n.D) (dX n.D) := ⟨own_mono gE or_, fun j _ => (dR_at n.D sD j).2.2.2, fun j hj => own_mono gE (on j hj), oa_⟩
   clear or_ on oa_ hs1 hsD sl hk hlt bw gwr
   replace b0 := m.below b0 (fun i q => by have := b0.size; omega)
   replace X := X.mw m (fun q => by have := X.lt; omega)
   replace R := R.mw m (fun q => by have := R.lt; omega)
   replace o1 := own_ep o1 m (Nat.lt_succ_self _)
   replace o2 := own_ep o2 m (Nat.lt_succ_self _)
   go_upto_region 11 with fail
   clear dd m
   -- P
   replace gE : KO + 1 ≤ E3.heap.size := Y.lt
   have kA := balloc (.cells #[] 103) (Below.refl E3.heap.size E3)
   have oE : (E3.alloc (.cells #[] 103)).ownsRow E3.heap.size 103 6 (.slice (some ⟨E3.heap.size, 0, none⟩) 0 0) 0 [] := own_empty
   have Y1 := Y.below kA
   have yf := Y1.c 19 (.slice L.pla n.P.length L.plc) rfl
   have yz := Y1.z 19
   go_upto_region 12 with fail
   have m0 : Mw (fun x => x = KO ∨ E3.heap.size ≤ x) E3 ((E3.alloc (.cells #[] 103)).setCell ⟨KO, 19, none⟩ (.slice (some ⟨E3.heap.size, 0, none⟩) 0 0)) := (Mw.of_below kA).set (.inl rfl)
   replace oE := own_mw oE ((Mw.refl (fun x => x = KO) _).set (o := 19) (v := .slice (some ⟨E3.heap.size, 0, none⟩) 0 0) rfl) (fun x e q => by have := oE.lt x e; omega)
   have Y2 : Ws ((E3.alloc (.cells #[] 103)).setCell ⟨KO, 19, none⟩ (.slice (some ⟨E3.heap.size, 0, none⟩) 0 0)) KO (ndC n (.slice a1 n.T.length c1) (.slice a2 n.C.length c2) (.slice a3 n.D.length c3) (.slice (some ⟨E3.heap.size, 0, none⟩) 0 0) (.slice L.oa n.O.length L.oc)) := Y1.set 19 (by simp [ndC]) _
   generalize (E3.alloc (.cells #[] 103)).setCell ⟨KO, 19, none⟩ (.slice (some ⟨E3.heap.size, 0, none⟩) 0 0) = w1 at *
   clear Y Y1 yf yz kA
   go_wp2_with fail
   go_loopw [6] (fun i E4 => ∃ (k : Nat) (sl : Nat → Value) (a4 : Option Addr) (c4 : Nat), k ≤ n.P.length ∧ i = .int .i64 k ∧ Mw (fun x => x = KO ∨ E3.heap.size ≤ x) E3 E4 ∧ Ws E4 KO (ndC n (.slice a1 n.T.length c1) (.slice a2 n.C.length c2) (.slice a3 n.D.length c3) (.slice a4 k c4) (.slice L.oa n.O.length L.oc)) ∧ E4.ownsRow E3.heap.size 103 6 (.slice a4 k c4) k (rv (pR n.P sl) (k * 6)) ∧ (∀ j, j < k → E4.ownsRow E3.heap.size 3 1 (sl j) (pN n.P j) (pX n.P j)) ∧ ∀ i j, i < k → j < k → i ≠ j → ∀ x, (sl i).ownBlock = some x → (sl j).ownBlock ≠ some x) (fun i _ => n.P.length - (intOf i).toNat)
   case atStart => exact ⟨0, fun _ => .slice none 0 0, _, _, Nat.zero_le _, rfl, m0, Y2, by simpa [rv] using oE, fun j hj => by omega, fun i j hi => by omega⟩
   case round =>
    clear m0 Y2 oE
    obtain ⟨E4, hE⟩ : ∃ W : World, W = wr := ⟨_, rfl⟩
    subst hE
    obtain ⟨k, sl, a4, c4, hk, rfl, m, Y, or_, on, oa_⟩ := hrel
    have bw := m.below b0 (fun i q => by have := b0.size; omega)
    have dd : E4.cell? ⟨KX, 19, none⟩ = some (.slice L.pla n.P.length L.plc) := m.cell (X.c 19 _ rfl) (fun q => by have := X.lt; dsimp only at q; omega)
    have gwr := m.size
    by_cases hlt : k < n.P.length
    ·have i0 : (0 : Int) ≤ (k : Int) := by omega
     have i1 : (k : Int) < (n.P.length : Int) := by omega
     obtain ⟨b, off, e_, _, hfd⟩ := (h.p.below bw) (by omega)
     obtain ⟨q0, q1, q2, q3, q4, q5⟩ := hfd k hlt
     simp only [pF] at q0 q1 q2 q3 q4 q5
     obtain ⟨x0, hx0⟩ : ∃ x, Hid ((n.P.getD k Pd.zero).n = x) := ⟨_, rfl⟩
     rw [hx0.out] at q0
     obtain ⟨x1, hx1⟩ : ∃ x, Hid ((n.P.getD k Pd.zero).x = x) := ⟨_, rfl⟩
     rw [hx1.out] at q1
     obtain ⟨x2, hx2⟩ : ∃ x, Hid ((n.P.getD k Pd.zero).y = x) := ⟨_, rfl⟩
     rw [hx2.out] at q2
     obtain ⟨x3, hx3⟩ : ∃ x, Hid ((n.P.getD k Pd.zero).h = x) := ⟨_, rfl⟩
     rw [hx3.out] at q3
     obtain ⟨x4, hx4⟩ : ∃ x, Hid ((n.P.getD k Pd.zero).e = x) := ⟨_, rfl⟩
     rw [hx4.out] at q4
     have cm : E4.cell? ⟨b, off + k * 6 + 5, none⟩ = some (.slice (L.pA k) (pN n.P k) (L.pC k)) := q5
     rw [e_] at dd
     clear q5 hfd e_
     go_upto_region 16 with fail
     clear dd cm q0 q1 q2 q3 q4
     generalize hy : E4.alloc (.cells _ _) = y
     obtain ⟨V, kY⟩ := box1 hy
     clear hy
     obtain ⟨KY, hKY⟩ : ∃ K, Hid (E4.heap.size = K) := ⟨_, rfl⟩
     have gY : E4.heap.size ≤ KY := Nat.le_of_eq hKY.out
     rw [hKY.out] at V ⊢
     obtain ⟨ti, hi, hz0, hz1, hz2⟩ := info_parts infI
     have dv := (V.alloc (.cells #[] 3)).c 5 (.slice (L.pA k) (pN n.P k) (L.pC k)) rfl
     have hlk : pN n.P k ≤ 1048576 := (h.pb k hlt).2
     have kA := balloc (.cells #[] 3) (Below.refl y.heap.size y)
     obtain ⟨fk, hfk⟩ : ∃ f, Hid (nv (iF (n.P.getD k Pd.zero).ts) = f) := ⟨_, rfl⟩
     have sA : Src (y.alloc (.cells #[] 3)) (.slice (L.pA k) (pN n.P k) (L.pC k)) (pN n.P k) (pN n.P k * 1) fk := by rw [← hfk.out]; exact isl_src ((h.pb k hlt).1.below (btrans (btrans bw kY) kA)) (hf.pb k hlt)
     have hone5 : ∀ j, j < pN n.P k * 1 → (fk j).oneCell' = true := fun j _ => by rw [← hfk.out]; exact nv_one _ j
     go_wp2_with (at_builtin; refine wpList_append_src rfl _ _ 54 rfl y.heap.size 3 ti (.int .i64 0) 1 8 Tryz.underlying54 hi hz0 hz1 hz2 rfl (by decide) _ 0 [] rfl own_empty _ (pN n.P k) fk rfl sA hone5 (by unfold maxLen; omega) (by omega) kA.size ?_)
     intro v w1 on5 gr
     have k1 : Below y.heap.size y w1 := kA.grown gr kA.size (fun k hk => by simp [Value.ownBlock] at hk; omega)
     replace on5 : w1.ownsRow y.heap.size 3 1 v (pN n.P k) (pX n.P k) := by
      have q : w1.ownsRow y.heap.size 3 1 v (pN n.P k) (rv fk (pN n.P k * 1)) := by simpa using on5
      rw [← hfk.out] at q; exact q
     have hyl : KY < y.heap.size := V.lt
     clear dv kA sA gr hi hz0 hz1 hz2 ti hone5 hfk fk
     obtain ⟨a_, c_, rfl, _⟩ := own_slice on5
     replace V := V.below k1
     have yv := V.c 5 (.slice (L.pA k) (pN n.P k) (L.pC k)) rfl
     have zv := V.z 5
     go_upto_region 17 with fail
     have k2 : Below E4.heap.size E4 (w1.setCell ⟨KY, 5, none⟩ (.slice a_ (pN n.P k) c_)) := (btrans kY k1).setCell (p := ⟨KY, 5, none⟩) gY _
     replace on5 := own_mw on5 ((Mw.refl (fun x => x = KY) _).set (o := 5) (v := .slice a_ (pN n.P k) c_) rfl) (fun x e q => by have := on5.lt x e; omega)
     have V2 : Ws (w1.setCell ⟨KY, 5, none⟩ (.slice a_ (pN n.P k) c_)) KY [.int .i64 x0, .int .i64 x1, .int .i64 x2, .int .i64 x3, .int .i64 x4, .slice a_ (pN n.P k) c_] := V.set 5 (by simp) (.slice a_ (pN n.P k) c_)
     have g5 : E4.heap.size < y.heap.size := by omega
     clear V yv zv k1 kY
     generalize w1.setCell ⟨KY, 5, none⟩ (.slice a_ (pN n.P k) c_) = w2 at *
     obtain ⟨ti, hi, hz0, hz1, hz2⟩ := info_parts infP
     have hll := h.hp
     have yd := (Y.below k2).c 19 (.slice a4 k c4) rfl
     have e0_ := V2.c 0 (.int .i64 x0) rfl
     have e1_ := V2.c 1 (.int .i64 x1) rfl
     have e2_ := V2.c 2 (.int .i64 x2) rfl
     have e3_ := V2.c 3 (.int .i64 x3) rfl
     have e4_ := V2.c 4 (.int .i64 x4) rfl
     have e5_ := V2.c 5 (.slice a_ (pN n.P k) c_) rfl
     have kA := balloc (.cells #[.int .i64 x0, .int .i64 x1, .int .i64 x2, .int .i64 x3, .int .i64 x4, .slice a_ (pN n.P k) c_] 103) (Below.refl w2.heap.size w2)
     have oA := own_below (own_below or_ k2) kA
     have g2 := k2.size
     have eq : rv (pR n.P sl) (k * 6) ++ [.int .i64 x0, .int .i64 x1, .int .i64 x2, .int .i64 x3, .int .i64 x4, .slice a_ (pN n.P k) c_] = rv (pR n.P (fun j => if j = k then .slice a_ (pN n.P k) c_ else sl j)) ((k + 1) * 6) := by
      rw [show rv (pR n.P sl) (k * 6) = rv (pR n.P (fun j => if j = k then .slice a_ (pN n.P k) c_ else sl j)) (k * 6) from rv_congr fun i hi => by unfold pR; dsimp only; (repeat' split); all_goals (first | rfl | (exfalso; omega))]
      obtain ⟨r0, r1, r2, r3, r4, r5⟩ := pR_at n.P (fun j => if j = k then .slice a_ (pN n.P k) c_ else sl j) k
      refine rv_snoc rfl fun j hj => ?_
      match j, hj with
      | 0, _ => exact congrArg some (by rw [Nat.add_zero, r0, hx0.out])
      | 1, _ => exact congrArg some (by rw [r1, hx1.out])
      | 2, _ => exact congrArg some (by rw [r2, hx2.out])
      | 3, _ => exact congrArg some (by rw [r3, hx3.out])
      | 4, _ => exact congrArg some (by rw [r4, hx4.out])
      | 5, _ => exact congrArg some (by rw [r5, if_pos rfl])
     go_wp2_with (at_builtin; refine wpList_append_own _ rfl _ _ 39 rfl E3.heap.size 103 ti (.agg #[.int .i64 0, .int .i64 0, .int .i64 0, .int .i64 0, .int .i64 0, .slice none 0 0]) 6 64 Tryz.underlying39 hi hz0 hz1 hz2 rfl (by decide) _ _ _ rfl oA ⟨w2.heap.size, 0, none⟩ 1 1 [.int .i64 x0, .int .i64 x1, .int .i64 x2, .int .i64 x3, .int .i64 x4, .slice a_ (pN n.P k) c_] rfl rfl ?c1 ?c2 ?c3 ?c4 ?c5 ?_)
     case c1 =>
      intro j u hj
      match j, hj with
      | 0, hj => simp at hj; subst hj; simp [Addr.add]
      | 1, hj => simp at hj; subst hj; simp [Addr.add]
      | 2, hj => simp at hj; subst hj; simp [Addr.add]
      | 3, hj => simp at hj; subst hj; simp [Addr.add]
      | 4, hj => simp at hj; subst hj; simp [Addr.add]
      | 5, hj => simp at hj; subst hj; simp [Addr.add]
     case c2 => intro u hu; simp at hu; rcases hu with rfl | rfl | rfl | rfl | rfl | rfl <;> rfl
     case c3 => unfold maxLen; omega
     case c4 => omega
     case c5 => simp; omega
     intro v w3 on3 gr _
     try rw [eq] at on3
     obtain ⟨av_, cv_, rfl, _⟩ := own_slice on3
     have m3 : Mw (fun x => (Value.slice a4 k c4).ownBlock = some x) E4 w3 := (Mw.of_below (btrans k2 kA)).trans (Mw.grown gr (fun _ e => e))
     replace on5 := own_mw (own_below on5 kA) (Mw.grown gr (fun _ e => e)) (own_apart (own_below on5 kA) oA (by decide))
     have on3n : ∀ j, j < k → w3.ownsRow E3.heap.size 3 1 (sl j) (pN n.P j) (pX n.P j) := fun j hj => own_mw (on j hj) m3 (own_apart (on j hj) or_ (by decide))
     have ton := fun j (hj : j < k) x e => ((on j hj).lt x e).2
     have hor := fun x e => (or_.lt x e).1
     replace Y := Y.mw m3 (fun q => by have := hor _ q; omega)
     clear oA kA V2 gr yd e0_ e1_ e2_ e3_ e4_ e5_ hi hz0 hz1 hz2 ti eq on or_ k2
     have y_ := Y.c 19 (.slice a4 k c4) rfl
     have z_ := Y.z 19
     go_upto_region 14 with fail
     have mX : Mw (fun x => x = KO) w3 (w3.setCell ⟨KO, 19, none⟩ (.slice av_ (k + 1) cv_)) := (Mw.refl _ _).set rfl
     have m4 : Mw (fun x => x = KO ∨ E3.heap.size ≤ x) E3 (w3.setCell ⟨KO, 19, none⟩ (.slice av_ (k + 1) cv_)) := (m.trans (m3.mono fun x q => .inr (hor x q))).set (.inl rfl)
     have Y2 : Ws (w3.setCell ⟨KO, 19, none⟩ (.slice av_ (k + 1) cv_)) KO (ndC n (.slice a1 n.T.length c1) (.slice a2 n.C.length c2) (.slice a3 n.D.length c3) (.slice av_ (k + 1) cv_) (.slice L.oa n.O.length L.oc)) := Y.set 19 (by simp [ndC]) _
     replace on3 := own_mw on3 mX (fun x e q => by have := on3.lt x e; omega)
     have h5 : ∀ x, (Value.slice a_ (pN n.P k) c_).ownBlock = some x → E4.heap.size ≤ x := fun x e => by have := on5.lt x e; omega
     replace on5 := own_mw on5 mX (fun x e q => by have := on5.lt x e; omega)
     have on4 : ∀ j, j < k → (w3.setCell ⟨KO, 19, none⟩ (.slice av_ (k + 1) cv_)).ownsRow E3.heap.size 3 1 (sl j) (pN n.P j) (pX n.P j) := fun j hj => own_mw (on3n j hj) mX (fun x e q => by have := (on3n j hj).lt x e; omega)
     clear mX y_ z_ on3n m3 m Y
     generalize w3.setCell ⟨KO, 19, none⟩ (.slice av_ (k + 1) cv_) = z at *
     go_wp2
     go_roundw
     case rel =>
      refine ⟨k + 1, fun j => if j = k then .slice a_ (pN n.P k) c_ else sl j, av_, cv_, by omega, by go_num, m4, Y2, on3, fun j hj => ?_, apt_snoc oa_ fun j hj x e q => by have := h5 x e; have := ton j hj x q; omega⟩
      dsimp only
      by_cases e : j = k
      ·subst e
       rw [if_pos rfl]
       exact own_mono (by omega) on5
      ·rw [if_neg e]
       exact on4 j (by omega)
     case measure => simp [intOf]; omega
    ·obtain rfl : k = n.P.length := by omega
     have hs1 : ∀ x, bkP (.slice a4 n.P.length c4) n.P.length sl x → E3.heap.size ≤ x := fun x e => by
      rcases e with e | ⟨j, hj, e⟩
      ·exact (or_.lt x e).1
      ·exact ((on j hj).lt x e).1
     obtain ⟨sP, hsP⟩ : ∃ s, Hid (sl = s) := ⟨_, rfl⟩
     rw [hsP.out] at or_ on oa_ hs1
     have dp : ∀ i j, i < n.D.length → j < n.P.length → Apt (sD i) (sP j) := fun i j hi hj x e1 e2 => by have := hs1 x (.inr ⟨j, hj, e2⟩); have := mD.lo x (.inr ⟨i, hi, e1⟩); omega
     have mP : OwP E4 (KO + 1) (.slice a4 n.P.length c4) n.P.length (pR n.P sP) sP (pN n.P) (pX n.P) := ⟨own_mono gE or_, fun j _ => (pR_at n.P sP j).2.2.2.2.2, fun j hj => own_mono gE (on j hj), oa_⟩
     clear or_ on oa_ hs1 hsP sl hk hlt bw gwr
     replace b0 := m.below b0 (fun i q => by have := b0.size; omega)
     replace X := X.mw m (fun q => by have := X.lt; omega)
     replace R := R.mw m (fun q => by have := R.lt; omega)
     replace o1 := own_ep o1 m (Nat.lt_succ_self _)
     replace o2 := own_ep o2 m (Nat.lt_succ_self _)
     replace mD := mD.mw m (fun x e q => by have := mD.lo x e; omega)
     go_upto_region 18 with fail
     clear dd m
     -- O
     replace gE : KO + 1 ≤ E4.heap.size := Y.lt
     have kA := balloc (.cells #[] 123) (Below.refl E4.heap.size E4)
     have oE : (E4.alloc (.cells #[] 123)).ownsRow E4.heap.size 123 2 (.slice (some ⟨E4.heap.size, 0, none⟩) 0 0) 0 [] := own_empty
     have Y1 := Y.below kA
     have yf := Y1.c 20 (.slice L.oa n.O.length L.oc) rfl
     have yz := Y1.z 20
     go_upto_region 19 with fail
     have m0 : Mw (fun x => x = KO ∨ E4.heap.size ≤ x) E4 ((E4.alloc (.cells #[] 123)).setCell ⟨KO, 20, none⟩ (.slice (some ⟨E4.heap.size, 0, none⟩) 0 0)) := (Mw.of_below kA).set (.inl rfl)
     replace oE := own_mw oE ((Mw.refl (fun x => x = KO) _).set (o := 20) (v := .slice (some ⟨E4.heap.size, 0, none⟩) 0 0) rfl) (fun x e q => by have := oE.lt x e; omega)
     have Y2 : Ws ((E4.alloc (.cells #[] 123)).setCell ⟨KO, 20, none⟩ (.slice (some ⟨E4.heap.size, 0, none⟩) 0 0)) KO (ndC n (.slice a1 n.T.length c1) (.slice a2 n.C.length c2) (.slice a3 n.D.length c3) (.slice a4 n.P.length c4) (.slice (some ⟨E4.heap.size, 0, none⟩) 0 0)) := Y1.set 20 (by simp [ndC]) _
     generalize (E4.alloc (.cells #[] 123)).setCell ⟨KO, 20, none⟩ (.slice (some ⟨E4.heap.size, 0, none⟩) 0 0) = w1 at *
     clear Y Y1 yf yz kA
     go_wp2_with fail
     go_loopw [8] (fun i E5 => ∃ (k : Nat) (sl : Nat → Value) (a5 : Option Addr) (c5 : Nat), k ≤ n.O.length ∧ i = .int .i64 k ∧ Mw (fun x => x = KO ∨ E4.heap.size ≤ x) E4 E5 ∧ Ws E5 KO (ndC n (.slice a1 n.T.length c1) (.slice a2 n.C.length c2) (.slice a3 n.D.length c3) (.slice a4 n.P.length c4) (.slice a5 k c5)) ∧ E5.ownsRow E4.heap.size 123 2 (.slice a5 k c5) k (rv (oR n.O sl) (k * 2)) ∧ (∀ j, j < k → E5.ownsRow E4.heap.size 96 4 (sl j) (oN n.O j) (oX n.O j)) ∧ ∀ i j, i < k → j < k → i ≠ j → ∀ x, (sl i).ownBlock = some x → (sl j).ownBlock ≠ some x) (fun i _ => n.O.length - (intOf i).toNat)
     case atStart => exact ⟨0, fun _ => .slice none 0 0, _, _, Nat.zero_le _, rfl, m0, Y2, by simpa [rv] using oE, fun j hj => by omega, fun i j hi => by omega⟩
     case round =>
      clear m0 Y2 oE
      obtain ⟨E5, hE⟩ : ∃ W : World, W = wr := ⟨_, rfl⟩
      subst hE
      obtain ⟨k, sl, a5, c5, hk, rfl, m, Y, or_, on, oa_⟩ := hrel
      have bw := m.below b0 (fun i q => by have := b0.size; omega)
      have dd : E5.cell? ⟨KX, 20, none⟩ = some (.slice L.oa n.O.length L.oc) := m.cell (X.c 20 _ rfl) (fun q => by have := X.lt; dsimp only at q; omega)
      have gwr := m.size
      by_cases hlt : k < n.O.length
      ·have i0 : (0 : Int) ≤ (k : Int) := by omega
       have i1 : (k : Int) < (n.O.length : Int) := by omega
       obtain ⟨b, off, e_, _, hfd⟩ := (h.o.below bw) (by omega)
       obtain ⟨q0, q1⟩ := hfd k hlt
       simp only [oF] at q0 q1
       obtain ⟨x0, hx0⟩ : ∃ x, Hid ((n.O.getD k Od.zero).n = x) := ⟨_, rfl⟩
       rw [hx0.out] at q0
       have cm : E5.cell? ⟨b, off + k * 2 + 1, none⟩ = some (.slice (L.oA k) (oN n.O k) (L.oC k)) := q1
       rw [e_] at dd
       clear q1 hfd e_
       go_upto_region 23 with fail
       clear dd cm q0
       generalize hy : E5.alloc (.cells _ _) = y
       obtain ⟨V, kY⟩ := box1 hy
       clear hy
       obtain ⟨KY, hKY⟩ : ∃ K, Hid (E5.heap.size = K) := ⟨_, rfl⟩
       have gY : E5.heap.size ≤ KY := Nat.le_of_eq hKY.out
       rw [hKY.out] at V ⊢
       obtain ⟨ti, hi, hz0, hz1, hz2⟩ := info_parts infF
       have dv := (V.alloc (.cells #[] 96)).c 1 (.slice (L.oA k) (oN n.O k) (L.oC k)) rfl
       have hlk : oN n.O k ≤ 1048576 := (h.ob k hlt).2
       have kA := balloc (.cells #[] 96) (Below.refl y.heap.size y)
       obtain ⟨fk, hfk⟩ : ∃ f, Hid (fv (tF (n.O.getD k Od.zero).fs) = f) := ⟨_, rfl⟩
       have sA : Src (y.alloc (.cells #[] 96)) (.slice (L.oA k) (oN n.O k) (L.oC k)) (oN n.O k) (oN n.O k * 4) fk := by rw [← hfk.out]; exact fsl_src ((h.ob k hlt).1.below (btrans (btrans bw kY) kA)) (hf.ob k hlt)
       have hone5 : ∀ j, j < oN n.O k * 4 → (fk j).oneCell' = true := fun j _ => by rw [← hfk.out]; exact fv_one _ j
       go_wp2_with (at_builtin; refine wpList_append_src rfl _ _ 34 rfl y.heap.size 96 ti (.agg #[.int .i64 0, .int .i64 0, .int .i64 0, .bool false]) 4 32 Tryz.underlying34 hi hz0 hz1 hz2 rfl (by decide) _ 0 [] rfl own_empty _ (oN n.O k) fk rfl sA hone5 (by unfold maxLen; omega) (by omega) kA.size ?_)
       intro v w1 on5 gr
       have k1 : Below y.heap.size y w1 := kA.grown gr kA.size (fun k hk => by simp [Value.ownBlock] at hk; omega)
       replace on5 : w1.ownsRow y.heap.size 96 4 v (oN n.O k) (oX n.O k) := by
        have q : w1.ownsRow y.heap.size 96 4 v (oN n.O k) (rv fk (oN n.O k * 4)) := by simpa using on5
        rw [← hfk.out] at q; exact q
       have hyl : KY < y.heap.size := V.lt
       clear dv kA sA gr hi hz0 hz1 hz2 ti hone5 hfk fk
       obtain ⟨a_, c_, rfl, _⟩ := own_slice on5
       replace V := V.below k1
       have yv := V.c 1 (.slice (L.oA k) (oN n.O k) (L.oC k)) rfl
       have zv := V.z 1
       go_upto_region 24 with fail
       have k2 : Below E5.heap.size E5 (w1.setCell ⟨KY, 1, none⟩ (.slice a_ (oN n.O k) c_)) := (btrans kY k1).setCell (p := ⟨KY, 1, none⟩) gY _
       replace on5 := own_mw on5 ((Mw.refl (fun x => x = KY) _).set (o := 1) (v := .slice a_ (oN n.O k) c_) rfl) (fun x e q => by have := on5.lt x e; omega)
       have V2 : Ws (w1.setCell ⟨KY, 1, none⟩ (.slice a_ (oN n.O k) c_)) KY [.int .i64 x0, .slice a_ (oN n.O k) c_] := V.set 1 (by simp) (.slice a_ (oN n.O k) c_)
       have g5 : E5.heap.size < y.heap.size := by omega
       clear V yv zv k1 kY
       generalize w1.setCell ⟨KY, 1, none⟩ (.slice a_ (oN n.O k) c_) = w2 at *
       obtain ⟨ti, hi, hz0, hz1, hz2⟩ := info_parts infO
       have hll := h.ho
       have yd := (Y.below k2).c 20 (.slice a5 k c5) rfl
       have e0_ := V2.c 0 (.int .i64 x0) rfl
       have e1_ := V2.c 1 (.slice a_ (oN n.O k) c_) rfl
       have kA := balloc (.cells #[.int .i64 x0, .slice a_ (oN n.O k) c_] 123) (Below.refl w2.heap.size w2)
       have oA := own_below (own_below or_ k2) kA
       have g2 := k2.size
       have eq : rv (oR n.O sl) (k * 2) ++ [.int .i64 x0, .slice a_ (oN n.O k) c_] = rv (oR n.O (fun j => if j = k then .slice a_ (oN n.O k) c_ else sl j)) ((k + 1) * 2) := by
        rw [show rv (oR n.O sl) (k * 2) = rv (oR n.O (fun j => if j = k then .slice a_ (oN n.O k) c_ else sl j)) (k * 2) from rv_congr fun i hi => by unfold oR; dsimp only; (repeat' split); all_goals (first | rfl | (exfalso; omega))]
        obtain ⟨r0, r1⟩ := oR_at n.O (fun j => if j = k then .slice a_ (oN n.O k) c_ else sl j) k
        refine rv_snoc rfl fun j hj => ?_
        match j, hj with
        | 0, _ => exact congrArg some (by rw [Nat.add_zero, r0, hx0.out])
        | 1, _ => exact congrArg some (by rw [r1, if_pos rfl])
       go_wp2_with (at_builtin; refine wpList_append_own _ rfl _ _ 40 rfl E4.heap.size 123 ti (.agg #[.int .i64 0, .slice none 0 0]) 2 32 Tryz.underlying40 hi hz0 hz1 hz2 rfl (by decide) _ _ _ rfl oA ⟨w2.heap.size, 0, none⟩ 1 1 [.int .i64 x0, .slice a_ (oN n.O k) c_] rfl rfl ?c1 ?c2 ?c3 ?c4 ?c5 ?_)
       case c1 =>
        intro j u hj
        match j, hj with
        | 0, hj => simp at hj; subst hj; simp [Addr.add]
        | 1, hj => simp at hj; subst hj; simp [Addr.add]
       case c2 => intro u hu; simp at hu; rcases hu with rfl | rfl <;> rfl
       case c3 => unfold maxLen; omega
       case c4 => omega
       case c5 => simp; omega
       intro v w3 on3 gr _
       try rw [eq] at on3
       obtain ⟨av_, cv_, rfl, _⟩ := own_slice on3
       have m3 : Mw (fun x => (Value.slice a5 k c5).ownBlock = some x) E5 w3 := (Mw.of_below (btrans k2 kA)).trans (Mw.grown gr (fun _ e => e))
       replace on5 := own_mw (own_below on5 kA) (Mw.grown gr (fun _ e => e)) (own_apart (own_below on5 kA) oA (by decide))
       have on3n : ∀ j, j < k → w3.ownsRow E4.heap.size 96 4 (sl j) (oN n.O j) (oX n.O j) := fun j hj => own_mw (on j hj) m3 (own_apart (on j hj) or_ (by decide))
       have ton := fun j (hj : j < k) x e => ((on j hj).lt x e).2
       have hor := fun x e => (or_.lt x e).1
       replace Y := Y.mw m3 (fun q => by have := hor _ q; omega)
       clear oA kA V2 gr yd e0_ e1_ hi hz0 hz1 hz2 ti eq on or_ k2
       have y_ := Y.c 20 (.slice a5 k c5) rfl
       have z_ := Y.z 20
       go_upto_region 21 with fail
       have mX : Mw (fun x => x = KO) w3 (w3.setCell ⟨KO, 20, none⟩ (.slice av_ (k + 1) cv_)) := (Mw.refl _ _).set rfl
       have m4 : Mw (fun x => x = KO ∨ E4.heap.size ≤ x) E4 (w3.setCell ⟨KO, 20, none⟩ (.slice av_ (k + 1) cv_)) := (m.trans (m3.mono fun x q => .inr (hor x q))).set (.inl rfl)
       have Y2 : Ws (w3.setCell ⟨KO, 20, none⟩ (.slice av_ (k + 1) cv_)) KO (ndC n (.slice a1 n.T.length c1) (.slice a2 n.C.length c2) (.slice a3 n.D.length c3) (.slice a4 n.P.length c4) (.slice av_ (k + 1) cv_)) := Y.set 20 (by simp [ndC]) _
       replace on3 := own_mw on3 mX (fun x e q => by have := on3.lt x e; omega)
       have h5 : ∀ x, (Value.slice a_ (oN n.O k) c_).ownBlock = some x → E5.heap.size ≤ x := fun x e => by have := on5.lt x e; omega
       replace on5 := own_mw on5 mX (fun x e q => by have := on5.lt x e; omega)
       have on4 : ∀ j, j < k → (w3.setCell ⟨KO, 20, none⟩ (.slice av_ (k + 1) cv_)).ownsRow E4.heap.size 96 4 (sl j) (oN n.O j) (oX n.O j) := fun j hj => own_mw (on3n j hj) mX (fun x e q => by have := (on3n j hj).lt x e; omega)
       clear mX y_ z_ on3n m3 m Y
       generalize w3.setCell ⟨KO, 20, none⟩ (.slice av_ (k + 1) cv_) = z at *
       go_wp2
       go_roundw
       case rel =>
        refine ⟨k + 1, fun j => if j = k then .slice a_ (oN n.O k) c_ else sl j, av_, cv_, by omega, by go_num, m4, Y2, on3, fun j hj => ?_, apt_snoc oa_ fun j hj x e q => by have := h5 x e; have := ton j hj x q; omega⟩
        dsimp only
        by_cases e : j = k
        ·subst e
         rw [if_pos rfl]
         exact own_mono (by omega) on5
        ·rw [if_neg e]
         exact on4 j (by omega)
       case measure => simp [intOf]; omega
      ·obtain rfl : k = n.O.length := by omega
       have hs1 : ∀ x, bkO (.slice a5 n.O.length c5) n.O.length sl x → E4.heap.size ≤ x := fun x e => by
        rcases e with e | ⟨j, hj, e⟩
        ·exact (or_.lt x e).1
        ·exact ((on j hj).lt x e).1
       obtain ⟨sO, hsO⟩ : ∃ s, Hid (sl = s) := ⟨_, rfl⟩
       rw [hsO.out] at or_ on oa_ hs1
       have tO : ∀ j, j < n.O.length → Apt (.slice a1 n.T.length c1) (sO j) := fun j hj x e1 e2 => by have := hs1 x (.inr ⟨j, hj, e2⟩); have := o1.lt x e1; omega
       have mO : OwO E5 (KO + 1) (.slice a5 n.O.length c5) n.O.length (oR n.O sO) sO (oN n.O) (oX n.O) := ⟨own_mono gE or_, fun j _ => (oR_at n.O sO j).2, fun j hj => own_mono gE (on j hj), oa_⟩
       clear or_ on oa_ hs1 hsO sl hk hlt bw gwr
       replace b0 := m.below b0 (fun i q => by have := b0.size; omega)
       replace X := X.mw m (fun q => by have := X.lt; omega)
       replace R := R.mw m (fun q => by have := R.lt; omega)
       replace o1 := own_ep o1 m (Nat.lt_succ_self _)
       replace o2 := own_ep o2 m (Nat.lt_succ_self _)
       replace mD := mD.mw m (fun x e q => by have := mD.lo x e; omega)
       replace mP := mP.mw m (fun x e q => by have := mP.lo x e; omega)
       have hN : NdO E5 (KO + 1) n (.slice a1 n.T.length c1) (.slice a2 n.C.length c2) (.slice a3 n.D.length c3) (.slice a4 n.P.length c4) (.slice a5 n.O.length c5) sD sP sO := ⟨o1, o2, mD, mP, mO, dp, tO, h.hf, h.hi, h.hd, h.hp, h.ho, fun j hj => (h.db j hj).2, fun j hj => (h.pb j hj).2, fun j hj => (h.ob j hj).2⟩
       clear o1 o2 mD mP mO dp tO X
       go_upto_region 25 with fail
       clear dd m
       have yr := Y.range
       have hth : E5.there (KX + 1) 0 (ndC n (.slice a1 n.T.length c1) (.slice a2 n.C.length c2) (.slice a3 n.D.length c3) (.slice a4 n.P.length c4) (.slice a5 n.O.length c5)).toArray.size := R.there (by rw [hz21]; rfl)
       go_wp2_with (first | (refine load43L (by rfl) (.tmp 3) rfl KO rfl (ndC n (.slice a1 n.T.length c1) (.slice a2 n.C.length c2) (.slice a3 n.D.length c3) (.slice a4 n.P.length c4) (.slice a5 n.O.length c5)) yr rfl ?_) | (refine wpList_store_mid rfl 42 _ _ rfl (KX + 1) 0 (ndC n (.slice a1 n.T.length c1) (.slice a2 n.C.length c2) (.slice a3 n.D.length c3) (.slice a4 n.P.length c4) (.slice a5 n.O.length c5)).toArray rfl rfl hth (by rw [size43]; rfl) (by simpa [Array.all_eq_true_iff_forall_mem] using hN.one) ?_))
       have mE : Mw (fun x => x = KX + 1) E5 (E5.setCells (KX + 1) 0 (ndC n (.slice a1 n.T.length c1) (.slice a2 n.C.length c2) (.slice a3 n.D.length c3) (.slice a4 n.P.length c4) (.slice a5 n.O.length c5))) := Mw.cells _
       have hr := read_nd (R.cells (ndC n (.slice a1 n.T.length c1) (.slice a2 n.C.length c2) (.slice a3 n.D.length c3) (.slice a4 n.P.length c4) (.slice a5 n.O.length c5)) (by rw [hz21]; rfl)) rfl
       have b9 := mE.below b0 (fun i e => by omega)
       have N9 := (hN.mw mE (fun x e q => by have := (hN.lo x e).1; omega)).mono (base' := w.heap.size) (by omega)
       clear hN mE hth yr R Y b0
       refine bodyPost_ret (v := .agg (ndC n (.slice a1 n.T.length c1) (.slice a2 n.C.length c2) (.slice a3 n.D.length c3) (.slice a4 n.P.length c4) (.slice a5 n.O.length c5)).toArray) ?_ rfl ⟨_, _, _, _, _, sD, sP, sO, rfl, N9, b9⟩
       simp only [results, Tryz.results30]
       clear N9 b9
       (try simp only [putQ])
       simp [asAddr, hr]
end Go.Proofs.YtgcdcfjaeehnbaaGreat
