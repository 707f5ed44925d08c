/- Nodes: the exact law of a function that answers a node and words, walked (law 4). -/
import Derived.Test.YtgcdcfjaeehnbaaGreatLvA
import Derived.Test.YtgcdcfjaeehnbaaGreatLv5
namespace Go.Proofs.YtgcdcfjaeehnbaaGreat
open Go.ChangeShapes Go.WideShapes Go.ChangeAt Go.RowKit
attribute [local go_sem ↓] Go.wp_at_zero Go.wp_at_succ
def sl4_5 : List Stp := [⟨some 20, .load 32 (.tmp 1), 32, none, 0⟩, ⟨some 21, .call { callee := .value (.func 8), args := #[.tmp 20], argTypes := #[32] }, 42, none, 1⟩, ⟨some 22, .call { callee := .value (.func 16), args := #[.tmp 21], argTypes := #[42] }, 44, none, 1⟩, ⟨some 19, .move (.tmp 22), 44, none, 0⟩, ⟨some 23, .extract (.tmp 19) 0, 42, none, 0⟩, ⟨some 24, .extract (.tmp 19) 1, 43, none, 0⟩, ⟨some 4, .alloc 42, 0, none, 1⟩, ⟨none, .store 42 (.tmp 4) (.tmp 23), 0, none, 1⟩, ⟨some 5, .assign (.tmp 24), 43, none, 0⟩]
def tl4_5 : List (Nat × Nat) := [(0, 0), (1, 1), (2, 1), (3, 0), (4, 0), (5, 0), (6, 1), (7, 1), (8, 0)]
def sl4_6 : List Stp := [⟨some 25, .load 32 (.tmp 1), 32, none, 0⟩, ⟨some 26, .call { callee := .value (.func 8), args := #[.tmp 25], argTypes := #[32] }, 42, none, 1⟩, ⟨some 6, .alloc 42, 0, none, 1⟩, ⟨none, .store 42 (.tmp 6) (.tmp 26), 0, none, 1⟩]
def tl4_6 : List (Nat × Nat) := [(0, 0), (1, 1), (2, 1), (3, 1)]
def sl4_7 : List Stp := [⟨some 28, .load 42 (.tmp 6), 42, none, 0⟩, ⟨some 29, .call { callee := .value (.func 17), args := #[.tmp 28], argTypes := #[42] }, 44, none, 1⟩, ⟨some 27, .move (.tmp 29), 44, none, 0⟩, ⟨some 30, .extract (.tmp 27) 0, 42, none, 0⟩, ⟨some 31, .extract (.tmp 27) 1, 43, none, 0⟩, ⟨some 7, .alloc 42, 0, none, 1⟩, ⟨none, .store 42 (.tmp 7) (.tmp 30), 0, none, 1⟩, ⟨some 8, .assign (.tmp 31), 43, none, 0⟩]
def tl4_7 : List (Nat × Nat) := [(0, 0), (1, 1), (2, 0), (3, 0), (4, 0), (5, 1), (6, 1), (7, 0)]
def sl4_28 : List Stp := [⟨some 84, .load 32 (.tmp 1), 32, none, 0⟩, ⟨some 85, .call { callee := .value (.func 8), args := #[.tmp 84], argTypes := #[32] }, 42, none, 1⟩, ⟨some 86, .call { callee := .value (.func 17), args := #[.tmp 85], argTypes := #[42] }, 44, none, 1⟩, ⟨some 83, .move (.tmp 86), 44, none, 0⟩, ⟨some 87, .extract (.tmp 83) 0, 42, none, 0⟩, ⟨some 88, .extract (.tmp 83) 1, 43, none, 0⟩, ⟨some 12, .alloc 42, 0, none, 1⟩, ⟨none, .store 42 (.tmp 12) (.tmp 87), 0, none, 1⟩, ⟨some 13, .assign (.tmp 88), 43, none, 0⟩]
def tl4_28 : List (Nat × Nat) := [(0, 0), (1, 1), (2, 1), (3, 0), (4, 0), (5, 0), (6, 1), (7, 1), (8, 0)]
def sl4_8 : List Stp := [⟨some 32, .load 42 (.tmp 7), 42, none, 0⟩, ⟨some 33, .load 42 (.tmp 4), 42, none, 0⟩, ⟨some 34, .call { callee := .value (.func 10), args := #[.tmp 32, .tmp 33], argTypes := #[42, 42] }, 4, none, 1⟩, ⟨some 35, .unOp .not 4 (.tmp 34), 4, none, 0⟩, ⟨some 36, .move (.tmp 35), 4, none, 0⟩, ⟨some 37, .move (.tmp 8), 43, some (36, false), 0⟩, ⟨some 38, .move (.tmp 5), 43, some (36, false), 0⟩, ⟨some 39, .call { callee := .value (.func 11), args := #[.tmp 37, .tmp 38], argTypes := #[43, 43] }, 4, some (36, false), 1⟩, ⟨some 40, .unOp .not 4 (.tmp 39), 4, some (36, false), 0⟩, ⟨some 41, .pick (.tmp 36) (.const (.bool true)) (.tmp 40), 4, none, 0⟩]
def tl4_8 : List (Nat × Nat) := [(0, 0), (1, 0), (2, 1), (3, 0), (4, 0), (5, 0), (6, 0), (7, 1), (8, 0), (9, 0)]
def sl4_10 : List Stp := [⟨some 42, .load 42 (.tmp 6), 42, none, 0⟩, ⟨some 43, .load 32 (.tmp 1), 32, none, 0⟩, ⟨some 44, .call { callee := .value (.func 8), args := #[.tmp 43], argTypes := #[32] }, 42, none, 1⟩, ⟨some 45, .call { callee := .value (.func 10), args := #[.tmp 42, .tmp 44], argTypes := #[42, 42] }, 4, none, 1⟩, ⟨some 46, .unOp .not 4 (.tmp 45), 4, none, 0⟩]
def tl4_10 : List (Nat × Nat) := [(0, 0), (1, 0), (2, 1), (3, 1), (4, 0)]
def sl4_14 : List Stp := [⟨some 50, .move (.tmp 9), 3, none, 0⟩, ⟨some 51, .binOp .lss 3 (.tmp 50) (.const (.int .i64 0)) 3, 4, none, 2⟩, ⟨some 52, .move (.tmp 51), 4, none, 0⟩, ⟨some 53, .load 42 (.tmp 7), 42, some (52, false), 0⟩, ⟨some 54, .load 42 (.tmp 4), 42, some (52, false), 0⟩, ⟨some 55, .call { callee := .value (.func 10), args := #[.tmp 53, .tmp 54], argTypes := #[42, 42] }, 4, some (52, false), 1⟩, ⟨some 56, .unOp .not 4 (.tmp 55), 4, some (52, false), 0⟩, ⟨some 57, .pick (.tmp 52) (.const (.bool true)) (.tmp 56), 4, none, 0⟩, ⟨some 58, .move (.tmp 57), 4, none, 0⟩, ⟨some 59, .move (.tmp 8), 43, some (58, false), 0⟩, ⟨some 60, .move (.tmp 5), 43, some (58, false), 0⟩, ⟨some 61, .call { callee := .value (.func 11), args := #[.tmp 59, .tmp 60], argTypes := #[43, 43] }, 4, some (58, false), 1⟩, ⟨some 62, .unOp .not 4 (.tmp 61), 4, some (58, false), 0⟩, ⟨some 63, .pick (.tmp 58) (.const (.bool true)) (.tmp 62), 4, none, 0⟩]
def tl4_14 : List (Nat × Nat) := [(0, 0), (1, 2), (2, 0), (3, 0), (4, 0), (5, 1), (6, 0), (7, 0), (8, 0), (9, 0), (10, 0), (11, 1), (12, 0), (13, 0)]
def sl4_29 : List Stp := [⟨some 89, .load 42 (.tmp 12), 42, none, 0⟩, ⟨some 90, .load 42 (.tmp 4), 42, none, 0⟩, ⟨some 91, .call { callee := .value (.func 10), args := #[.tmp 89, .tmp 90], argTypes := #[42, 42] }, 4, none, 1⟩, ⟨some 92, .unOp .not 4 (.tmp 91), 4, none, 0⟩, ⟨some 93, .move (.tmp 92), 4, none, 0⟩, ⟨some 94, .move (.tmp 13), 43, some (93, false), 0⟩, ⟨some 95, .move (.tmp 5), 43, some (93, false), 0⟩, ⟨some 96, .call { callee := .value (.func 11), args := #[.tmp 94, .tmp 95], argTypes := #[43, 43] }, 4, some (93, false), 1⟩, ⟨some 97, .unOp .not 4 (.tmp 96), 4, some (93, false), 0⟩, ⟨some 98, .pick (.tmp 93) (.const (.bool true)) (.tmp 97), 4, none, 0⟩]
def tl4_29 : List (Nat × Nat) := [(0, 0), (1, 0), (2, 1), (3, 0), (4, 0), (5, 0), (6, 0), (7, 1), (8, 0), (9, 0)]
theorem qX {P : Program} {Q : Exit → Act → World → Prop} {w0 w : World} {d : Option Nat} {t : TypeId} {g : Option (Nat × Bool)} {rs : List Stp} {a : Act} {f : FuncId} {args : Array Value} {ys : Array Operand} {tys : Array TypeId} {R' : Ending → World → Prop} (hc : Calls P f args w R') (hb : Below w0.heap.size w0 w) (h : ∀ r w', R' r w' → ∃ v, r = .returned v ∧ Below w.heap.size w w' ∧ (Below w0.heap.size w0 w' → wpQ P Q w0 rs (a.put d v) w')) (he : (ys.toList.map a.eval).toArray = args := by rfl) (hent : entB P f = true := by kernel_rfl) (hw : wantG g a.tmps = true := by kernel_rfl) : wpQ P Q w0 (⟨d, .call { callee := .value (.func f), args := ys, argTypes := tys }, t, g, 1⟩ :: rs) a w := by
 have he2 : ys.map a.eval = args := by rw [← he]; apply Array.ext'; simp
 subst he2
 refine qC (fun K hK => opR hent hc fun r w' q => ?_) hw
 obtain ⟨v, e, k, h⟩ := h r w' q
 exact ⟨v, e, hK.out _ _ (btrans hb k) (.inl (h (btrans hb k)))⟩
theorem eqC {w : World} {base base' : Nat} {n : Nod} {v1 v2 v3 v4 v5 u1 u2 u3 u4 u5 : Value} {sD sP sO tD tP tO : Nat → Value} (h : NdO w base n v1 v2 v3 v4 v5 sD sP sO) (h' : NdO w base' n u1 u2 u3 u4 u5 tD tP tO) : Calls Tryz.prog 10 #[.agg (ndC n v1 v2 v3 v4 v5).toArray, .agg (ndC n u1 u2 u3 u4 u5).toArray] w fun r w' => r = .returned (.bool true) ∧ Below w.heap.size w w' := by
 rw [h.valC, h'.valC]
 exact eqNod n _ _ w h.toR h'.toR
theorem ndV_op (n : Nod) (L : Loc) : ∃ l : List Value, Hid (l.length = 21 ∧ (∀ u ∈ l, u.oneCell' = true) ∧ ndV n L = .agg l.toArray) := ⟨ndL n L, rfl, ndC_one rfl rfl rfl rfl rfl, rfl⟩
set_option maxRecDepth 20000 in
set_option maxHeartbeats 16000000 in
set_option linter.unusedSimpArgs false in
theorem law4_walk (xs : List Value) (hx : xs.length = 21) (n n1 : Nod) (ws : List Wo) (HH : Prop) (w : World)
  (hsz : ∀ w1, Below w.heap.size w w1 → Calls Tryz.prog 6 #[.agg xs.toArray, .int .i64 1048576] w1 fun r w2 => (∃ z : Int, r = .returned (.int .i64 z) ∧ (z = -1 ∨ (0 ≤ z ∧ HH))) ∧ Below w1.heap.size w1 w2)
  (hto : HH → ∀ w1, Below w.heap.size w w1 → Calls Tryz.prog 8 #[.agg xs.toArray] w1 fun r w2 => TO w1 w2 r n)
  (hS : ∀ L w1, NdR w1 n L → LocF n L → Calls Tryz.prog 16 #[ndV n L] w1 fun r w2 => NdWd w1 w2 r n1 ws)
  (hI : ∀ L w1, NdR w1 n L → LocF n L → Calls Tryz.prog 17 #[ndV n L] w1 fun r w2 => NdWd w1 w2 r n1 ws) :
  Calls Tryz.prog 4 #[.agg xs.toArray] w fun r w' => r = .returned (.bool true) ∧ Below w.heap.size w w' := by
 go_enter Tryz.func4, Tryz.ntmps4
 go_upto_region 1 with fail
 generalize hu : w.alloc (.cells _ _) = u
 obtain ⟨X, b0⟩ := box1 hu
 clear hu
 obtain ⟨KX, hKX⟩ : ∃ K, Hid (w.heap.size = K) := ⟨_, rfl⟩
 rw [hKX.out] at X ⊢
 clear hKX
 have x0 : u.rangeAt KX 0 xs := by simpa using X.range
 have l0 : KX < u.heap.size := X.lt
 clear X
 go_wp2_with (refine load32L (by rfl) (.tmp 1) rfl KX rfl xs x0 hx ?_)
 refine (hsz _ b0).mono ?_
 rintro r w1 ⟨⟨z, rfl, hz⟩, k1⟩
 replace b0 := btrans b0 k1
 replace x0 := range_keep x0 k1
 replace l0 := Nat.lt_of_lt_of_le l0 k1.size
 clear k1 hsz
 rcases hz with hz | ⟨hz, hh⟩
 ·subst hz
  go_wp2
  go_ret
  exact ⟨rfl, b0⟩
 have hz2 : ¬ z < 0 := by omega
 replace hto := hto hh
 clear hh hz
 go_upto_region 5 with fail
 clear hz2
 refine wp_region_w0 (fun y => w1.heap.size ≤ y) sl4_5 tl4_5 (fun hbq => ?_)
 refine mR (xs := xs) (hr := x0) (hS := Nat.not_le.2 l0) (hu := by rw [hx]; kernel_rfl) ?_
 refine mX (hto _ b0) hbq ?_
 rintro r w2 ⟨L, rfl, hR, hF, k2, _⟩
 obtain ⟨ys, hys⟩ := ndV_op n L
 have cS := hS L w2 hR hF
 rw [hys.out.2.2] at cS
 refine ⟨.agg ys.toArray, by rw [hys.out.2.2], Mw.of_below k2, fun hbq => ?_⟩
 simp only [putQ]
 refine mX cS hbq ?_
 rintro r w3 ⟨v1, v2, v3, v4, v5, vw, sD, sP, sO, sW, rfl, sN, sWd, _, k3⟩
 refine ⟨.tuple #[.agg (ndC n1 v1 v2 v3 v4 v5).toArray, vw], rfl, Mw.of_below k3, fun hbq => ?_⟩
 simp only [putQ]
 iterate 3 refine mY ?_
 refine mC (fun K2 hK2 => ?_)
 go_simp
 refine hK2.out _ _ (hbq.alloc _) (.inl ?_)
 clear hK2 K2 cS hS
 try simp only [putQ]
 generalize hu : w3.alloc (.cells _ _) = w4
 obtain ⟨Z, kA⟩ := box1 hu
 clear hu
 have hs3 : w1.heap.size ≤ w3.heap.size := hbq.size
 obtain ⟨B6, hB6⟩ : ∃ K, Hid (w3.heap.size = K) := ⟨_, rfl⟩
 have gB6 : w3.heap.size ≤ B6 := Nat.le_of_eq hB6.out
 rw [hB6.out] at Z ⊢
 refine mST (xs := ndC n1 v1 v2 v3 v4 v5) Z rfl rfl sN.one (Nat.le_trans hs3 gB6) (hbq.trans (Mw.of_below kA)) (fun W6 Z m hbq => ?_)
 refine mY ?_
 refine mE ?_
 have kk := m.below kA (fun i e => by omega)
 replace b0 := btrans (btrans (btrans b0 k2) k3) kk
 replace x0 := range_keep (range_keep (range_keep x0 k2) k3) kk
 replace l0 : KX < W6.heap.size := by have := kk.size; omega
 have hbw : w.heap.size ≤ W6.heap.size := b0.size
 replace sN := sN.below kk
 replace sWd := sWd.below kk
 have x6 := Z.range
 have l6 : B6 < W6.heap.size := Z.lt
 have bw := Below.refl W6.heap.size W6
 clear kk m kA k2 k3 hbq hs3 gB6 hB6 Z hR hF hys
 go_upto_region 6 with fail
 refine wp_region_w0 (fun y => W6.heap.size ≤ y) sl4_6 tl4_6 (fun hbq => ?_)
 refine mR (xs := xs) (hr := x0) (hS := Nat.not_le.2 l0) (hu := by rw [hx]; kernel_rfl) ?_
 refine mX (hto _ b0) hbq ?_
 rintro r w7 ⟨L2, rfl, xR, xF, k7, xM⟩
 obtain ⟨ys, hys⟩ := ndV_op n L2
 rw [hys.out.2.2] at xM
 refine ⟨.agg ys.toArray, by rw [hys.out.2.2], Mw.of_below k7, fun hbq => ?_⟩
 simp only [putQ]
 refine mC (fun K2 hK2 => ?_)
 go_simp
 refine hK2.out _ _ (hbq.alloc _) (.inl ?_)
 clear hK2 K2
 try simp only [putQ]
 generalize hu : w7.alloc (.cells _ _) = w4
 obtain ⟨Z, kA⟩ := box1 hu
 clear hu
 have hs7 : W6.heap.size ≤ w7.heap.size := hbq.size
 obtain ⟨B8, hB8⟩ : ∃ K, Hid (w7.heap.size = K) := ⟨_, rfl⟩
 have gB8 : w7.heap.size ≤ B8 := Nat.le_of_eq hB8.out
 rw [hB8.out] at Z ⊢
 refine mST (xs := ys) Z rfl hys.out.1 hys.out.2.1 (Nat.le_trans hs7 gB8) (hbq.trans (Mw.of_below kA)) (fun W8 Z m hbq => ?_)
 refine mE ?_
 have k78 := m.below kA (fun i e => by omega)
 replace b0 := btrans (btrans b0 k7) k78
 replace bw := btrans (btrans bw k7) k78
 replace x0 := range_keep (range_keep x0 k7) k78
 replace x6 := range_keep (range_keep x6 k7) k78
 replace xR := xR.below k78
 have x8 := Z.range
 have l8 : B8 < W8.heap.size := Z.lt
 have hs8 : w7.heap.size ≤ W8.heap.size := k78.size
 have cI := hI L2 W8 xR xF
 rw [hys.out.2.2] at cI
 clear m kA k7 hbq gB8 hB8 Z xF
 go_upto_region 7 with fail
 refine wp_region_w0 (fun y => W8.heap.size ≤ y) sl4_7 tl4_7 (fun hbq => ?_)
 refine mR (xs := ys) (hr := x8) (hS := Nat.not_le.2 l8) (hu := by rw [hys.out.1]; kernel_rfl) ?_
 refine mX cI hbq ?_
 rintro r w9 ⟨g1, g2, g3, g4, g5, gw, gD, gP, gO, gW, rfl, gN, gWd, gnw, k9⟩
 refine ⟨.tuple #[.agg (ndC n1 g1 g2 g3 g4 g5).toArray, gw], rfl, Mw.of_below k9, fun hbq => ?_⟩
 simp only [putQ]
 iterate 3 refine mY ?_
 refine mC (fun K2 hK2 => ?_)
 go_simp
 refine hK2.out _ _ (hbq.alloc _) (.inl ?_)
 clear hK2 K2 cI
 try simp only [putQ]
 generalize hu : w9.alloc (.cells _ _) = w4
 obtain ⟨Z, kA⟩ := box1 hu
 clear hu
 have hs9 : W8.heap.size ≤ w9.heap.size := hbq.size
 obtain ⟨B9, hB9⟩ : ∃ K, Hid (w9.heap.size = K) := ⟨_, rfl⟩
 have gB9 : w9.heap.size ≤ B9 := Nat.le_of_eq hB9.out
 have gn9 : Hid (∀ x, bkN n1 g1 g2 g3 g4 g5 gD gP gO x → x ≠ B9) := fun x e => by have := (gN.lo x e).2; omega
 have wn9 : Hid (∀ x, bkW gw ws.length gW x → x ≠ B9) := fun x e => by have := (gWd.o.lo x e).2; omega
 rw [hB9.out] at Z ⊢
 refine mST (xs := ndC n1 g1 g2 g3 g4 g5) Z rfl rfl gN.one (Nat.le_trans hs9 gB9) (hbq.trans (Mw.of_below kA)) (fun W Z m hbq => ?_)
 refine mY ?_
 refine mE ?_
 have kk := m.below kA (fun i e => by omega)
 replace b0 := btrans (btrans b0 k9) kk
 replace bw := btrans (btrans bw k9) kk
 replace k78 := btrans (btrans k78 k9) kk
 replace x0 := range_keep (range_keep x0 k9) kk
 replace x6 := range_keep (range_keep x6 k9) kk
 replace x8 := range_keep (range_keep x8 k9) kk
 replace xR := (xR.below k9).below kk
 replace gN := gN.below kk
 replace gWd := gWd.below kk
 have x9 := Z.range
 clear kk m kA k9 hbq hB9 Z l8
 go_upto_region 8 with fail
 refine wp_region_q0 sl4_8 tl4_8 (fun hbq => ?_)
 refine qR (xs := ndC n1 g1 g2 g3 g4 g5) (hr := x9) ?_
 refine qR (xs := ndC n1 v1 v2 v3 v4 v5) (hr := x6) ?_
 refine qK (eqC gN (sN.below bw)) hbq (fun wa hbq => ?_)
 iterate 4 refine qY ?_
 refine qK (eqWs_same _ _ ws _ _ _ _ _ (gWd.below hbq) ((sWd.below bw).below hbq)) hbq (fun wb hbq => ?_)
 iterate 2 refine qY ?_
 refine qE ?_
 replace b0 := btrans b0 hbq
 replace bw := btrans bw hbq
 replace k78 := btrans k78 hbq
 replace x0 := range_keep x0 hbq
 replace x6 := range_keep x6 hbq
 replace x8 := range_keep x8 hbq
 replace x9 := range_keep x9 hbq
 replace xR := xR.below hbq
 replace gN := gN.below hbq
 replace gWd := gWd.below hbq
 clear hbq
 go_upto_region 10 with fail
 refine wp_region_q sl4_10 tl4_10 (fun hbq => ?_)
 refine qR (xs := ys) (hr := x8) (hu := by rw [hys.out.1]; kernel_rfl) ?_
 refine qR (xs := xs) (hr := x0) (hu := by rw [hx]; kernel_rfl) ?_
 refine qX (hto _ (btrans b0 hbq)) hbq ?_
 rintro r wc ⟨L3, rfl, zR, _, ka, _⟩
 obtain ⟨zs, hzs⟩ := ndV_op n L3
 refine ⟨.agg zs.toArray, by rw [hzs.out.2.2], ka, fun hbq => ?_⟩
 simp only [putQ]
 have q10 := eqNod n _ _ wc (xR.below hbq) zR
 rw [hys.out.2.2, hzs.out.2.2] at q10
 refine qK q10 hbq (fun wd hbq => ?_)
 refine qY ?_
 refine qE ?_
 replace b0 := btrans b0 hbq
 replace bw := btrans bw hbq
 replace k78 := btrans k78 hbq
 replace x0 := range_keep x0 hbq
 replace x6 := range_keep x6 hbq
 replace x8 := range_keep x8 hbq
 replace x9 := range_keep x9 hbq
 replace gN := gN.below hbq
 replace gWd := gWd.below hbq
 clear hbq q10 zR xR ka hzs
 go_upto_region 13 with fail
 go_wp2_with (refine load43L (by rfl) (.tmp 6) rfl B8 rfl ys x8 hys.out.1 ?_)
 refine (xM _ k78).mono ?_
 rintro r wm ⟨⟨zm, rfl⟩, mk⟩
 have gl := gN.lo
 have glW := gWd.o.lo
 replace b0 := mk.below b0 (fun i s => by omega)
 replace bw := mk.below bw (fun i s => s.1)
 replace x0 := mk.range x0 (fun s => by omega)
 replace x6 := mk.range x6 (fun s => by omega)
 replace x9 := mk.range x9 (fun s => by omega)
 replace gN := gN.mw mk (fun x e s => by have := (gl x e).1; omega)
 replace gWd := gWd.mw mk (fun x e s => by have := (glW x e).1; omega)
 clear mk gl glW xM k78 x8
 have hzm : ((zm : Int) < 0) = False := by simp
 go_upto_region 14 with fail
 refine wp_region_q0 sl4_14 tl4_14 (fun hbq => ?_)
 refine qY ?_
 refine qV (.bool false) ?_ (by (intro w; go_simp; all_goals (first | with_reducible rfl | (simp; done) | (simp; omega))))
 refine qY ?_
 refine qR (xs := ndC n1 g1 g2 g3 g4 g5) (hr := x9) ?_
 refine qR (xs := ndC n1 v1 v2 v3 v4 v5) (hr := x6) ?_
 refine qK (eqC gN (sN.below bw)) hbq (fun wa hbq => ?_)
 iterate 5 refine qY ?_
 refine qK (eqWs_same _ _ ws _ _ _ _ _ (gWd.below hbq) ((sWd.below bw).below hbq)) hbq (fun wb hbq => ?_)
 iterate 2 refine qY ?_
 refine qE ?_
 replace b0 := btrans b0 hbq
 replace bw := btrans bw hbq
 replace x0 := range_keep x0 hbq
 replace x6 := range_keep x6 hbq
 replace x9 := range_keep x9 hbq
 replace gN := gN.below hbq
 replace gWd := gWd.below hbq
 clear hbq hzm
 go_upto_region 17 with fail
 go_wp2_with (refine load43L (by rfl) (.tmp 7) rfl B9 rfl (ndC n1 g1 g2 g3 g4 g5) x9 rfl ?_)
 refine Calls.mono (markN_any _ n1 _ _ _ _ _ gD gP gO 1 _ gN (by omega)) ?_
 rintro r wn ⟨rfl, hdN, mk⟩
 have gl := gN.lo
 have glW := gWd.o.lo
 have bdE := (bnd 1 gN (by omega)).2.2.2.2
 replace b0 := mk.below b0 (fun i s => by have := (gl i s).1; omega)
 replace bw := mk.below bw (fun i s => by have := (gl i s).1; omega)
 replace x0 := mk.range x0 (fun s => by have := (gl _ s).1; omega)
 replace x6 := mk.range x6 (fun s => by have := (gl _ s).1; omega)
 replace x9 := mk.range x9 (fun s => gn9.out _ s rfl)
 replace gWd := gWd.mw mk (fun x e s => gnw x s e)
 obtain ⟨KN, hKN⟩ : ∃ K, Hid (kE n1 1 = K) := ⟨_, rfl⟩
 rw [hKN.out] at bdE ⊢
 clear mk
 go_wp2_with fail
 refine (markW_own _ ws.length _ _ gW _ _ KN _ gWd.o gWd.h gWd.hn (by omega)).mono ?_
 rintro r wo ⟨rfl, hdW, mk⟩
 have bdW := stoW_le (nl := wN ws) (k0 := KN) ws.length gWd.hn
 have hws := gWd.h
 have hwn := gWd.hn
 replace b0 := mk.below b0 (fun i s => by have := (glW i s).1; omega)
 replace bw := mk.below bw (fun i s => by have := (glW i s).1; omega)
 replace x0 := mk.range x0 (fun s => by have := (glW _ s).1; omega)
 replace x6 := mk.range x6 (fun s => by have := (glW _ s).1; omega)
 replace x9 := mk.range x9 (fun s => wn9.out _ s rfl)
 replace hdN := hdN.mw mk (fun x e s => gnw x e s)
 obtain ⟨KM, hKM⟩ : ∃ K, Hid (stoW (wN ws) KN ws.length = K) := ⟨_, rfl⟩
 rw [hKM.out] at bdW ⊢
 clear mk gWd gl glW
 have i1 : ¬ ((KN : Int) < 0) := by omega
 have i2 : ¬ ((KM : Int) < 0) := by omega
 have cH : ∀ u, HdN u _ n1 g1 g2 g3 g4 g5 gD gP gO 1 → Calls Tryz.prog 14 #[.agg (ndC n1 g1 g2 g3 g4 g5).toArray, .int .i64 (1 : Nat)] u fun r w' => r = .returned (.int .i64 (KN : Int)) ∧ Below u.heap.size u w' := fun u hu => hKN.out ▸ heldN_any _ n1 _ _ _ _ _ gD gP gO 1 _ _ gN hu (by omega)
 go_wp2_with (refine load43L (by rfl) (.tmp 7) rfl B9 rfl (ndC n1 g1 g2 g3 g4 g5) x9 rfl ?_)
 refine (cH _ hdN).mono ?_
 rintro r wp ⟨rfl, kp⟩
 replace b0 := btrans b0 kp
 replace bw := btrans bw kp
 replace x0 := range_keep x0 kp
 replace x6 := range_keep x6 kp
 replace x9 := range_keep x9 kp
 replace hdN := hdN.below kp
 replace hdW := hdW.below kp
 clear kp
 go_wp2_with fail
 refine (heldW_own _ ws.length _ gW _ KN _ hdW hws hwn (by omega)).mono ?_
 rintro r wq ⟨rfl, hw⟩
 obtain rfl := hw.symm
 clear hw
 rw [hKM.out]
 have i3 : ((KM : Int) != (KM : Int)) = false := by simp
 have lq := bw.size
 go_upto_region 28 with fail
 refine wp_region_w0 (fun y => wp.heap.size ≤ y) sl4_28 tl4_28 (fun hbq => ?_)
 refine mR (xs := xs) (hr := x0) (hS := by omega) (hu := by rw [hx]; kernel_rfl) ?_
 refine mX (hto _ b0) hbq ?_
 rintro r wr ⟨L4, rfl, yR, yF, kr, _⟩
 obtain ⟨zs, hzs⟩ := ndV_op n L4
 have cI := hI L4 wr yR yF
 rw [hzs.out.2.2] at cI
 refine ⟨.agg zs.toArray, by rw [hzs.out.2.2], Mw.of_below kr, fun hbq => ?_⟩
 simp only [putQ]
 refine mX cI hbq ?_
 rintro r ws_ ⟨t1, t2, t3, t4, t5, tw, tD, tP, tO, tW, rfl, tN, tWd, _, ks⟩
 refine ⟨.tuple #[.agg (ndC n1 t1 t2 t3 t4 t5).toArray, tw], rfl, Mw.of_below ks, fun hbq => ?_⟩
 simp only [putQ]
 iterate 3 refine mY ?_
 refine mC (fun K2 hK2 => ?_)
 go_simp
 refine hK2.out _ _ (hbq.alloc _) (.inl ?_)
 clear hK2 K2 cI hI hto
 try simp only [putQ]
 generalize hu : ws_.alloc (.cells _ _) = w4
 obtain ⟨Z, kA⟩ := box1 hu
 clear hu
 have hss : wp.heap.size ≤ ws_.heap.size := hbq.size
 obtain ⟨BT, hBT⟩ : ∃ K, Hid (ws_.heap.size = K) := ⟨_, rfl⟩
 have gBT : ws_.heap.size ≤ BT := Nat.le_of_eq hBT.out
 rw [hBT.out] at Z ⊢
 refine mST (xs := ndC n1 t1 t2 t3 t4 t5) Z rfl rfl tN.one (Nat.le_trans hss gBT) (hbq.trans (Mw.of_below kA)) (fun W Z m hbq => ?_)
 refine mY ?_
 refine mE ?_
 have kk := m.below kA (fun i e => by omega)
 replace b0 := btrans (btrans (btrans b0 kr) ks) kk
 replace bw := btrans (btrans (btrans bw kr) ks) kk
 replace x6 := range_keep (range_keep (range_keep x6 kr) ks) kk
 replace x9 := range_keep (range_keep (range_keep x9 kr) ks) kk
 replace hdN := ((hdN.below kr).below ks).below kk
 replace hdW := ((hdW.below kr).below ks).below kk
 replace tN := tN.below kk
 replace tWd := tWd.below kk
 have x14 := Z.range
 clear kk m kA kr ks hbq hBT Z x0 yR yF hzs
 go_upto_region 29 with fail
 refine wp_region_q0 sl4_29 tl4_29 (fun hbq => ?_)
 refine qR (xs := ndC n1 t1 t2 t3 t4 t5) (hr := x14) ?_
 refine qR (xs := ndC n1 v1 v2 v3 v4 v5) (hr := x6) ?_
 refine qK (eqC tN (sN.below bw)) hbq (fun wa hbq => ?_)
 iterate 4 refine qY ?_
 refine qK (eqWs_same _ _ ws _ _ _ _ _ (tWd.below hbq) ((sWd.below bw).below hbq)) hbq (fun wb hbq => ?_)
 iterate 2 refine qY ?_
 refine qE ?_
 replace b0 := btrans b0 hbq
 replace x9 := range_keep x9 hbq
 replace hdN := hdN.below hbq
 replace hdW := hdW.below hbq
 clear hbq tN tWd x14 x6 bw sN sWd
 go_upto_region 32 with fail
 go_wp2_with (refine load43L (by rfl) (.tmp 7) rfl B9 rfl (ndC n1 g1 g2 g3 g4 g5) x9 rfl ?_)
 refine (cH _ hdN).mono ?_
 rintro r wp ⟨rfl, kp⟩
 replace b0 := btrans b0 kp
 replace hdW := hdW.below kp
 clear kp x9 hdN
 go_wp2_with fail
 refine (heldW_own _ ws.length _ gW _ KN _ hdW hws hwn (by omega)).mono ?_
 rintro r wq ⟨rfl, hw⟩
 obtain rfl := hw.symm
 clear hw hdW
 rw [hKM.out]
 go_wp2
 go_ret
 exact ⟨rfl, b0⟩
end Go.Proofs.YtgcdcfjaeehnbaaGreat
