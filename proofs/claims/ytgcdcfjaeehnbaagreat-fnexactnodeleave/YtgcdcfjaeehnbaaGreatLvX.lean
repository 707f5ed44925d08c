/- Leaving: the model's NodeLeave. -/
import Derived.Test.YtgcdcfjaeehnbaaGreatLv9
import Derived.Test.YtgcdcfjaeehnbaaGreatLvC
import Derived.Test.YtgcdcfjaeehnbaaGreatLvL
import Derived.Test.YtgcdcfjaeehnbaaGreatLvI
namespace Go.Proofs.YtgcdcfjaeehnbaaGreat
open Go.ChangeShapes Go.WideShapes Go.ChangeAt Go.RowKit
attribute [local go_sem ↓] Go.wp_at_zero Go.wp_at_succ
set_option maxRecDepth 20000
set_option maxHeartbeats 8000000
def s16_1 : List Stp := [⟨some 6, .load 42 (.tmp 1), 42, none, 0⟩, ⟨some 7, .call { callee := .value (.func 28), args := #[.tmp 6], argTypes := #[42] }, 4, none, 1⟩, ⟨some 8, .unOp .not 4 (.tmp 7), 4, none, 0⟩]
def t16_1 : List (Nat × Nat) := [(0, 0), (1, 1), (2, 0)]
def s16_2 : List Stp := [⟨some 9, .build 42 #[], 42, none, 0⟩, ⟨some 10, .buildSlice 43 0 #[], 43, none, 1⟩, ⟨none, .store 42 (.tmp 2) (.tmp 9), 0, none, 1⟩, ⟨some 3, .assign (.tmp 10), 43, none, 0⟩]
def t16_2 : List (Nat × Nat) := [(0, 0), (1, 1), (2, 1), (3, 0)]
def s16_3 : List Stp := [⟨some 12, .load 42 (.tmp 1), 42, none, 0⟩, ⟨some 13, .call { callee := .value (.func 30), args := #[.tmp 12], argTypes := #[42] }, 42, none, 1⟩, ⟨some 14, .call { callee := .value (.func 64), args := #[.tmp 13], argTypes := #[42] }, 44, none, 1⟩, ⟨some 11, .move (.tmp 14), 44, none, 0⟩, ⟨some 15, .extract (.tmp 11) 0, 42, none, 0⟩, ⟨some 16, .extract (.tmp 11) 1, 43, none, 0⟩, ⟨some 4, .alloc 42, 0, none, 1⟩, ⟨none, .store 42 (.tmp 4) (.tmp 15), 0, none, 1⟩, ⟨some 5, .assign (.tmp 16), 43, none, 0⟩]
def t16_3 : List (Nat × Nat) := [(0, 0), (1, 1), (2, 1), (3, 0), (4, 0), (5, 0), (6, 1), (7, 1), (8, 0)]
def s16_4 : List Stp := [⟨some 17, .load 42 (.tmp 4), 42, none, 0⟩, ⟨some 18, .call { callee := .value (.func 30), args := #[.tmp 17], argTypes := #[42] }, 42, none, 1⟩, ⟨some 19, .move (.tmp 5), 43, none, 0⟩, ⟨none, .store 42 (.tmp 2) (.tmp 18), 0, none, 1⟩, ⟨some 3, .assign (.tmp 19), 43, none, 0⟩]
def t16_4 : List (Nat × Nat) := [(0, 0), (1, 1), (2, 0), (3, 1), (4, 0)]
theorem leaveS_any (n : Nod) (L : Loc) (w : World) (h : NdR w n L) (hf : LocF n L) : Calls Tryz.prog 16 #[ndV n L] w fun r w' => NdWd w w' r (lvA n) (lvB n) := by
 obtain ⟨xs, hxs⟩ : ∃ l, Hid (ndL n L = l) := ⟨_, rfl⟩
 have hv : ndV n L = .agg xs.toArray := by rw [← hxs.out]; rfl
 have hx21 : xs.length = 21 := by rw [← hxs.out]; rfl
 have hok : ∀ q, nodQ n = q → ∀ u, Below w.heap.size w u → Calls Tryz.prog 28 #[.agg xs.toArray] u fun r w' => r = .returned (.bool q) ∧ Below u.heap.size u w' := fun q e u k => hv ▸ okS_lit n L q e u (h.below k)
 have hcp : ∀ u, Below w.heap.size w u → Calls Tryz.prog 30 #[.agg xs.toArray] u fun r w' => CpN u w' r n := fun u k => hv ▸ scopied_any n L u (h.below k) hf
 have hA : Hid (lvA n = if nodQ n then (if n.up && !n.gone then lvN n else n) else nodZ) := rfl
 have hB : Hid (lvB n = if nodQ n && (n.up && !n.gone) then lvW (lvN n) (lvL n.me (lvN n).T) else []) := rfl
 rw [hv]
 clear hv hxs h hf
 go_enter Tryz.func16, Tryz.ntmps16
 go_upto_region 1 with fail
 generalize hu : (w.alloc (.cells _ _)).alloc (.cells _ _) = u
 obtain ⟨X, R, b0, hs⟩ := box2 hu
 obtain ⟨_, tyR⟩ := box2T hu
 clear hu
 obtain ⟨KX, hKX⟩ : ∃ K, Hid (w.heap.size = K) := ⟨_, rfl⟩
 have g0 : w.heap.size ≤ KX := Nat.le_of_eq hKX.out
 have hKl : KX + 1 < u.heap.size := by have := hKX.out; omega
 rw [hKX.out] at X R tyR ⊢
 obtain ⟨zs, hz21, R⟩ : ∃ zs, zs.length = 21 ∧ Ws u (KX + 1) zs := ⟨_, rfl, R⟩
 clear hs hKX
 have xr : u.rangeAt KX 0 xs := by simpa using X.range
 cases hq : nodQ n
 ·have hA2 : Hid (lvA n = nodZ) := by rw [Hid, hA.out, hq]; rfl
  have hB2 : Hid (lvB n = []) := by rw [Hid, hB.out, hq]; rfl
  clear hA hB hcp
  refine wp_region_w0 (fun _ => False) s16_1 t16_1 (fun hbq => ?_)
  refine mR (hS := id) (hu := by rw [hx21]; kernel_rfl) ?_
  refine mK (hok false hq _ (btrans b0 hbq.no)) hbq (fun w1 hbq => ?_)
  refine mY ?_
  refine mE ?_
  replace R := R.below hbq.no
  replace tyR := tyR.below hbq.no
  replace b0 := btrans b0 hbq.no
  clear hok xr X hbq
  go_upto_region 2 with fail
  refine wp_region_w0 (fun y => y = KX + 1) s16_2 t16_2 (fun hbq => ?_)
  refine mY ?_
  refine mC (fun K2 hK2 => ?_)
  go_simp
  refine hK2.out _ _ (hbq.alloc _) (.inl ?_)
  clear hK2 K2
  try simp only [putQ]
  have hW : WdO (w1.alloc (.cells #[] 88)) w.heap.size [] (.slice (some ⟨w1.heap.size, 0, none⟩) 0 0) (fun _ => .slice none 0 0) := WdO.made b0.size
  have kA := balloc (.cells #[] 88) (Below.refl w1.heap.size w1)
  replace hbq := hbq.alloc (.cells #[] 88)
  replace R := R.below kA
  replace tyR := tyR.below kA
  replace b0 := btrans b0 kA
  generalize w1.alloc (.cells #[] 88) = w2 at *
  refine mST (xs := zN) R hz21 rfl (ndC_one (n := nodZ) rfl rfl rfl rfl rfl) rfl hbq (fun W R m hbq => ?_)
  refine mY ?_
  refine mE ?_
  have b9 := m.below b0 (fun i e => by omega)
  have hr := read_nd R rfl
  have hW2 := hW.mw m (hW.nbox tyR)
  have hnw : ∀ x, bkN nodZ (.slice none 0 0) (.slice none 0 0) (.slice none 0 0) (.slice none 0 0) (.slice none 0 0) (fun _ => .slice none 0 0) (fun _ => .slice none 0 0) (fun _ => .slice none 0 0) x → ¬ bkW (.slice (some ⟨w1.heap.size, 0, none⟩) 0 0) ([] : List Wo).length (fun _ => .slice none 0 0) x := fun x e => by
   rcases e with e | e | (e | ⟨i, hi, e⟩) | (e | ⟨i, hi, e⟩) | (e | ⟨i, hi, e⟩)
   all_goals first | (simp [Value.ownBlock] at e; done) | exact absurd hi (Nat.not_lt_zero i)
  clear R b0 m hbq hW kA
  go_wp2
  try simp only [Exit.inBlock, Exit.then]
  refine bodyPost_ret (v := .tuple #[.agg zN.toArray, .slice (some ⟨w1.heap.size, 0, none⟩) 0 0]) ?_ rfl ?_
  ·simp only [results, Tryz.results16]
   simp [asAddr, hr]
  ·rw [hA2.out, hB2.out]
   exact ⟨_, _, _, _, _, _, _, _, _, _, rfl, NdO.zero _ _, hW2, hnw, b9⟩
 ·obtain ⟨m0, hm0⟩ : ∃ m, Hid ((if n.up && !n.gone then lvN n else n) = m) := ⟨_, rfl⟩
  obtain ⟨ws, hws⟩ : ∃ m, Hid ((if n.up && !n.gone then lvW (lvN n) (lvL n.me (lvN n).T) else []) = m) := ⟨_, rfl⟩
  have hA2 : Hid (lvA n = m0) := by rw [Hid, hA.out, hq, ← hm0.out]; rfl
  have hB2 : Hid (lvB n = ws) := by rw [Hid, hB.out, hq, ← hws.out]; rfl
  have hlv : ∀ (u w1 : World) (v1 v2 v3 v4 v5 : Value) (sD sP sO : Nat → Value), NdO u w1.heap.size n v1 v2 v3 v4 v5 sD sP sO → w1.heap.size ≤ u.heap.size → Calls Tryz.prog 64 #[.agg (ndC n v1 v2 v3 v4 v5).toArray] u fun r w' => LvR u w' r w1.heap.size m0 ws v4 v5 sD sP sO := fun u w1 v1 v2 v3 v4 v5 sD sP sO q k => by
   rw [← hm0.out, ← hws.out]
   exact sleave_any w1.heap.size n v1 v2 v3 v4 v5 sD sP sO u q k (fun ha => lv_ok hq (by revert ha; cases n.up <;> simp) (by revert ha; cases n.up <;> cases n.gone <;> simp))
  refine wp_region_w0 (fun _ => False) s16_1 t16_1 (fun hbq => ?_)
  refine mR (hS := id) (hu := by rw [hx21]; kernel_rfl) ?_
  refine mK (hok true hq _ (btrans b0 hbq.no)) hbq (fun w1 hbq => ?_)
  refine mY ?_
  refine mE ?_
  replace R := R.below hbq.no
  replace tyR := tyR.below hbq.no
  replace b0 := btrans b0 hbq.no
  replace xr := hbq.range xr id
  replace hKl : KX < w1.heap.size := by have := hbq.size; omega
  have hKR : KX + 1 < w1.heap.size := R.lt
  clear hok X hbq hA hB hm0 hws hq
  go_upto_region 3 with fail
  refine wp_region_w0 (fun y => w1.heap.size ≤ y) s16_3 t16_3 (fun hbq => ?_)
  refine mR (hS := Nat.not_le.2 hKl) (hu := by rw [hx21]; kernel_rfl) ?_
  refine mX (hcp _ b0) hbq ?_
  rintro r w2 ⟨v1, v2, v3, v4, v5, sD, sP, sO, rfl, hN, k1⟩
  have b2 := btrans b0 k1
  refine ⟨_, rfl, Mw.of_below k1, fun hbq => ?_⟩
  simp only [putQ]
  refine mX (hlv w2 w1 v1 v2 v3 v4 v5 sD sP sO hN k1.size) hbq ?_
  rintro r w3 ⟨u1, u2, u3, vw, sW, rfl, hM, hW, k1x⟩
  have b3 := btrans b2 k1x
  replace R := (R.below k1).below k1x
  replace tyR := (tyR.below k1).below k1x
  have hs23 : w1.heap.size ≤ w2.heap.size := k1.size
  clear k1
  have k1 := k1x
  clear k1x
  refine ⟨_, rfl, Mw.of_below k1, fun hbq => ?_⟩
  simp only [putQ]
  iterate 3 refine mY ?_
  refine mC (fun K2 hK2 => ?_)
  go_simp
  refine hK2.out _ _ (hbq.alloc _) (.inl ?_)
  clear hK2 K2
  try simp only [putQ]
  have Z := Ws.box (w := w3) #[.int .i64 0, .bool false, .bool false, .bool false, .int .i64 0, .int .i64 0, .int .i64 0, .int .i64 0, .slice none 0 0, .slice none 0 0, .int .i64 0, .int .i64 0, .int .i64 0, .bool false, .slice none 0 0, .int .i64 0, .int .i64 0, .int .i64 0, .int .i64 0, .slice none 0 0, .slice none 0 0] 42
  have tz : BoxT (w3.alloc (.cells #[.int .i64 0, .bool false, .bool false, .bool false, .int .i64 0, .int .i64 0, .int .i64 0, .int .i64 0, .slice none 0 0, .slice none 0 0, .int .i64 0, .int .i64 0, .int .i64 0, .bool false, .slice none 0 0, .int .i64 0, .int .i64 0, .int .i64 0, .int .i64 0, .slice none 0 0, .slice none 0 0] 42)) w3.heap.size 42 := box1T rfl
  have kA := balloc (.cells #[.int .i64 0, .bool false, .bool false, .bool false, .int .i64 0, .int .i64 0, .int .i64 0, .int .i64 0, .slice none 0 0, .slice none 0 0, .int .i64 0, .int .i64 0, .int .i64 0, .bool false, .slice none 0 0, .int .i64 0, .int .i64 0, .int .i64 0, .int .i64 0, .slice none 0 0, .slice none 0 0] 42) (Below.refl w3.heap.size w3)
  have hbA := hbq.alloc (.cells #[.int .i64 0, .bool false, .bool false, .bool false, .int .i64 0, .int .i64 0, .int .i64 0, .int .i64 0, .slice none 0 0, .slice none 0 0, .int .i64 0, .int .i64 0, .int .i64 0, .bool false, .slice none 0 0, .int .i64 0, .int .i64 0, .int .i64 0, .int .i64 0, .slice none 0 0, .slice none 0 0] 42)
  generalize w3.alloc _ = w4 at *
  replace b3 := btrans b3 kA
  replace R := R.below kA
  replace tyR := tyR.below kA
  replace hM := hM.below kA
  replace hW := hW.below kA
  have hs3 : w1.heap.size ≤ w3.heap.size := hbq.size
  obtain ⟨K4, hK4⟩ : ∃ K, Hid (w3.heap.size = K) := ⟨_, rfl⟩
  rw [hK4.out] at Z tz hs3 ⊢
  clear kA hK4
  refine mST (xs := ndC m0 u1 u2 u3 v4 v5) Z rfl rfl hM.one hs3 hbA (fun W Z m hbq => ?_)
  refine mY ?_
  refine mE ?_
  have hK4R : ¬ K4 = KX + 1 := by omega
  have hwb := b0.size
  replace R := R.mw m (fun e => hK4R e.symm)
  replace tyR := tyR.mw m (fun e => hK4R e.symm)
  replace hM := hM.mw m (hM.nbox tz)
  replace hW := hW.mw m (hW.nbox tz)
  replace b3 := m.below b3 (fun i e => by omega)
  have hc4 : Calls Tryz.prog 30 #[.agg (ndC m0 u1 u2 u3 v4 v5).toArray] W fun r w' => CpN W w' r m0 := by rw [hM.valC]; exact scopied_any m0 _ W hM.toR hM.fine
  have hb2 : w.heap.size ≤ w2.heap.size := Nat.le_trans hwb hs23
  clear hbq m hM tz hcp hlv xr b0 hN b2 hbA k1 hs3 hs23
  go_upto_region 4 with fail
  refine wp_region_w0 (fun y => y = KX + 1) s16_4 t16_4 (fun hbq => ?_)
  refine mR (xs := ndC m0 u1 u2 u3 v4 v5) (hr := Z.range) (hS := hK4R) ?_
  refine mX (hc4) hbq ?_
  rintro r w5 ⟨x1, x2, x3, x4, x5, eD, eP, eO, rfl, hX, k1⟩
  refine ⟨_, rfl, Mw.of_below k1, fun hbq => ?_⟩
  simp only [putQ]
  refine mY ?_
  refine mST (xs := ndC m0 x1 x2 x3 x4 x5) (R.below k1) hz21 rfl hX.one rfl hbq (fun W2 R2 m2 hbq => ?_)
  refine mY ?_
  refine mE ?_
  have b8 := btrans b3 k1
  have b9 := m2.below b8 (fun i e => by omega)
  have hr := read_nd R2 rfl
  have ty5 := tyR.below k1
  have fin : NdWd w W2 (.returned (.tuple #[.agg (ndC m0 x1 x2 x3 x4 x5).toArray, vw])) (lvA n) (lvB n) := by
   rw [hA2.out, hB2.out]
   exact ⟨_, _, _, _, _, _, _, _, _, _, rfl, (hX.mw m2 (hX.nbox ty5)).mono b3.size, ((hW.below k1).mw m2 ((hW.below k1).nbox ty5)).mono hb2, fun x e q => by
    have q1 := (hX.lo x e).1
    have q2 := (hW.o.lo x q).2
    omega, b9⟩
  clear hA2 hB2 hX hW Z hc4 m2 hbq k1 b8 b9 tyR ty5 b3
  go_wp2
  try simp only [Exit.inBlock, Exit.then]
  refine bodyPost_ret (v := .tuple #[.agg (ndC m0 x1 x2 x3 x4 x5).toArray, vw]) ?_ rfl fin
  simp only [results, Tryz.results16]
  simp [asAddr, hr]
end Go.Proofs.YtgcdcfjaeehnbaaGreat
namespace Go.Proofs.YtgcdcfjaeehnbaaGreat
open Go.ChangeShapes Go.WideShapes Go.ChangeAt Go.RowKit
theorem exNodeLeave_walk (me : Int) (up gone gate : Bool) (inc now sq turn : Int) (ta : Option Addr) (tl tc : Nat) (ca : Option Addr) (cl cc : Nat) (pn ps pq : Int) (pa : Bool) (da : Option Addr) (dl dc : Nat) (cx cy ch ce : Int) (pla : Option Addr) (pll plc : Nat) (oa : Option Addr) (ol oc : Nat) (F : Nat → Fc) (GI : Nat → It) (GD : Nat → Dt) (GP : Nat → Pl) (GO : Nat → Fg) (w : World) (h : NdRaw w ta tl tc F ca cl cc GI da dl GD pla pll GP oa ol GO) :
    Calls Tryz.prog 4 #[.agg #[.int .i64 me, .bool up, .bool gone, .bool gate, .int .i64 inc, .int .i64 now, .int .i64 sq, .int .i64 turn, .slice ta tl tc, .slice ca cl cc, .int .i64 pn, .int .i64 ps, .int .i64 pq, .bool pa, .slice da dl dc, .int .i64 cx, .int .i64 cy, .int .i64 ch, .int .i64 ce, .slice pla pll plc, .slice oa ol oc]] w fun r w' => r = .returned (.bool true) ∧ Below w.heap.size w w' :=
  law4_walk _ rfl (nodOf me up gone gate inc now sq turn tl F cl GI pn ps pq pa dl GD cx cy ch ce pll GP ol GO) (lvA (nodOf me up gone gate inc now sq turn tl F cl GI pn ps pq pa dl GD cx cy ch ce pll GP ol GO)) (lvB (nodOf me up gone gate inc now sq turn tl F cl GI pn ps pq pa dl GD cx cy ch ce pll GP ol GO)) (NdMax tl cl dl GD pll GP ol GO) w
    (fun w1 hb => sz_HH me up gone gate inc now sq turn ta tl tc ca cl cc pn ps pq pa da dl dc cx cy ch ce pla pll plc oa ol oc F GI GD GP GO w1 (h.below hb)) (fun m w1 hb => to_TO me up gone gate inc now sq turn ta tl tc ca cl cc pn ps pq pa da dl dc cx cy ch ce pla pll plc oa ol oc F GI GD GP GO w1 (h.below hb) m) (fun L w1 hR hF => leaveS_any _ L w1 hR hF) (fun L w1 hR hF => leaveI_any _ L w1 hR hF)
end Go.Proofs.YtgcdcfjaeehnbaaGreat
