/- Leaving: the program's NodeLeave. -/
import Derived.Test.YtgcdcfjaeehnbaaGreatLv4
import Derived.Test.YtgcdcfjaeehnbaaGreatLv6
namespace Go.Proofs.YtgcdcfjaeehnbaaGreat
open Go.ChangeShapes Go.WideShapes Go.ChangeAt Go.RowKit
attribute [local go_sem ↓] Go.wp_at_zero Go.wp_at_succ
set_option maxRecDepth 20000
set_option maxHeartbeats 8000000
def s17_1 : List Stp := [⟨some 7, .load 42 (.tmp 1), 42, none, 0⟩, ⟨some 8, .call { callee := .value (.func 38), args := #[.tmp 7], argTypes := #[42] }, 4, none, 1⟩, ⟨some 9, .unOp .not 4 (.tmp 8), 4, none, 0⟩]
def t17_1 : List (Nat × Nat) := [(0, 0), (1, 1), (2, 0)]
def s17_2 : List Stp := [⟨some 10, .build 42 #[], 42, none, 0⟩, ⟨none, .store 42 (.tmp 2) (.tmp 10), 0, none, 1⟩, ⟨some 3, .assign (.const (.slice none 0 0)), 43, none, 0⟩]
def t17_2 : List (Nat × Nat) := [(0, 0), (1, 1), (2, 0)]
def s17_3 : List Stp := [⟨some 11, .load 42 (.tmp 1), 42, none, 0⟩, ⟨some 12, .call { callee := .value (.func 39), args := #[.tmp 11], argTypes := #[42] }, 72, none, 1⟩, ⟨some 4, .assign (.tmp 12), 72, none, 0⟩]
def t17_3 : List (Nat × Nat) := [(0, 0), (1, 1), (2, 0)]
def s17_4 : List Stp := [⟨some 13, .move (.tmp 4), 72, none, 0⟩, ⟨some 14, .nilCheck (.tmp 13), 0, none, 0⟩, ⟨some 15, .fieldAddr 76 (.tmp 14) 0, 0, none, 0⟩, ⟨some 16, .load 42 (.tmp 15), 42, none, 0⟩, ⟨some 17, .call { callee := .value (.func 40), args := #[.tmp 16], argTypes := #[42] }, 4, none, 1⟩, ⟨some 18, .unOp .not 4 (.tmp 17), 4, none, 0⟩]
def t17_4 : List (Nat × Nat) := [(0, 0), (1, 0), (2, 0), (3, 0), (4, 1), (5, 0)]
def s17_5 : List Stp := [⟨some 19, .move (.tmp 4), 72, none, 0⟩, ⟨some 20, .call { callee := .value (.func 41), args := #[.tmp 19], argTypes := #[72] }, 44, none, 1⟩, ⟨some 21, .extract (.tmp 20) 0, 42, none, 0⟩, ⟨some 22, .extract (.tmp 20) 1, 43, none, 0⟩, ⟨none, .store 42 (.tmp 2) (.tmp 21), 0, none, 1⟩, ⟨some 3, .assign (.tmp 22), 43, none, 0⟩]
def t17_5 : List (Nat × Nat) := [(0, 0), (1, 1), (2, 0), (3, 0), (4, 1), (5, 0)]
def s17_8 : List Stp := [⟨some 39, .move (.tmp 4), 72, none, 0⟩, ⟨some 40, .nilCheck (.tmp 39), 0, none, 0⟩, ⟨some 41, .fieldAddr 76 (.tmp 40) 0, 0, none, 0⟩, ⟨some 42, .load 42 (.tmp 41), 42, none, 0⟩, ⟨some 43, .call { callee := .value (.func 67), args := #[.tmp 42, .func 68], argTypes := #[42, 99] }, 54, none, 1⟩, ⟨some 44, .call { callee := .builtin .len, args := #[.tmp 43], argTypes := #[54] }, 3, none, 0⟩, ⟨some 45, .move (.const (.int .i64 0)), 3, none, 0⟩]
def t17_8 : List (Nat × Nat) := [(0, 0), (1, 0), (2, 0), (3, 0), (4, 1), (5, 0), (6, 0)]
def s17_11 : List Stp := [⟨some 49, .move (.tmp 4), 72, none, 0⟩, ⟨some 50, .move (.tmp 4), 72, none, 0⟩, ⟨some 51, .nilCheck (.tmp 50), 0, none, 0⟩, ⟨some 52, .fieldAddr 76 (.tmp 51) 0, 0, none, 0⟩, ⟨some 53, .load 42 (.tmp 52), 42, none, 1⟩, ⟨some 54, .move (.tmp 6), 3, none, 0⟩, ⟨some 55, .call { callee := .value (.func 70), args := #[.tmp 53, .const (.int .i64 5), .tmp 54], argTypes := #[42, 3, 3] }, 88, none, 1⟩, ⟨some 56, .buildSlice 43 1 #[(0, .tmp 55)], 43, none, 1⟩, ⟨some 57, .call { callee := .value (.func 69), args := #[.tmp 49, .tmp 56], argTypes := #[72, 43] }, 0, none, 1⟩]
def t17_11 : List (Nat × Nat) := [(0, 0), (1, 0), (2, 0), (3, 0), (4, 1), (5, 0), (6, 1), (7, 1), (8, 1)]
def s17_13 : List Stp := [⟨some 59, .move (.tmp 4), 72, none, 0⟩, ⟨some 60, .call { callee := .value (.func 41), args := #[.tmp 59], argTypes := #[72] }, 44, none, 1⟩, ⟨some 61, .extract (.tmp 60) 0, 42, none, 0⟩, ⟨some 62, .extract (.tmp 60) 1, 43, none, 0⟩, ⟨none, .store 42 (.tmp 2) (.tmp 61), 0, none, 1⟩, ⟨some 3, .assign (.tmp 62), 43, none, 0⟩]
def t17_13 : List (Nat × Nat) := [(0, 0), (1, 1), (2, 0), (3, 0), (4, 1), (5, 0)]
def s17_7 : List Stp := [⟨some 27, .move (.tmp 4), 72, none, 0⟩, ⟨some 28, .move (.tmp 4), 72, none, 0⟩, ⟨some 29, .nilCheck (.tmp 28), 0, none, 0⟩, ⟨some 30, .fieldAddr 76 (.tmp 29) 0, 0, none, 0⟩, ⟨some 33, .move (.tmp 4), 72, none, 0⟩, ⟨some 34, .nilCheck (.tmp 33), 0, none, 0⟩, ⟨some 35, .fieldAddr 76 (.tmp 34) 0, 0, none, 0⟩, ⟨some 36, .fieldAddr 42 (.tmp 35) 0, 0, none, 0⟩]
def t17_7 : List (Nat × Nat) := [(0, 0), (1, 0), (2, 0), (3, 0), (6, 0), (7, 0), (8, 0), (9, 0)]
def a17_7 : Stp := ⟨some 31, .load 42 (.tmp 30), 42, none, 1⟩
def b17_7 : Stp := ⟨some 32, .call { callee := .value (.func 66), args := #[.tmp 31], argTypes := #[42] }, 96, none, 1⟩
def c17_7 : Stp := ⟨some 37, .load 3 (.tmp 36), 3, none, 1⟩
def d17_7 : Stp := ⟨some 38, .call { callee := .value (.func 65), args := #[.tmp 27, .tmp 32, .tmp 37], argTypes := #[72, 96, 3] }, 0, none, 1⟩
def lvG (n : Nod) : Nod := ⟨n.me, n.up, true, n.gate, n.inc, n.now, n.sq, n.turn, n.T, n.C, n.pn, n.ps, n.pq, n.pa, n.D, n.cx, n.cy, n.ch, n.ce, n.P, n.O⟩
theorem leaveI_any (n : Nod) (L : Loc) (w : World) (h : NdR w n L) (hf : LocF n L) : Calls Tryz.prog 17 #[ndV n L] w fun r w' => NdWd w w' r (lvA n) (lvB n) := by
 obtain ⟨xs, hxs⟩ : ∃ l, Hid (ndL n L = l) := ⟨_, rfl⟩
 have hv : ndV n L = .agg xs.toArray := by rw [← hxs.out]; rfl
 have hx21 : xs.length = 21 := by rw [← hxs.out]; rfl
 have hok : ∀ q, nodQ n = q → ∀ u, Below w.heap.size w u → Calls Tryz.prog 38 #[.agg xs.toArray] u fun r w' => r = .returned (.bool q) ∧ Below u.heap.size u w' := fun q e u k => hv ▸ okI_lit n L q e u (h.below k)
 have hag : ∀ u, Below w.heap.size w u → Calls Tryz.prog 39 #[.agg xs.toArray] u fun r w' => AgN u w' r n := fun u k => hv ▸ agentOf_any n L u (h.below k) hf
 have hA : Hid (lvA n = if nodQ n then (if n.up && !n.gone then lvN n else n) else nodZ) := rfl
 have hB : Hid (lvB n = if nodQ n && (n.up && !n.gone) then lvW (lvN n) (lvL n.me (lvN n).T) else []) := rfl
 rw [hv]
 clear hv hxs h hf
 go_enter Tryz.func17, Tryz.ntmps17
 go_upto_region 1 with fail
 generalize hu : (w.alloc (.cells _ _)).alloc (.cells _ _) = u
 obtain ⟨X, R, b0, hs⟩ := box2 hu
 clear hu
 obtain ⟨KX, hKX⟩ : ∃ K, Hid (w.heap.size = K) := ⟨_, rfl⟩
 have g0 : w.heap.size ≤ KX := Nat.le_of_eq hKX.out
 have g1 : w.heap.size ≤ KX + 1 := by omega
 have pB : KX + 1 + 1 ≤ u.heap.size := by have := hKX.out; omega
 rw [hKX.out] at X R ⊢
 obtain ⟨zs, hz21, R⟩ : ∃ zs, zs.length = 21 ∧ Ws u (KX + 1) zs := ⟨_, rfl, R⟩
 clear hs hKX
 have xr : u.rangeAt KX 0 xs := by simpa using X.range
 cases hq : nodQ n
 ·have hA2 : Hid (lvA n = nodZ) := by rw [Hid, hA.out, hq]; rfl
  have hB2 : Hid (lvB n = []) := by rw [Hid, hB.out, hq]; rfl
  clear hA hB hag
  refine wp_region_w0 (fun _ => False) s17_1 t17_1 (fun hbq => ?_)
  refine mR (hS := id) (hu := by rw [hx21]; kernel_rfl) ?_
  refine mK (hok false hq _ (btrans b0 hbq.no)) hbq (fun w1 hbq => ?_)
  refine mY ?_
  refine mE ?_
  replace R := R.below hbq.no
  replace b0 := btrans b0 hbq.no
  clear hok xr X hbq
  go_upto_region 2 with fail
  refine wp_region_w0 (fun y => y = KX + 1) s17_2 t17_2 (fun hbq => ?_)
  refine mY ?_
  refine mST (xs := zN) R hz21 rfl (ndC_one (n := nodZ) rfl rfl rfl rfl rfl) rfl hbq (fun W R m hbq => ?_)
  refine mY ?_
  refine mE ?_
  have b9 := m.below b0 (fun i e => by omega)
  have hr := read_nd R rfl
  clear R b0 m hbq
  go_wp2
  try simp only [Exit.inBlock, Exit.then]
  refine bodyPost_ret (v := .tuple #[.agg zN.toArray, .slice none 0 0]) ?_ rfl ?_
  ·simp only [results, Tryz.results17]
   simp [asAddr, hr]
  ·rw [hA2.out, hB2.out]
   exact ⟨_, _, _, _, _, _, _, _, _, _, rfl, NdO.zero _ _, WdO.nil _ _, fun x _ => bkW_nil _ x, b9⟩
 ·replace hA : Hid (lvA n = if n.up && !n.gone then lvN n else n) := by rw [Hid, hA.out, hq]; rfl
  replace hB : Hid (lvB n = if n.up && !n.gone then lvW (lvN n) (lvL n.me (lvN n).T) else []) := by rw [Hid, hB.out, hq]; rfl
  refine wp_region_w0 (fun _ => False) s17_1 t17_1 (fun hbq => ?_)
  refine mR (hS := id) (hu := by rw [hx21]; kernel_rfl) ?_
  refine mK (hok true hq _ (btrans b0 hbq.no)) hbq (fun w1 hbq => ?_)
  refine mY ?_
  refine mE ?_
  replace R := R.below hbq.no
  replace b0 := btrans b0 hbq.no
  replace xr := hbq.range xr id
  replace pB := Nat.le_trans pB hbq.size
  clear hok X hbq
  go_upto_region 3 with fail
  refine wp_region_w0 (fun _ => False) s17_3 t17_3 (fun hbq => ?_)
  refine mR (hS := id) (hu := by rw [hx21]; kernel_rfl) ?_
  refine mX (hag _ (btrans b0 hbq.no)) hbq ?_
  rintro r w2 ⟨g, v1, v2, v3, v4, v5, sD, sP, sO, rfl, hG, k1⟩
  refine ⟨_, rfl, Mw.of_below k1, fun hbq => ?_⟩
  simp only [putQ]
  refine mY ?_
  refine mE ?_
  have bL := b0.size
  replace R := R.below hbq.no
  replace b0 := btrans b0 hbq.no
  have hgB : w1.heap.size ≤ w2.heap.size := hbq.size
  obtain ⟨B, hBB⟩ : ∃ B, Hid (w1.heap.size = B) := ⟨_, rfl⟩
  rw [hBB.out] at hG pB bL hgB
  have gK : KX + 1 < g := by have := hG.lo; omega
  have gw : w.heap.size ≤ g := Nat.le_trans bL hG.lo
  clear hag xr k1 hbq hBB
  have hawk : ∀ q, (n.up && !n.gone) = q → ∀ u, Calls Tryz.prog 40 #[.agg (ndC n v1 v2 v3 v4 v5).toArray] u fun r w' => r = .returned (.bool q) ∧ Below u.heap.size u w' := fun q e u => by rw [hG.nd.valC]; exact awake_lit n _ q e u
  have xg := hG.node
  cases ha : (n.up && !n.gone)
  ·have hA2 : Hid (lvA n = n) := by rw [Hid, hA.out, ha]; rfl
   have hB2 : Hid (lvB n = []) := by rw [Hid, hB.out, ha]; rfl
   clear hA hB hq
   go_upto_region 4 with fail
   refine wp_region_w0 (fun _ => False) s17_4 t17_4 (fun hbq => ?_)
   iterate 3 refine mY ?_
   refine mR (hS := id) (xs := ndC n v1 v2 v3 v4 v5) ?_
   refine mK (hawk false ha _) hbq (fun w3 hbq => ?_)
   refine mY ?_
   refine mE ?_
   replace R := R.below hbq.no
   replace b0 := btrans b0 hbq.no
   replace hG := hG.below hbq.no
   clear hawk xg hbq ha
   go_upto_region 5 with fail
   refine wp_region_w0 (fun y => y = KX + 1) s17_5 t17_5 (fun hbq => ?_)
   refine mY ?_
   refine mX (done_any _ g n 0 [] _ _ _ _ _ _ sD sP sO _ _ hG) hbq ?_
   rintro r w4 ⟨rfl, k1⟩
   refine ⟨_, rfl, Mw.of_below k1, fun hbq => ?_⟩
   simp only [putQ]
   iterate 2 refine mY ?_
   refine mST (xs := ndC n v1 v2 v3 v4 v5) (R.below k1) hz21 rfl hG.nd.one rfl hbq (fun W R m hbq => ?_)
   refine mY ?_
   refine mE ?_
   have b8 := btrans b0 k1
   have b9 := m.below b8 (fun i e => by omega)
   have hr := read_nd R rfl
   have hN := ((hG.nd.below k1).mw m (fun x e q => by have := (hG.nd.lo x e).1; omega)).mono bL
   clear R b0 m hbq b8 k1 hG
   go_wp2
   try simp only [Exit.inBlock, Exit.then]
   refine bodyPost_ret (v := .tuple #[ndW n v1 v2 v3 v4 v5, .slice none 0 0]) ?_ rfl ?_
   ·simp only [results, Tryz.results17]
    simp [asAddr, hr]
    rfl
   ·rw [hA2.out, hB2.out]
    exact ⟨_, _, _, _, _, _, _, _, _, _, rfl, hN, WdO.nil _ _, fun x _ => bkW_nil _ x, b9⟩
  ·have hA2 : Hid (lvA n = lvN n) := by rw [Hid, hA.out, ha]; rfl
   have hB2 : Hid (lvB n = lvW (lvN n) (lvL n.me (lvN n).T)) := by rw [Hid, hB.out, ha]; rfl
   have ok := lv_ok hq (by revert ha; cases n.up <;> simp) (by revert ha; cases n.up <;> cases n.gone <;> simp)
   have okG : LvOk (lvG n) := ⟨ok.tk, ok.ck, ok.me, ok.inc, ok.own, ok.db⟩
   clear hA hB hq
   go_upto_region 4 with fail
   refine wp_region_w0 (fun _ => False) s17_4 t17_4 (fun hbq => ?_)
   iterate 3 refine mY ?_
   refine mR (hS := id) (xs := ndC n v1 v2 v3 v4 v5) ?_
   refine mK (hawk true ha _) hbq (fun w3 hbq => ?_)
   refine mY ?_
   refine mE ?_
   replace R := R.below hbq.no
   replace b0 := btrans b0 hbq.no
   replace hgB := Nat.le_trans hgB hbq.size
   replace hG := hG.below hbq.no
   clear hawk xg hbq ha
   have y2 := hG.box.c 2 (.bool n.gone) rfl
   have z2 := hG.box.z 2
   go_upto_region 7 with fail
   rename_i K hK
   have m_ : Mw (fun y => y = g) w3 (w3.setCell ⟨g, 2, none⟩ (.bool true)) := (Mw.refl _ _).set rfl
   have A_ := hG.am.set 2 (by simp [agC]) (.bool true)
   replace R := R.mw m_ (by omega)
   replace b0 := m_.below b0 (fun i e => by omega)
   replace hgB := Nat.le_trans hgB m_.size
   clear y2 z2 m_
   generalize w3.setCell ⟨g, 2, none⟩ (.bool true) = w4 at *
   replace hG : Ag w4 B g (lvG n) 0 [] v1 v2 v3 v4 v5 (.slice none 0 0) sD sP sO (fun _ => .slice none 0 0) := ⟨A_.box, A_.ty, hG.lo, ⟨A_.nd.t, A_.nd.c, A_.nd.d, A_.nd.p, A_.nd.o, A_.nd.dp, A_.nd.tO, A_.nd.ht, A_.nd.hc, A_.nd.hd, A_.nd.hp, A_.nd.ho, A_.nd.hdn, A_.nd.hpn, A_.nd.hon⟩, A_.wd, hG.nw⟩
   clear A_
   have hself : ∀ u, Calls Tryz.prog 66 #[.agg (ndC (lvG n) v1 v2 v3 v4 v5).toArray] u fun r w' => r = .returned (.agg #[.int .i64 n.me, .int .i64 n.inc, .int .i64 4, .bool n.gate]) ∧ Below u.heap.size u w' := fun u => by rw [hG.nd.valC]; exact self_any _ _ _ _ _ _ _ _ _ _ _ _ _ _ _ _ _ _ _ _ _ _ _ _ _ _ _ _ _ _ _ u
   have rest : ∀ (w6 : World) (u1 u2 u3 : Value), Ag w6 B g (lvN n) 0 [] u1 u2 u3 v4 v5 (.slice none 0 0) sD sP sO (fun _ => .slice none 0 0) → Below w.heap.size w w6 → Ws w6 (KX + 1) zs → B ≤ w6.heap.size → K ⟨#[.agg xs.toArray, .pointer (some ⟨KX, 0, none⟩), .pointer (some ⟨KX + 1, 0, none⟩), .slice none 0 0, .pointer (some ⟨g, 0, none⟩), undef, undef, .agg xs.toArray, .bool true, .bool false, undef, .agg xs.toArray, .pointer (some ⟨g, 0, none⟩), .pointer (some ⟨g, 0, none⟩), .pointer (some ⟨g, 0, none⟩), .pointer (some ⟨g, 0, none⟩), .agg (ndC n v1 v2 v3 v4 v5).toArray, .bool true, .bool false, undef, undef, undef, undef, .pointer (some ⟨g, 0, none⟩), .pointer (some ⟨g, 0, none⟩), .pointer (some ⟨g, 0, none⟩), .pointer (some ⟨g, 2, none⟩), .pointer (some ⟨g, 0, none⟩), .pointer (some ⟨g, 0, none⟩), .pointer (some ⟨g, 0, none⟩), .pointer (some ⟨g, 0, none⟩), .agg (ndC ⟨n.me, n.up, true, n.gate, n.inc, n.now, n.sq, n.turn, n.T, n.C, n.pn, n.ps, n.pq, n.pa, n.D, n.cx, n.cy, n.ch, n.ce, n.P, n.O⟩ v1 v2 v3 v4 v5).toArray, .agg #[.int .i64 n.me, .int .i64 n.inc, .int .i64 4, .bool n.gate], .pointer (some ⟨g, 0, none⟩), .pointer (some ⟨g, 0, none⟩), .pointer (some ⟨g, 0, none⟩), .pointer (some ⟨g, 0, none⟩), .int .i64 n.me, .tuple #[], undef, undef, undef, undef, undef, undef, undef, undef, undef, undef, undef, undef, undef, undef, undef, undef, undef, undef, undef, undef, undef, undef, undef, undef], []⟩ w6 := by
    intro w6 u1 u2 u3 hG b0 R hgB
    apply hK
    clear hK
    show Code.wp _ _ _ ⟨List.toArray [.agg xs.toArray, .pointer (some ⟨KX, 0, none⟩), .pointer (some ⟨KX + 1, 0, none⟩), .slice none 0 0, .pointer (some ⟨g, 0, none⟩), undef, undef, .agg xs.toArray, .bool true, .bool false, undef, .agg xs.toArray, .pointer (some ⟨g, 0, none⟩), .pointer (some ⟨g, 0, none⟩), .pointer (some ⟨g, 0, none⟩), .pointer (some ⟨g, 0, none⟩), .agg (ndC n v1 v2 v3 v4 v5).toArray, .bool true, .bool false, undef, undef, undef, undef, .pointer (some ⟨g, 0, none⟩), .pointer (some ⟨g, 0, none⟩), .pointer (some ⟨g, 0, none⟩), .pointer (some ⟨g, 2, none⟩), .pointer (some ⟨g, 0, none⟩), .pointer (some ⟨g, 0, none⟩), .pointer (some ⟨g, 0, none⟩), .pointer (some ⟨g, 0, none⟩), .agg (ndC ⟨n.me, n.up, true, n.gate, n.inc, n.now, n.sq, n.turn, n.T, n.C, n.pn, n.ps, n.pq, n.pa, n.D, n.cx, n.cy, n.ch, n.ce, n.P, n.O⟩ v1 v2 v3 v4 v5).toArray, .agg #[.int .i64 n.me, .int .i64 n.inc, .int .i64 4, .bool n.gate], .pointer (some ⟨g, 0, none⟩), .pointer (some ⟨g, 0, none⟩), .pointer (some ⟨g, 0, none⟩), .pointer (some ⟨g, 0, none⟩), .int .i64 n.me, .tuple #[], undef, undef, undef, undef, undef, undef, undef, undef, undef, undef, undef, undef, undef, undef, undef, undef, undef, undef, undef, undef, undef, undef, undef, undef], []⟩ _
    have hvc : (.agg (ndC (lvN n) u1 u2 u3 v4 v5).toArray : Value) = ndV (lvN n) (locW u1 u2 u3 v4 v5 sD sP sO) := hG.nd.valC
    obtain ⟨l, hl⟩ : ∃ l, Hid (lvL n.me (lvN n).T = l) := ⟨_, rfl⟩
    have hl9 : l.length ≤ 9 := by rw [← hl.out]; exact Nat.le_trans (lvK_le _ _ _) ok.len
    have hmat : ∀ u, NdR u (lvN n) (locW u1 u2 u3 v4 v5 sD sP sO) → Calls Tryz.prog 67 #[.agg (ndC (lvN n) u1 u2 u3 v4 v5).toArray, .func (.func 68) #[] #[]] u fun r w' => MtR u w' r l := fun u q => by rw [hvc, ← hl.out]; exact mates_any (lvN n) _ u q
    have hfw : ∀ (t : Int) u, NdR u (lvN n) (locW u1 u2 u3 v4 v5 sD sP sO) → Calls Tryz.prog 70 #[.agg (ndC (lvN n) u1 u2 u3 v4 v5).toArray, .int .i64 5, .int .i64 t] u fun r w' => FwR u w' r (wordD (lvN n) 5 t (lvN n).T) := fun t u q => by rw [hvc]; exact fullWord_any (lvN n) _ 5 t u q hG.nd.fine
    have hfn := hG.nd.ht
    rw [hl.out] at hB2
    clear hself ok okG hl hvc
    go_upto_region 8 with fail
    have xg := hG.node
    refine wp_region_w0 (fun _ => False) s17_8 t17_8 (fun hbq => ?_)
    iterate 3 refine mY ?_
    refine mR (hS := id) (xs := ndC (lvN n) u1 u2 u3 v4 v5) ?_
    refine mX (hmat _ hG.nd.toR) hbq ?_
    rintro r w7 ⟨v, rfl, ol, k1⟩
    obtain ⟨am, cm, rfl, hcm, _⟩ := own_list ol
    refine ⟨_, rfl, Mw.of_below k1, fun hbq => ?_⟩
    simp only [putQ]
    iterate 2 refine mY ?_
    refine mE ?_
    replace R := R.below k1
    replace b0 := btrans b0 k1
    replace ol := own_mono hgB ol
    replace hgB := Nat.le_trans hgB k1.size
    replace hG := hG.below k1
    clear hmat xg hbq k1
    go_wp2_with fail
    go_loopw [45] (fun i wr => ∃ (k : Nat) (vw : Value) (sW : Nat → Value), k ≤ l.length ∧ i = .int .i64 k ∧ Ag wr B g (lvN n) 0 (lvW (lvN n) (l.take k)) u1 u2 u3 v4 v5 vw sD sP sO sW ∧ wr.ownsRow B 3 1 (.slice am l.length cm) l.length (lv l) ∧ Below w.heap.size w wr ∧ Ws wr (KX + 1) zs ∧ B ≤ wr.heap.size) (fun i _ => l.length - (intOf i).toNat)
    case atStart => exact ⟨0, _, _, Nat.zero_le _, rfl, hG, ol, b0, R, hgB⟩
    case round =>
     clear hG ol b0 R hgB
     obtain ⟨k, vw, sW, hk, rfl, hG, ol, b0, R, hgB⟩ := hrel
     by_cases hlt : k < l.length
     ·obtain ⟨_, _, e_, _, hL⟩ := own_list ol
      obtain ⟨rfl, rfl⟩ : am = _ ∧ cm = _ := by simpa using e_
      obtain ⟨b, off, rfl, _, hc⟩ := hL (by omega)
      have c0 : wr.cell? ⟨b, off + k, none⟩ = some (.int .i64 (l.getD k 0)) := hc k hlt
      have i0 : (0 : Int) ≤ (k : Int) := by omega
      have i1 : (k : Int) < (l.length : Int) := by omega
      obtain ⟨t, ht⟩ : ∃ t, Hid (l.getD k 0 = t) := ⟨_, rfl⟩
      rw [ht.out] at c0
      clear hc hL e_
      go_upto_region 11 with fail
      clear c0
      obtain ⟨ws, hws⟩ : ∃ x, Hid (lvW (lvN n) (l.take k) = x) := ⟨_, rfl⟩
      have hwl : ws.length < 1048576 := by rw [← hws.out]; simp only [lvW, List.length_map, List.length_take]; omega
      rw [hws.out] at hG
      obtain ⟨x, hx⟩ : ∃ x, Hid (wordD (lvN n) 5 t (lvN n).T = x) := ⟨_, rfl⟩
      have hfw2 := hfw t
      rw [hx.out] at hfw2
      have hxf : x.fs.length ≤ 1048576 := by rw [← hx.out]; exact hfn
      refine wp_region_w0 (fun y => y = g ∨ vw.ownBlock = some y) s17_11 t17_11 (fun hbq => ?_)
      iterate 4 refine mY ?_
      refine mLD (xs := ndC (lvN n) u1 u2 u3 v4 v5) hG.node rfl hbq ?_
      refine mY ?_
      refine mX (hfw2 _ hG.nd.toR) hbq ?_
      rintro r w8 ⟨vf, rfl, of, k1⟩
      obtain ⟨af, cf, rfl, _⟩ := own_slice of
      have hap : ∀ y, (Value.slice af x.fs.length cf).ownBlock = some y → ¬ bkN (lvN n) u1 u2 u3 v4 v5 sD sP sO y ∧ ¬ bkW vw ws.length sW y := fun y e => ⟨fun q => by have q1 := (of.lt y e).1; have q2 := (hG.nd.lo y q).2; omega, fun q => by have q1 := (of.lt y e).1; have q2 := (hG.wd.o.lo y q).2; omega⟩
      replace of := own_mono hgB of
      replace hG := hG.below k1
      replace R := R.below k1
      replace b0 := btrans b0 k1
      replace ol := own_below ol k1
      replace hgB := Nat.le_trans hgB k1.size
      refine ⟨_, rfl, Mw.of_below k1, fun hbq => ?_⟩
      simp only [putQ]
      refine mBW hbq rfl rfl (fun w9 e9 => ?_)
      have Y : w9.rangeAt w8.heap.size 0 (woC x (.slice af x.fs.length cf)) := by subst e9; exact (Ws.box _ _).range
      have k2 : Below w8.heap.size w8 w9 := by subst e9; exact balloc _ (Below.refl _ _)
      clear e9
      replace hbq := hbq.trans (Mw.of_below k2)
      replace of := own_below of k2
      replace hG := hG.below k2
      replace R := R.below k2
      replace b0 := btrans b0 k2
      replace ol := own_below ol k2
      replace hgB := Nat.le_trans hgB k2.size
      simp only [putQ]
      refine mX (send_any B g (lvN n) 0 ws u1 u2 u3 v4 v5 vw sD sP sO sW x _ _ 1 w9 hG hgB Y of hxf hwl hap) hbq ?_
      rintro r w10 ⟨vw2, rfl, hA, mS⟩
      refine ⟨_, rfl, mS, fun _ => ?_⟩
      simp only [putQ]
      refine mE ?_
      have ol2 := own_mw ol mS (fun y e q => by
       rcases q with q | q
       ·exact own_boxT ol hG.ty (by decide) y e q
       ·exact own_apart ol hG.wd.o.row (by decide) y e q)
      have hbk : ∀ y, (y = g ∨ vw.ownBlock = some y) → B ≤ y := fun y q => by
       rcases q with q | q
       ·have := hG.lo; omega
       ·exact (hG.wd.o.row.lt y q).1
      have b2 := mS.below b0 (fun i e => Nat.le_trans bL (hbk i e))
      have R2 := R.mw mS (fun e => by have := hbk _ e; omega)
      have g2 := Nat.le_trans hgB mS.size
      have hnx : Hid (lvW (lvN n) (l.take (k + 1)) = ws ++ [x]) := by
       have e1 : l.take (k + 1) = l.take k ++ [t] := by
        rw [List.take_add_one, List.getElem?_eq_getElem hlt, ← ht.out, List.getD_eq_getElem?_getD, List.getElem?_eq_getElem hlt]
        rfl
       rw [Hid, e1, ← hws.out, ← hx.out]
       simp [lvW]
      clear hap of hG R b0 ol hgB Y k1 k2 hfw hfw2 hbq mS hbk hws hx ht
      go_wp2
      go_roundw
      case rel => exact ⟨k + 1, vw2, _, by omega, by go_num, by rw [hnx.out]; exact hA, ol2, b2, R2, g2⟩
      case measure => simp [intOf]; omega
     ·obtain rfl : k = l.length := by omega
      rw [List.take_length] at hG
      clear hfw ol
      go_upto_region 13 with fail
      refine wp_region_w0 (fun y => y = KX + 1) s17_13 t17_13 (fun hbq => ?_)
      refine mY ?_
      refine mX (done_any _ g (lvN n) 0 _ _ _ _ _ _ _ sD sP sO _ _ hG) hbq ?_
      rintro r w4 ⟨rfl, k1⟩
      refine ⟨_, rfl, Mw.of_below k1, fun hbq => ?_⟩
      simp only [putQ]
      iterate 2 refine mY ?_
      refine mST (xs := ndC (lvN n) u1 u2 u3 v4 v5) (R.below k1) hz21 rfl hG.nd.one rfl hbq (fun W R m hbq => ?_)
      refine mY ?_
      refine mE ?_
      have b8 := btrans b0 k1
      have b9 := m.below b8 (fun i e => by omega)
      have hr := read_nd R rfl
      have hN := ((hG.nd.below k1).mw m (fun x e q => by have := (hG.nd.lo x e).1; omega)).mono bL
      have hW := ((hG.wd.below k1).mw m (fun x e q => by have := (hG.wd.o.lo x e).1; omega)).mono bL
      have hnw := hG.nw
      clear R b0 m hbq b8 k1 hG
      go_wp2
      try simp only [Exit.inBlock, Exit.then]
      refine bodyPost_ret (v := .tuple #[ndW (lvN n) u1 u2 u3 v4 v5, vw]) ?_ rfl ?_
      ·simp only [results, Tryz.results17]
       simp [asAddr, hr]
       rfl
      ·rw [hA2.out, hB2.out]
       exact ⟨_, _, _, _, _, _, _, _, _, _, rfl, hN, hW, hnw, b9⟩
   clear hK hA2 hB2
   have kd : Below w4.heap.size w4 w4.drew := QB1 (Below.refl _ _)
   replace hG := hG.below kd
   replace R := R.below kd
   replace b0 := btrans b0 kd
   replace hgB : B ≤ w4.drew.heap.size := hgB
   clear kd
   refine wp_region_wr (fun y => y = g) s17_7 t17_7 4 (fun hF hQ hbq => ?_)
   iterate 8 refine mY ?_
   refine mE (fun hbq => ?_)
   refine fork_r (i := 4) (j := 10) (si := a17_7) (sj := c17_7) (by kernel_rfl) (by decide) (by decide) (by kernel_rfl) (by kernel_rfl) rfl rfl ?_ ?_
   ·refine mLD (xs := ndC (lvG n) v1 v2 v3 v4 v5) hG.node rfl hbq ?_
    refine mE (fun hbq => ?_)
    refine fork_r (i := 5) (j := 10) (si := b17_7) (sj := c17_7) (by kernel_rfl) (by decide) (by decide) (by kernel_rfl) (by kernel_rfl) rfl rfl ?_ ?_
    ·refine mX (hself _) hbq ?_
     rintro r w5 ⟨rfl, k1⟩
     refine ⟨_, rfl, Mw.of_below k1, fun hbq => ?_⟩
     simp only [putQ]
     replace hG := hG.below k1
     replace R := R.below k1
     replace b0 := btrans b0 k1
     replace hgB := Nat.le_trans hgB k1.size
     clear k1
     refine mE (fun _ => any_w hF hQ (m := 1023) [c17_7, d17_7] [(10, 1), (11, 1)] (by kernel_rfl) (by kernel_rfl) hbq ?_)
     refine mC (fun K2 hK2 => ?_)
     have y0 := hG.box.c 0 (.int .i64 n.me) rfl
     go_simp
     refine hK2.out _ _ hbq (.inl ?_)
     clear hK2 K2 y0
     try simp only [putQ]
     refine mX (say_any B g (lvG n) 0 [] v1 v2 v3 v4 v5 _ sD sP sO _ n.me _ hG hgB okG) hbq ?_
     rintro r w6 ⟨u1, u2, u3, rfl, hS, mS⟩
     refine ⟨_, rfl, mS, fun _ => ?_⟩
     simp only [putQ]
     refine mE ?_
     exact rest _ u1 u2 u3 hS (mS.below b0 (fun i e => by omega)) (R.mw mS (by omega)) (Nat.le_trans hgB mS.size)
    ·refine mC (fun K2 hK2 => ?_)
     have y0 := hG.box.c 0 (.int .i64 n.me) rfl
     go_simp
     refine hK2.out _ _ hbq (.inl ?_)
     clear hK2 K2 y0
     try simp only [putQ]
     refine mE (fun _ => any_w hF hQ (m := 2015) [b17_7, d17_7] [(5, 1), (11, 1)] (by kernel_rfl) (by kernel_rfl) hbq ?_)
     refine mX (hself _) hbq ?_
     rintro r w5 ⟨rfl, k1⟩
     refine ⟨_, rfl, Mw.of_below k1, fun hbq => ?_⟩
     simp only [putQ]
     replace hG := hG.below k1
     replace R := R.below k1
     replace b0 := btrans b0 k1
     replace hgB := Nat.le_trans hgB k1.size
     clear k1
     refine mX (say_any B g (lvG n) 0 [] v1 v2 v3 v4 v5 _ sD sP sO _ n.me _ hG hgB okG) hbq ?_
     rintro r w6 ⟨u1, u2, u3, rfl, hS, mS⟩
     refine ⟨_, rfl, mS, fun _ => ?_⟩
     simp only [putQ]
     refine mE ?_
     exact rest _ u1 u2 u3 hS (mS.below b0 (fun i e => by omega)) (R.mw mS (by omega)) (Nat.le_trans hgB mS.size)
   ·refine mC (fun K2 hK2 => ?_)
    have y0 := hG.box.c 0 (.int .i64 n.me) rfl
    go_simp
    refine hK2.out _ _ hbq (.inl ?_)
    clear hK2 K2 y0
    try simp only [putQ]
    refine mE (fun _ => any_w hF hQ (m := 1999) [a17_7, b17_7, d17_7] [(4, 1), (5, 1), (11, 1)] (by kernel_rfl) (by kernel_rfl) hbq ?_)
    refine mLD (xs := ndC (lvG n) v1 v2 v3 v4 v5) hG.node rfl hbq ?_
    refine mX (hself _) hbq ?_
    rintro r w5 ⟨rfl, k1⟩
    refine ⟨_, rfl, Mw.of_below k1, fun hbq => ?_⟩
    simp only [putQ]
    replace hG := hG.below k1
    replace R := R.below k1
    replace b0 := btrans b0 k1
    replace hgB := Nat.le_trans hgB k1.size
    clear k1
    refine mX (say_any B g (lvG n) 0 [] v1 v2 v3 v4 v5 _ sD sP sO _ n.me _ hG hgB okG) hbq ?_
    rintro r w6 ⟨u1, u2, u3, rfl, hS, mS⟩
    refine ⟨_, rfl, mS, fun _ => ?_⟩
    simp only [putQ]
    refine mE ?_
    exact rest _ u1 u2 u3 hS (mS.below b0 (fun i e => by omega)) (R.mw mS (by omega)) (Nat.le_trans hgB mS.size)
end Go.Proofs.YtgcdcfjaeehnbaaGreat
