/- Leaving: who may live, and what a node says, by the model. -/
import Derived.Test.YtgcdcfjaeehnbaaGreatLv7
import Derived.Test.YtgcdcfjaeehnbaaGreatIL5
namespace Go.Proofs.YtgcdcfjaeehnbaaGreat
open Go.ChangeShapes Go.WideShapes Go.ChangeAt Go.RowKit
attribute [local go_sem ↓] Go.wp_at_zero Go.wp_at_succ
set_option maxRecDepth 20000
set_option maxHeartbeats 8000000
theorem fnd_asc {T : List Fc} (h : Asc T) {j : Nat} (hj : j < T.length) : fnd T.length (tF T) (T.getD j Fc.zero).n = some j :=
 fst_some T.length 0 j (fun i _ hi => by
  have := getD_asc h i j hi hj
  show (T.getD i Fc.zero).n ≠ _
  omega) (Nat.zero_le _) (by omega) rfl
theorem slives_at (a : Option Addr) (len cap : Nat) (F : Nat → Fc) (key : Int) (j : Nat) (b : Bool) (w : World) (h : FSl w a len F) (hl : len ≤ 1048576) (hj : fnd len F key = some j) (hb : mayB (F j).s = b) :
  Calls Tryz.prog 125 #[.slice a len cap, .int .i64 key] w fun r w' => r = .returned (.bool b) ∧ Below w.heap.size w w' := by
 have hlt := fnd_lt hj
 obtain ⟨x, o, rfl, hbl, hf⟩ := h (by omega)
 have hs := fun u (k : Below w.heap.size w u) => sfind_any (some ⟨x, o, none⟩) len cap F key u (h.below k) hl
 rw [hj] at hs
 have i0 : (0 : Int) ≤ (j : Int) := by omega
 have i1 : (j : Int) < (len : Int) := by omega
 go_enter Tryz.func125, Tryz.ntmps125
 go_wp2_with fail
 refine (hs _ (Below.refl _ _)).mono ?_
 rintro r w1 ⟨rfl, k1⟩
 obtain ⟨_, _, c2, _⟩ := (hf.below k1 hbl) j hlt
 clear hs h hf hj
 generalize (F j).s = s at *
 unfold fndI
 dsimp only
 cases z1 : (s == 1)
 ·cases z2 : (s == 2)
  all_goals
   go_wp2
   go_ret
   exact ⟨ret_bool (by rw [← hb]; unfold mayB; rw [z1, z2]; rfl), k1⟩
 ·go_wp2
  go_ret
  exact ⟨ret_bool (by rw [← hb]; unfold mayB; rw [z1]; rfl), k1⟩
theorem box1T {w u : World} {c : Array Value} {t : TypeId} (h : w.alloc (.cells c t) = u) : BoxT u w.heap.size t := by subst h; exact ⟨_, heap_alloc_new _ _⟩
theorem box3 {w u : World} {c c' c2 : Array Value} {t t' t2 : TypeId} (h : ((w.alloc (.cells c t)).alloc (.cells c' t')).alloc (.cells c2 t2) = u) : Ws u w.heap.size c.toList ∧ Ws u (w.heap.size + 1) c'.toList ∧ Ws u (w.heap.size + 1 + 1) c2.toList ∧ Below w.heap.size w u ∧ u.heap.size = w.heap.size + 1 + 1 + 1 ∧ BoxT u w.heap.size t ∧ BoxT u (w.heap.size + 1 + 1) t2 := by
 obtain ⟨X, R, b, s⟩ := box2 (w := w) (c := c) (t := t) (c' := c') (t' := t') rfl
 obtain ⟨Y, k⟩ := box1 h
 have hs : u.heap.size = w.heap.size + 1 + 1 + 1 := by rw [← h]; simp
 rw [s] at Y
 exact ⟨X.below k, R.below k, Y, btrans b k, hs, ((box1T (w := w) rfl).below (balloc _ (Below.refl _ _))).below k, s ▸ box1T h⟩
def SyR (w w' : World) (r : Ending) (base : Nat) (n : Nod) (v4 v5 : Value) (sD sP sO : Nat → Value) : Prop := ∃ v1 v2 v3, r = .returned (.agg (ndC n v1 v2 v3 v4 v5).toArray) ∧ NdO w' base n v1 v2 v3 v4 v5 sD sP sO ∧ Below w.heap.size w w'
def s124_1 : List Stp := [⟨some 12, .fieldAddr 42 (.tmp 3) 8, 0, none, 0⟩, ⟨some 13, .load 34 (.tmp 12), 34, none, 0⟩, ⟨some 14, .load 96 (.tmp 4), 96, none, 0⟩, ⟨some 15, .call { callee := .value (.func 191), args := #[.tmp 13, .tmp 14], argTypes := #[34, 96] }, 152, none, 1⟩, ⟨some 11, .move (.tmp 15), 152, none, 0⟩, ⟨some 16, .extract (.tmp 11) 0, 34, none, 0⟩, ⟨some 17, .extract (.tmp 11) 1, 4, none, 0⟩, ⟨some 7, .assign (.tmp 16), 34, none, 0⟩, ⟨some 8, .assign (.tmp 17), 4, none, 0⟩]
def t124_1 : List (Nat × Nat) := [(0, 0), (1, 0), (2, 0), (3, 1), (4, 0), (5, 0), (6, 0), (7, 0), (8, 0)]
def s124_4 : List Stp := [⟨some 21, .fieldAddr 42 (.tmp 3) 8, 0, none, 0⟩, ⟨some 22, .load 34 (.tmp 21), 34, none, 0⟩, ⟨some 23, .fieldAddr 96 (.tmp 4) 0, 0, none, 0⟩, ⟨some 24, .load 3 (.tmp 23), 3, none, 0⟩, ⟨some 25, .call { callee := .value (.func 71), args := #[.tmp 22, .tmp 24], argTypes := #[34, 3] }, 3, none, 1⟩, ⟨some 9, .assign (.tmp 25), 3, none, 0⟩]
def t124_4 : List (Nat × Nat) := [(0, 0), (1, 0), (2, 0), (3, 0), (4, 1), (5, 0)]
def s124_5 : List Stp := [⟨some 26, .move (.tmp 9), 3, none, 0⟩, ⟨some 27, .binOp .geq 3 (.tmp 26) (.const (.int .i64 0)) 3, 4, none, 2⟩, ⟨some 28, .move (.tmp 27), 4, none, 0⟩, ⟨some 29, .fieldAddr 42 (.tmp 3) 8, 0, some (28, true), 0⟩, ⟨some 30, .load 34 (.tmp 29), 34, some (28, true), 0⟩, ⟨some 31, .move (.tmp 9), 3, some (28, true), 0⟩, ⟨some 32, .indexAddr 34 (.tmp 30) (.tmp 31), 0, some (28, true), 0⟩, ⟨some 33, .fieldAddr 96 (.tmp 32) 1, 0, some (28, true), 0⟩, ⟨some 34, .load 3 (.tmp 33), 3, some (28, true), 0⟩, ⟨some 35, .fieldAddr 96 (.tmp 4) 1, 0, some (28, true), 0⟩, ⟨some 36, .load 3 (.tmp 35), 3, some (28, true), 0⟩, ⟨some 37, .binOp .eql 3 (.tmp 34) (.tmp 36) 3, 4, some (28, true), 2⟩, ⟨some 38, .pick (.tmp 28) (.tmp 37) (.const (.bool false)), 4, none, 0⟩, ⟨some 39, .move (.tmp 38), 4, none, 0⟩, ⟨some 40, .fieldAddr 42 (.tmp 3) 8, 0, some (39, true), 0⟩, ⟨some 41, .load 34 (.tmp 40), 34, some (39, true), 0⟩, ⟨some 42, .move (.tmp 9), 3, some (39, true), 0⟩, ⟨some 43, .indexAddr 34 (.tmp 41) (.tmp 42), 0, some (39, true), 0⟩, ⟨some 44, .fieldAddr 96 (.tmp 43) 2, 0, some (39, true), 0⟩, ⟨some 45, .load 3 (.tmp 44), 3, some (39, true), 0⟩, ⟨some 46, .fieldAddr 96 (.tmp 4) 2, 0, some (39, true), 0⟩, ⟨some 47, .load 3 (.tmp 46), 3, some (39, true), 0⟩, ⟨some 48, .binOp .eql 3 (.tmp 45) (.tmp 47) 3, 4, some (39, true), 2⟩, ⟨some 49, .pick (.tmp 39) (.tmp 48) (.const (.bool false)), 4, none, 0⟩, ⟨some 10, .assign (.tmp 49), 4, none, 0⟩]
def t124_5 : List (Nat × Nat) := [(0, 0), (1, 2), (2, 0), (3, 0), (4, 0), (5, 0), (6, 0), (7, 0), (8, 0), (9, 0), (10, 0), (11, 2), (12, 0), (13, 0), (14, 0), (15, 0), (16, 0), (17, 0), (18, 0), (19, 0), (20, 0), (21, 0), (22, 2), (23, 0), (24, 0)]
def s124_7 : List Stp := [⟨some 52, .fieldAddr 42 (.tmp 3) 9, 0, none, 0⟩, ⟨some 53, .load 35 (.tmp 52), 35, none, 1⟩, ⟨some 54, .load 96 (.tmp 4), 96, none, 0⟩, ⟨some 55, .call { callee := .value (.func 192), args := #[.tmp 53, .tmp 54], argTypes := #[35, 96] }, 35, none, 1⟩, ⟨some 56, .fieldAddr 42 (.tmp 3) 9, 0, none, 0⟩, ⟨none, .store 35 (.tmp 56) (.tmp 55), 0, none, 1⟩]
def t124_7 : List (Nat × Nat) := [(0, 0), (1, 1), (2, 0), (3, 1), (4, 0), (5, 1)]
def s124_9 : List Stp := [⟨some 59, .load 42 (.tmp 3), 42, none, 1⟩, ⟨some 60, .load 96 (.tmp 4), 96, none, 0⟩, ⟨some 61, .move (.tmp 2), 3, none, 0⟩, ⟨some 62, .call { callee := .value (.func 193), args := #[.tmp 59, .tmp 60, .tmp 61], argTypes := #[42, 96, 3] }, 37, none, 1⟩, ⟨some 63, .fieldAddr 42 (.tmp 3) 11, 0, none, 0⟩, ⟨none, .store 37 (.tmp 63) (.tmp 62), 0, none, 1⟩]
def t124_9 : List (Nat × Nat) := [(0, 1), (1, 0), (2, 0), (3, 1), (4, 0), (5, 1)]
def s124_10 : List Stp := [⟨some 64, .load 42 (.tmp 3), 42, none, 0⟩, ⟨none, .store 42 (.tmp 6) (.tmp 64), 0, none, 1⟩]
def t124_10 : List (Nat × Nat) := [(0, 0), (1, 1)]
theorem ssay_any (base : Nat) (n : Nod) (v1 v2 v3 v4 v5 : Value) (sD sP sO : Nat → Value) (by_ : Int) (w : World) (hN : NdO w base n v1 v2 v3 v4 v5 sD sP sO) (hb : base ≤ w.heap.size) (ok : LvOk n) :
  Calls Tryz.prog 124 #[.agg (ndC n v1 v2 v3 v4 v5).toArray, .agg #[.int .i64 n.me, .int .i64 n.inc, .int .i64 4, .bool n.gate], .int .i64 by_] w fun r w' => SyR w w' r base (lvS n) v4 v5 sD sP sO := by
 obtain ⟨a1, c1, rfl, hc1⟩ := own_slice hN.t
 obtain ⟨a2, c2, rfl, hc2⟩ := own_slice hN.c
 obtain ⟨a3, c3, rfl, hc3⟩ := own_slice hN.d.row
 obtain ⟨j, hfj, hj, hTj⟩ := ok.at
 have hput : ∀ u, Below w.heap.size w u → Calls Tryz.prog 191 #[.slice a1 n.T.length c1, .agg #[.int .i64 n.me, .int .i64 n.inc, .int .i64 4, .bool n.gate]] u fun e w' => ∃ a' c', e = .returned (.tuple #[.slice a' (lvS n).T.length c', .bool true]) ∧ w'.ownsRow w.heap.size 96 4 (.slice a' (lvS n).T.length c') (lvS n).T.length (rv (fv (tF (lvS n).T)) ((lvS n).T.length * 4)) ∧ Below u.heap.size u w' := fun u k => by
  obtain ⟨b, off, rfl, hbl, hf⟩ := ((NdIn.f hN.toR : FSl w a1 n.T.length (tF n.T)).below k) (by omega)
  have q := l3put_any b off n.T.length c1 (tF n.T) (lvF n) u hf hbl hc1 hN.ht (tok_all ok.tk).2
  rw [show seqF (tF n.T) n.T.length = n.T from seqF_getD_self n.T, ok.new] at q
  refine q.mono (fun e w' ⟨v', c', n', q1, q2, q3, q4⟩ => ?_)
  subst q2
  rcases q3 with ⟨_, _, _, q5⟩ | q5
  ·have z := tget_tput (f := lvF n) ok.asc n.me
   rw [q5, ok.get, if_pos ⟨rfl, ok.new⟩] at z
   simp [lvF] at z
  ·rw [fl_rv] at q5
   exact ⟨v', c', q1, own_mono k.size q5, q4⟩
 have hfin : ∀ u, Below w.heap.size w u → Calls Tryz.prog 71 #[.slice a1 n.T.length c1, .int .i64 n.me] u fun e w' => e = .returned (.int .i64 (j : Int)) ∧ Below u.heap.size u w' := fun u k => by
  have q := sfind_any a1 n.T.length c1 (tF n.T) n.me u ((NdIn.f hN.toR : FSl w a1 n.T.length (tF n.T)).below k) hN.ht
  rw [hfj] at q
  exact q
 have hcas : ∀ u, Below w.heap.size w u → Calls Tryz.prog 192 #[.slice a2 n.C.length c2, .agg #[.int .i64 n.me, .int .i64 n.inc, .int .i64 4, .bool n.gate]] u fun e w' => ∃ a' c', e = .returned (.slice a' (lvS n).C.length c') ∧ w'.ownsRow base 127 5 (.slice a' (lvS n).C.length c') (lvS n).C.length (rv (tv (cF (lvS n).C)) ((lvS n).C.length * 5)) ∧ Below u.heap.size u w' := fun u k => by
  have q := I.l5_any base a2 n.C.length c2 (cF n.C) (lvF n) u ((NdIn.i hN.toR : TSl w a2 n.C.length (cF n.C)).below k) hc2 hN.hc (I.tok_all ok.ck).2 (by rw [seqI_self, il_rv]; exact own_below hN.c k) (Nat.le_trans hb k.size)
  rw [seqI_self, il_rv] at q
  exact q.mono (fun e w' ⟨a', m, c', q1, _, q2, q3, q4⟩ => by subst q2; exact ⟨a', c', q1, q3, q4⟩)
 have hdb : ∀ (x1 x2 : Value) u, Below w.heap.size w u → Calls Tryz.prog 193 #[.agg (ndC (lvS n) x1 x2 (.slice a3 n.D.length c3) v4 v5).toArray, .agg #[.int .i64 n.me, .int .i64 n.inc, .int .i64 4, .bool n.gate], .int .i64 by_] u fun r w' => DbR u w' r n.D (fun j => aOf (sD j)) (fun j => kOf (sD j)) := fun x1 x2 u k =>
  sdoubt_any (lvS n) x1 x2 v4 v5 a3 c3 _ _ n.inc by_ n.gate u ((hN.below k).d.sl_of) hN.hd ok.db
 have hsD : rv (dR n.D fun j => .slice (aOf (sD j)) (dN n.D j) (kOf (sD j))) (n.D.length * 4) = rv (dR n.D sD) (n.D.length * 4) := rv_congr fun i hi => by
  have q : ∀ k, k < n.D.length → .slice (aOf (sD k)) (dN n.D k) (kOf (sD k)) = sD k := fun k hk => (own_sl (hN.d.nest k hk)).symm
  unfold dR
  dsimp only
  rw [q (i / 4) (by omega)]
 obtain ⟨g1, rfl, cj1, cj2⟩ : ∃ g, a1 = some ⟨g, 0, none⟩ ∧ w.cell? ⟨g, j * 4 + 1, none⟩ = some (.int .i64 n.inc) ∧ w.cell? ⟨g, j * 4 + 2, none⟩ = some (.int .i64 1) := by
  rcases own_cases hN.t with ⟨_, e⟩ | ⟨g, c, e, _⟩
  ·omega
  ·obtain ⟨e1, rfl⟩ : a1 = some ⟨g, 0, none⟩ ∧ c1 = c := by simpa using e
   subst e1
   obtain ⟨b, off, e2, _, hf⟩ := (NdIn.f hN.toR : FSl w (some ⟨g, 0, none⟩) n.T.length (tF n.T)) (by omega)
   obtain ⟨rfl, rfl⟩ : g = b ∧ 0 = off := by simpa using e2
   obtain ⟨_, q1, q2, _⟩ := hf j hj
   have e3 : tF n.T j = ⟨n.me, n.inc, 1, n.gate⟩ := hTj
   rw [e3] at q1 q2
   exact ⟨g, rfl, by simpa using q1, by simpa using q2⟩
 have i0 : (0 : Int) ≤ (j : Int) := by omega
 have i1 : (j : Int) < (n.T.length : Int) := by omega
 have hlT : (lvS n).T.length ≤ 1048576 := Nat.le_trans ok.len (by omega)
 have hlC : (lvS n).C.length ≤ 1048576 := Nat.le_trans ok.lenC (by omega)
 have hne : (lvS n).T.length ≠ 0 := tput_ne _ _
 have hneC : (lvS n).C.length ≠ 0 := by
  show (I.tput n.C (I.tIt (lvF n))).length ≠ 0
  cases n.C with
  | nil => simp [I.tput]
  | cons g r => unfold I.tput; split; simp; split; split <;> simp; simp
 have hvL := hN.one
 clear hTj hfj ok
 obtain ⟨me, hme⟩ : ∃ l, Hid (n.me = l) := ⟨_, rfl⟩
 obtain ⟨inc, hinc⟩ : ∃ l, Hid (n.inc = l) := ⟨_, rfl⟩
 obtain ⟨gate, hgate⟩ : ∃ l, Hid (n.gate = l) := ⟨_, rfl⟩
 rw [hme.out, hinc.out, hgate.out] at hput hcas hdb ⊢
 rw [hme.out] at hfin
 rw [hinc.out] at cj1
 clear hme hinc hgate
 have hx : ∃ xs, Hid (ndC n (.slice (some ⟨g1, 0, none⟩) n.T.length c1) (.slice a2 n.C.length c2) (.slice a3 n.D.length c3) v4 v5 = xs) := ⟨_, rfl⟩
 obtain ⟨xs, hxs⟩ := hx
 rw [hxs.out]
 go_enter Tryz.func124, Tryz.ntmps124
 go_upto_region 1 with fail
 generalize hu : ((w.alloc (.cells _ _)).alloc (.cells _ _)).alloc (.cells _ _) = u
 obtain ⟨X, F, R, b0, hs, ty, tyR⟩ := box3 hu
 clear hu
 obtain ⟨KX, hKX⟩ : ∃ K, Hid (w.heap.size = K) := ⟨_, rfl⟩
 have g0 : w.heap.size ≤ KX := Nat.le_of_eq hKX.out
 rw [hKX.out] at X F R ty tyR ⊢
 obtain ⟨zs, hz21, R⟩ : ∃ zs, zs.length = 21 ∧ Ws u (KX + 1 + 1) zs := ⟨_, rfl, R⟩
 replace X : Ws u KX (ndC n (.slice (some ⟨g1, 0, none⟩) n.T.length c1) (.slice a2 n.C.length c2) (.slice a3 n.D.length c3) v4 v5) := by rw [hxs.out]; simpa using X
 replace F : Ws u (KX + 1) [.int .i64 me, .int .i64 inc, .int .i64 4, .bool gate] := F
 clear hs hKX
 have xf := F.range
 have d8 : u.cell? ⟨KX, 8, none⟩ = some (.slice (some ⟨g1, 0, none⟩) n.T.length c1) := X.c 8 _ rfl
 refine wp_region_w0 (fun _ => False) s124_1 t124_1 (fun hbq => ?_)
 refine mY ?_
 refine mL (hS := id) ?_
 refine mR (hS := id) ?_
 refine mX (hput _ (btrans b0 hbq.no)) hbq ?_
 rintro r w1 ⟨a8, c8, rfl, o1, k1⟩
 refine ⟨_, rfl, Mw.of_below k1, fun hbq => ?_⟩
 simp only [putQ]
 iterate 5 refine mY ?_
 refine mE ?_
 replace X := X.below k1
 replace ty := ty.below k1
 replace tyR := tyR.below k1
 replace F := F.below k1
 replace R := R.below k1
 replace b0 := btrans b0 k1
 clear xf d8 hbq k1
 go_upto_region 4 with fail
 have d8 : w1.cell? ⟨KX, 8, none⟩ = some (.slice (some ⟨g1, 0, none⟩) n.T.length c1) := X.c 8 _ rfl
 have f0 := F.c 0 (.int .i64 me) rfl
 refine wp_region_w0 (fun _ => False) s124_4 t124_4 (fun hbq => ?_)
 refine mY ?_
 refine mL (hS := id) ?_
 refine mY ?_
 refine mL (hS := id) ?_
 refine mK (hfin _ (btrans b0 hbq.no)) hbq (fun w2 hbq => ?_)
 refine mY ?_
 refine mE ?_
 replace X := X.below hbq.no
 replace ty := ty.below hbq.no
 replace tyR := tyR.below hbq.no
 replace F := F.below hbq.no
 replace R := R.below hbq.no
 replace o1 := own_below o1 hbq.no
 replace b0 := btrans b0 hbq.no
 clear d8 f0 hbq
 have d8 : w2.cell? ⟨KX, 8, none⟩ = some (.slice (some ⟨g1, 0, none⟩) n.T.length c1) := X.c 8 _ rfl
 have f1 := F.c 1 (.int .i64 inc) rfl
 have f2 := F.c 2 (.int .i64 4) rfl
 have t1 := keep_below b0 cj1
 have t2 := keep_below b0 cj2
 go_upto_region 5 with fail
 refine wp_region_w (fun _ => False) s124_5 t124_5 (fun hbq => ?_)
 refine mY ?_
 refine mV (.bool true) ?_
 iterate 2 refine mY ?_
 refine mL (hS := id) ?_
 iterate 3 refine mY ?_
 refine mL (hS := id) ?_
 refine mY ?_
 refine mL (hS := id) ?_
 refine mV (.bool true) ?_
 iterate 3 refine mY ?_
 refine mL (hS := id) ?_
 iterate 3 refine mY ?_
 refine mL (hS := id) ?_
 refine mY ?_
 refine mL (hS := id) ?_
 refine mV (.bool false) ?_
 iterate 2 refine mY ?_
 refine mE ?_
 replace X := X.below hbq.no
 replace ty := ty.below hbq.no
 replace tyR := tyR.below hbq.no
 replace F := F.below hbq.no
 replace R := R.below hbq.no
 replace o1 := own_below o1 hbq.no
 replace b0 := btrans b0 hbq.no
 clear d8 f1 f2 t1 t2 hbq i0 i1 cj1 cj2
 generalize w2.drew = w3 at *
 have y8 := X.c 8 (.slice (some ⟨g1, 0, none⟩) n.T.length c1) rfl
 have z8 := X.z 8
 go_upto_region 7 with fail
 clear y8 z8
 have m_ : Mw (fun y => y = KX) w3 (w3.setCell ⟨KX, 8, none⟩ (.slice a8 (lvS n).T.length c8)) := (Mw.refl _ _).set rfl
 replace X : Ws (w3.setCell ⟨KX, 8, none⟩ (.slice a8 (lvS n).T.length c8)) KX (ndC (lvS n) (.slice a8 (lvS n).T.length c8) (.slice a2 n.C.length c2) (.slice a3 n.D.length c3) v4 v5) := X.set 8 (by simp [ndC]) (.slice a8 (lvS n).T.length c8)
 replace F := F.mw m_ (show ¬ KX + 1 = KX by omega)
 replace R := R.mw m_ (show ¬ KX + 1 + 1 = KX by omega)
 replace o1 := own_mw o1 m_ (own_boxT o1 ty (by decide))
 replace ty := ty.set (o := 8) (v := .slice a8 (lvS n).T.length c8)
 replace tyR := tyR.mw m_ (show ¬ KX + 1 + 1 = KX by omega)
 replace b0 := m_.below b0 (fun i e => by omega)
 clear m_
 generalize w3.setCell ⟨KX, 8, none⟩ (.slice a8 (lvS n).T.length c8) = w4 at *
 have xf := F.range
 refine wp_region_w0 (fun x => x = KX) s124_7 t124_7 (fun hbq => ?_)
 refine mY ?_
 refine mC (fun K2 hK2 => ?_)
 have y_ := X.c 9 (.slice a2 n.C.length c2) rfl
 go_simp
 refine hK2.out _ _ hbq (.inl ?_)
 clear hK2 K2 y_
 try simp only [putQ]
 refine mR (hS := show ¬ KX + 1 = KX by omega) ?_
 refine mX (hcas _ b0) hbq ?_
 rintro r w5 ⟨a9, c9, rfl, o2, k1⟩
 replace X := X.below k1
 replace F := F.below k1
 replace R := R.below k1
 replace ty := ty.below k1
 replace tyR := tyR.below k1
 replace o1 := own_below o1 k1
 replace b0 := btrans b0 k1
 refine ⟨_, rfl, Mw.of_below k1, fun hbq => ?_⟩
 simp only [putQ]
 refine mY ?_
 refine mC (fun K2 hK2 => ?_)
 have y_ := X.c 9 (.slice a2 n.C.length c2) rfl
 have z_ := X.z 9
 go_simp
 refine hK2.out _ _ (hbq.set rfl) (.inl ?_)
 clear hK2 K2 y_ z_
 try simp only [putQ]
 refine mE ?_
 clear hbq
 have m_ : Mw (fun y => y = KX) w5 (w5.setCell ⟨KX, 9, none⟩ (.slice a9 (lvS n).C.length c9)) := (Mw.refl _ _).set rfl
 replace X : Ws (w5.setCell ⟨KX, 9, none⟩ (.slice a9 (lvS n).C.length c9)) KX (ndC (lvS n) (.slice a8 (lvS n).T.length c8) (.slice a9 (lvS n).C.length c9) (.slice a3 n.D.length c3) v4 v5) := X.set 9 (by simp [ndC]) (.slice a9 (lvS n).C.length c9)
 replace F := F.mw m_ (show ¬ KX + 1 = KX by omega)
 replace R := R.mw m_ (show ¬ KX + 1 + 1 = KX by omega)
 replace o1 := own_mw o1 m_ (own_boxT o1 ty (by decide))
 replace o2 := own_mw o2 m_ (own_boxT o2 ty (by decide))
 replace ty := ty.set (o := 9) (v := .slice a9 (lvS n).C.length c9)
 replace tyR := tyR.mw m_ (show ¬ KX + 1 + 1 = KX by omega)
 replace b0 := m_.below b0 (fun i e => by omega)
 clear m_
 generalize w5.setCell ⟨KX, 9, none⟩ (.slice a9 (lvS n).C.length c9) = w6 at *
 go_upto_region 9 with fail
 have xf := F.range
 refine wp_region_w0 (fun x => x = KX) s124_9 t124_9 (fun hbq => ?_)
 refine mLD (xs := ndC (lvS n) (.slice a8 (lvS n).T.length c8) (.slice a9 (lvS n).C.length c9) (.slice a3 n.D.length c3) v4 v5) X.range rfl hbq ?_
 refine mR (hS := show ¬ KX + 1 = KX by omega) ?_
 refine mY ?_
 refine mX (hdb _ _ _ b0) hbq ?_
 rintro r w7 ⟨v, rfl, o3, k1⟩
 obtain ⟨a10, c10, rfl, _⟩ := own_slice o3
 replace o3 := own_mono b0.size o3
 rw [hsD] at o3
 replace X := X.below k1
 replace F := F.below k1
 replace R := R.below k1
 replace ty := ty.below k1
 replace tyR := tyR.below k1
 replace o1 := own_below o1 k1
 replace o2 := own_below o2 k1
 replace b0 := btrans b0 k1
 refine ⟨_, rfl, Mw.of_below k1, fun hbq => ?_⟩
 simp only [putQ]
 refine mY ?_
 refine mC (fun K2 hK2 => ?_)
 have y_ := X.c 14 (.slice a3 n.D.length c3) rfl
 have z_ := X.z 14
 go_simp
 refine hK2.out _ _ (hbq.set rfl) (.inl ?_)
 clear hK2 K2 y_ z_
 try simp only [putQ]
 refine mE ?_
 clear hbq
 have m_ : Mw (fun y => y = KX) w7 (w7.setCell ⟨KX, 14, none⟩ (.slice a10 n.D.length c10)) := (Mw.refl _ _).set rfl
 replace X : Ws (w7.setCell ⟨KX, 14, none⟩ (.slice a10 n.D.length c10)) KX (ndC (lvS n) (.slice a8 (lvS n).T.length c8) (.slice a9 (lvS n).C.length c9) (.slice a10 n.D.length c10) v4 v5) := X.set 14 (by simp [ndC]) (.slice a10 n.D.length c10)
 replace F := F.mw m_ (show ¬ KX + 1 = KX by omega)
 replace R := R.mw m_ (show ¬ KX + 1 + 1 = KX by omega)
 replace o1 := own_mw o1 m_ (own_boxT o1 ty (by decide))
 replace o2 := own_mw o2 m_ (own_boxT o2 ty (by decide))
 replace o3 := own_mw o3 m_ (own_boxT o3 ty (by decide))
 replace ty := ty.set (o := 14) (v := .slice a10 n.D.length c10)
 replace tyR := tyR.mw m_ (show ¬ KX + 1 + 1 = KX by omega)
 replace b0 := m_.below b0 (fun i e => by omega)
 clear m_
 generalize w7.setCell ⟨KX, 14, none⟩ (.slice a10 n.D.length c10) = w8 at *
 go_upto_region 10 with fail
 refine wp_region_w0 (fun x => x = KX + 1 + 1) s124_10 t124_10 (fun hbq => ?_)
 refine mR (xs := ndC (lvS n) (.slice a8 (lvS n).T.length c8) (.slice a9 (lvS n).C.length c9) (.slice a10 n.D.length c10) v4 v5) (hr := X.range) (hS := show ¬ KX = KX + 1 + 1 by omega) ?_
 refine mST (xs := ndC (lvS n) (.slice a8 (lvS n).T.length c8) (.slice a9 (lvS n).C.length c9) (.slice a10 n.D.length c10) v4 v5) R hz21 rfl (ndC_one rfl rfl rfl (sl_one (own_sl hN.p.row)) (sl_one (own_sl hN.o.row))) rfl hbq (fun W R m hbq => ?_)
 refine mE ?_
 have b9 := m.below b0 (fun i e => by omega)
 have hr := read_nd R rfl
 have p1 := own_mw o1 m (own_boxT o1 tyR (by decide))
 have p2 := own_mw o2 m (own_boxT o2 tyR (by decide))
 have p3 := own_mw o3 m (own_boxT o3 tyR (by decide))
 have hM := hN.below b9
 have fin : SyR w W (.returned (.agg (ndC (lvS n) (.slice a8 (lvS n).T.length c8) (.slice a9 (lvS n).C.length c9) (.slice a10 n.D.length c10) v4 v5).toArray)) base (lvS n) v4 v5 sD sP sO :=
  ⟨_, _, _, rfl, ⟨own_mono hb p1, p2, ⟨own_mono hb p3, hM.d.at_, hM.d.nest, hM.d.apart⟩, hM.p, hM.o, hM.dp, fun j hj x e1 e2 => by
   have q1 := (p1.lt x e1).1
   have q2 := (hN.lo x (.inr (.inr (.inr (.inr (.inr ⟨j, hj, e2⟩)))))).2
   omega, hlT, hlC, hM.hd, hM.hp, hM.ho, hM.hdn, hM.hpn, hM.hon⟩, b9⟩
 clear R b0 m hbq p1 p2 p3 hM o1 o2 o3 X F ty tyR hN hput hfin hcas hdb xf
 go_wp2
 try simp only [Exit.inBlock, Exit.then]
 refine bodyPost_ret (v := .agg (ndC (lvS n) (.slice a8 (lvS n).T.length c8) (.slice a9 (lvS n).C.length c9) (.slice a10 n.D.length c10) v4 v5).toArray) ?_ rfl fin
 simp only [results, Tryz.results124]
 simp [asAddr, hr]
end Go.Proofs.YtgcdcfjaeehnbaaGreat
