/- Nodes: at every node NodeOk answers as its model does. -/
import Derived.Test.YtgcdcfjaeehnbaaGreatNd25
import Derived.Test.YtgcdcfjaeehnbaaGreatNd24
import Derived.Test.YtgcdcfjaeehnbaaGreatNb
import Derived.Test.YtgcdcfjaeehnbaaGreatNd40
namespace Go.Proofs.YtgcdcfjaeehnbaaGreat
open Go.ChangeShapes Go.WideShapes Go.ChangeAt Go.RowKit
attribute [local go_sem ↓] Go.wp_at_zero Go.wp_at_succ
theorem DtEq.symm' {x y z : Dt} (h : DtEq x z) (h' : DtEq y z) : DtEq x y := by
 obtain ⟨a0, a1, a2, a3, a4⟩ := h
 obtain ⟨b0, b1, b2, b3, b4⟩ := h'
 exact ⟨a0.trans b0.symm, a1.trans b1.symm, a2.trans b2.symm, a3.trans b3.symm, a4.trans b4.symm⟩
theorem PlEq.symm' {x y z : Pl} (h : PlEq x z) (h' : PlEq y z) : PlEq x y := by
 obtain ⟨a0, a1, a2, a3, a4, a5, a6⟩ := h
 obtain ⟨b0, b1, b2, b3, b4, b5, b6⟩ := h'
 exact ⟨a0.trans b0.symm, a1.trans b1.symm, a2.trans b2.symm, a3.trans b3.symm, a4.trans b4.symm, a5.trans b5.symm, a6.trans b6.symm⟩
theorem FgEq.symm' {x y z : Fg} (h : FgEq x z) (h' : FgEq y z) : FgEq x y := by
 obtain ⟨a0, a1, a2⟩ := h
 obtain ⟨b0, b1, b2⟩ := h'
 exact ⟨a0.trans b0.symm, a1.trans b1.symm, a2.trans b2.symm⟩
theorem row32 : ∃ d, Tryz.prog.underlying 32 = some d ∧ d.isRow = true := by
 have h : (Tryz.prog.underlying 32).map TypeDesc.isRow = some true := by kernel_rfl
 cases e : Tryz.prog.underlying 32 with
 | none => rw [e] at h; cases h
 | some d => rw [e] at h; exact ⟨d, rfl, by simpa using h⟩
theorem size32 : (Tryz.prog.info? 32).map (·.size) = some 21 := by kernel_rfl
theorem load32L {ops : Array Oper} {rest : List Oper} {op : Oper} {a : Act} {w : World} {Q : Exit → Act → World → Prop} (hw : Region.wanted op (yielded ops a.tmps) = true) (x : Operand) (ho : op.op = .load 32 x) (b : Nat) (hx : a.eval x = .pointer (some ⟨b, 0, none⟩)) (xs : List Value) (hS : w.rangeAt b 0 xs) (hn : xs.length = 21)
  (h : wpList Tryz.prog ops Q rest (a.put op.dst (.agg xs.toArray)) w) : wpList Tryz.prog ops Q (op :: rest) a w := by
 obtain ⟨d, hu, hd⟩ := row32
 unfold wpList
 rw [if_pos hw]
 exact Or.inl (wp_load_mid 32 x ho b 0 hx xs d hS hu hd (hn ▸ size32) h)
def s32_1 : List Stp := [⟨some 13, .move (.tmp 1), 3, none, 0⟩, ⟨some 14, .fieldAddr 42 (.tmp 6) 0, 0, none, 0⟩, ⟨some 15, .load 3 (.tmp 14), 3, none, 0⟩, ⟨some 16, .move (.tmp 2), 3, none, 0⟩, ⟨some 17, .move (.tmp 3), 3, none, 0⟩, ⟨some 18, .move (.tmp 4), 3, none, 0⟩, ⟨some 19, .fieldAddr 42 (.tmp 6) 12, 0, none, 0⟩, ⟨some 20, .load 38 (.tmp 19), 38, none, 0⟩, ⟨some 22, .move (.tmp 5), 34, none, 0⟩, ⟨some 21, .buildSlice 34 0 #[], 34, none, 1⟩, ⟨some 23, .call { callee := .builtin .append, args := #[.tmp 21, .tmp 22], argTypes := #[34, 34] }, 34, none, 1⟩, ⟨some 24, .build 88 #[(0, .const (.int .i64 1)), (1, .tmp 13), (2, .tmp 15), (3, .tmp 16), (4, .tmp 17), (5, .tmp 18), (6, .tmp 20), (7, .tmp 23)], 88, none, 0⟩, ⟨none, .store 88 (.tmp 12) (.tmp 24), 0, none, 1⟩]
def t32_1 : List (Nat × Nat) := [(0, 0), (1, 0), (2, 0), (3, 0), (4, 0), (5, 0), (6, 0), (7, 0), (9, 0), (8, 1), (10, 1), (11, 0), (12, 1)]
set_option maxRecDepth 20000 in
set_option maxHeartbeats 8000000 in
theorem sword_any (n : Nod) (L : Loc) (k to_ sq_ ab : Int) (sv : Value) (fs : List Fc) (w : World) (hs : Src w sv fs.length (fs.length * 4) (fv (tF fs))) (hm : fs.length ≤ 1048576) :
    Calls Tryz.prog 126 #[ndV n L, .int .i64 k, .int .i64 to_, .int .i64 sq_, .int .i64 ab, sv] w fun r w' => FwR w w' r ⟨1, k, n.me, to_, sq_, ab, n.cx, n.cy, n.ch, n.ce, fs⟩ := by
  obtain ⟨me, up, gone, gate, inc, now, sq, turn, T, C, pn, ps, pq, pa, D, cx, cy, ch, ce, P, O⟩ := n
  obtain ⟨ta, tc, ca, cc, da, dc, dA, dC, pla, plc, pA, pC, oa, oc, oA, oC⟩ := L
  unfold ndV
  dsimp only
  obtain ⟨ti, hi, hz0, hz1, hz2⟩ := info_parts infF
  obtain ⟨fk, hfk⟩ : ∃ f, Hid (fv (tF fs) = f) := ⟨_, rfl⟩
  have hone : ∀ j, j < fs.length * 4 → (fk j).oneCell' = true := fun j _ => by rw [← hfk.out]; exact fv_one _ j
  rw [hfk.out] at hs
  obtain ⟨u, hu, X, R, b0, hs2⟩ := enter2 w #[.int .i64 me, .bool up, .bool gone, .bool gate, .int .i64 inc, .int .i64 now, .int .i64 sq, .int .i64 turn, .slice ta T.length tc, .slice ca C.length cc, .int .i64 pn, .int .i64 ps, .int .i64 pq, .bool pa, .slice da D.length dc, .int .i64 cx, .int .i64 cy, .int .i64 ch, .int .i64 ce, .slice pla P.length plc, .slice oa O.length oc] 42 #[.int .i64 0, .int .i64 0, .int .i64 0, .int .i64 0, .int .i64 0, .int .i64 0, .int .i64 0, .int .i64 0, .int .i64 0, .int .i64 0, .slice none 0 0] 88
  go_enter Tryz.func126, Tryz.ntmps126
  go_upto_region 1 with fail
  rw [← hu.out]
  clear hu
  obtain ⟨KX, hKX⟩ : ∃ K, Hid (w.heap.size = K) := ⟨_, rfl⟩
  have g1 : w.heap.size ≤ KX + 1 := by have := hKX.out; omega
  rw [hKX.out] at X R
  rw [hKX.out]
  clear hs2
  have d0 := X.c 0 (.int .i64 me) rfl
  have r38 : u.rangeAt KX 15 [.int .i64 cx, .int .i64 cy, .int .i64 ch, .int .i64 ce] := range4 (X.c 15 _ rfl) (X.c 16 _ rfl) (X.c 17 _ rfl) (X.c 18 _ rfl)
  have nX : KX ≠ KX + 1 := by omega
  have hR := R.lt
  have bd : Below w.heap.size w u.drew := ⟨b0.os, b0.tape, b0.output, b0.size, b0.block⟩
  refine wp_region_w (fun x => x = KX + 1) s32_1 t32_1 (fun hbq => ?_)
  refine mY ?_
  refine mY ?_
  refine mL ?_
  refine mY ?_
  refine mY ?_
  refine mY ?_
  refine mY ?_
  refine mR ?_
  refine mY ?_
  refine mC (fun K hK => ?_)
  go_simp
  have kA := balloc (.cells #[] 96) (Below.refl u.drew.heap.size u.drew)
  refine hK.out _ _ (hbq.trans (Mw.of_below kA)) (.inl ?_)
  clear hK K
  try simp only [putQ]
  refine mC (fun K hK => ?_)
  refine wp_append_src _ _ 34 rfl u.heap.size 96 ti (.agg #[.int .i64 0, .int .i64 0, .int .i64 0, .bool false]) 4 32 Tryz.underlying34 hi hz0 hz1 hz2 rfl (by decide) _ 0 [] rfl (own_empty (w := u.drew)) sv fs.length fk rfl (hs.below (btrans bd kA)) hone (by unfold maxLen; omega) (by omega) kA.size ?_
  intro v w1 o1 gr
  have k1 : Below u.drew.heap.size u.drew w1 := kA.grown gr kA.size (fun k hk => by simp [Act.eval, Value.ownBlock] at hk; have : u.drew.heap.size = u.heap.size := rfl; omega)
  replace o1 : w1.ownsRow u.heap.size 96 4 v fs.length (rv (fv (tF fs)) (fs.length * 4)) := by rw [hfk.out]; simpa using o1
  obtain ⟨af, cf, rfl, _⟩ := own_slice o1
  refine hK.out _ _ (hbq.trans (Mw.of_below k1)) (.inl ?_)
  clear hK K
  try simp only [putQ]
  refine mY ?_
  have hth : w1.there (KX + 1) 0 11 := (R.below (⟨k1.os, k1.tape, k1.output, k1.size, k1.block⟩ : Below u.heap.size u w1)).there rfl
  refine mC (fun K hK => ?_)
  refine wp_store_mid 88 _ _ rfl (KX + 1) 0 #[.int .i64 1, .int .i64 k, .int .i64 me, .int .i64 to_, .int .i64 sq_, .int .i64 ab, .int .i64 cx, .int .i64 cy, .int .i64 ch, .int .i64 ce, .slice af fs.length cf] rfl rfl hth (by kernel_rfl) (by kernel_rfl) ?_
  refine hK.out _ _ ((hbq.trans (Mw.of_below k1)).trans (Mw.cells _)) (.inl ?_)
  clear hK K
  try simp only [putQ]
  refine mE ?_
  have hr := read67 (World.rangeAt_setCells_same w1 (KX + 1) 0 (#[.int .i64 1, .int .i64 k, .int .i64 me, .int .i64 to_, .int .i64 sq_, .int .i64 ab, .int .i64 cx, .int .i64 cy, .int .i64 ch, .int .i64 ce, .slice af fs.length cf] : Array Value).toList hth) rfl
  have b9 := below_cells (KX + 1) (#[.int .i64 1, .int .i64 k, .int .i64 me, .int .i64 to_, .int .i64 sq_, .int .i64 ab, .int .i64 cx, .int .i64 cy, .int .i64 ch, .int .i64 ce, .slice af fs.length cf] : Array Value).toList 0 w1 g1 (btrans bd k1)
  have o9 := own_mw o1 (Mw.cells (b := KX + 1) (w := w1) (#[.int .i64 1, .int .i64 k, .int .i64 me, .int .i64 to_, .int .i64 sq_, .int .i64 ab, .int .i64 cx, .int .i64 cy, .int .i64 ch, .int .i64 ce, .slice af fs.length cf] : Array Value).toList) (fun x e q => by have := (o1.lt x e).1; omega)
  replace o9 := own_mono b0.size o9
  clear o1 gr k1 kA hs hone d0 r38 X R hbq hth
  generalize w1.setCells (KX + 1) 0 (#[.int .i64 1, .int .i64 k, .int .i64 me, .int .i64 to_, .int .i64 sq_, .int .i64 ab, .int .i64 cx, .int .i64 cy, .int .i64 ch, .int .i64 ce, .slice af fs.length cf] : Array Value).toList = W4 at *
  go_wp2
  refine bodyPost_ret (v := .agg #[.int .i64 1, .int .i64 k, .int .i64 me, .int .i64 to_, .int .i64 sq_, .int .i64 ab, .int .i64 cx, .int .i64 cy, .int .i64 ch, .int .i64 ce, .slice af fs.length cf]) ?_ rfl ⟨.slice af fs.length cf, rfl, o9, b9⟩
  simp only [results, Tryz.results126]
  simp [asAddr, hr]
set_option maxHeartbeats 2000000 in
theorem eqWo_same (p k f t s q x y z e : Int) (a a' : Option Addr) (len cap cap' : Nat) (F : Nat → Fc) (w : World) (h : FSl w a len F) (h' : FSl w a' len F) (hl : len ≤ 1048576) :
    Calls Tryz.prog 53 #[.agg #[.int .i64 p, .int .i64 k, .int .i64 f, .int .i64 t, .int .i64 s, .int .i64 q, .int .i64 x, .int .i64 y, .int .i64 z, .int .i64 e, .slice a len cap], .agg #[.int .i64 p, .int .i64 k, .int .i64 f, .int .i64 t, .int .i64 s, .int .i64 q, .int .i64 x, .int .i64 y, .int .i64 z, .int .i64 e, .slice a' len cap']] w fun r w' => r = .returned (.bool true) ∧ Below w.heap.size w w' := by
  go_enter Tryz.func53, Tryz.ntmps53
  go_wp2_with fail
  have c0 : ((w.alloc (.cells #[.int .i64 p, .int .i64 k, .int .i64 f, .int .i64 t, .int .i64 s, .int .i64 q, .int .i64 x, .int .i64 y, .int .i64 z, .int .i64 e, .slice a len cap] 88)).alloc (.cells #[.int .i64 p, .int .i64 k, .int .i64 f, .int .i64 t, .int .i64 s, .int .i64 q, .int .i64 x, .int .i64 y, .int .i64 z, .int .i64 e, .slice a' len cap'] 88)).cell? ⟨w.heap.size, 10, none⟩ = some (.slice a len cap) := by simp [go_sem]
  have c1 : ((w.alloc (.cells #[.int .i64 p, .int .i64 k, .int .i64 f, .int .i64 t, .int .i64 s, .int .i64 q, .int .i64 x, .int .i64 y, .int .i64 z, .int .i64 e, .slice a len cap] 88)).alloc (.cells #[.int .i64 p, .int .i64 k, .int .i64 f, .int .i64 t, .int .i64 s, .int .i64 q, .int .i64 x, .int .i64 y, .int .i64 z, .int .i64 e, .slice a' len cap'] 88)).cell? ⟨w.heap.size + 1, 10, none⟩ = some (.slice a' len cap') := by simp [go_sem]
  have bw : Below w.heap.size w ((w.alloc (.cells #[.int .i64 p, .int .i64 k, .int .i64 f, .int .i64 t, .int .i64 s, .int .i64 q, .int .i64 x, .int .i64 y, .int .i64 z, .int .i64 e, .slice a len cap] 88)).alloc (.cells #[.int .i64 p, .int .i64 k, .int .i64 f, .int .i64 t, .int .i64 s, .int .i64 q, .int .i64 x, .int .i64 y, .int .i64 z, .int .i64 e, .slice a' len cap'] 88)) := balloc _ (balloc _ (Below.refl _ _))
  generalize ((w.alloc (.cells #[.int .i64 p, .int .i64 k, .int .i64 f, .int .i64 t, .int .i64 s, .int .i64 q, .int .i64 x, .int .i64 y, .int .i64 z, .int .i64 e, .slice a len cap] 88)).alloc (.cells #[.int .i64 p, .int .i64 k, .int .i64 f, .int .i64 t, .int .i64 s, .int .i64 q, .int .i64 x, .int .i64 y, .int .i64 z, .int .i64 e, .slice a' len cap'] 88)) = W at *
  refine (eqCoord_same _ _ _ _ _).mono ?_
  rintro r w1 ⟨rfl, b1⟩
  replace c0 := keep_below b1 c0
  replace c1 := keep_below b1 c1
  have B1 := btrans bw b1
  clear bw b1
  go_wp2_with fail
  refine (eqFactS_same a a' len cap cap' F _ (h.below B1) (h'.below B1) hl).mono ?_
  rintro r w2 ⟨rfl, b2⟩
  go_wp2
  go_ret
  exact ⟨rfl, btrans B1 b2⟩
theorem WdO.range {w : World} {base : Nat} {ws : List Wo} {g c : Nat} {sW : Nat → Value} (h : WdO w base ws (.slice (some ⟨g, 0, none⟩) ws.length c) sW) (k : Nat) (hk : k < ws.length) : w.rangeAt g (k * 11) (woC (ws.getD k Wo.zero) (sW k)) := fun j v hv => by
  have hj : j < 11 := (List.getElem?_eq_some_iff.1 hv).1
  rw [own_at h.o.row (j := k * 11 + j) (by omega), wR_at ws sW k j v hv]
def s11_6 : List Stp := [⟨some 17, .move (.tmp 0), 43, none, 0⟩, ⟨some 18, .move (.tmp 5), 3, none, 0⟩, ⟨some 19, .indexAddr 43 (.tmp 17) (.tmp 18), 0, none, 0⟩, ⟨some 20, .load 88 (.tmp 19), 88, none, 0⟩, ⟨some 21, .move (.tmp 1), 43, none, 0⟩, ⟨some 22, .move (.tmp 5), 3, none, 0⟩, ⟨some 23, .indexAddr 43 (.tmp 21) (.tmp 22), 0, none, 0⟩, ⟨some 24, .load 88 (.tmp 23), 88, none, 0⟩, ⟨some 25, .call { callee := .value (.func 53), args := #[.tmp 20, .tmp 24], argTypes := #[88, 88] }, 4, none, 1⟩, ⟨some 26, .unOp .not 4 (.tmp 25), 4, none, 0⟩]
def t11_6 : List (Nat × Nat) := [(0, 0), (1, 0), (2, 0), (3, 0), (4, 0), (5, 0), (6, 0), (7, 0), (8, 1), (9, 0)]
set_option maxRecDepth 20000 in
set_option maxHeartbeats 8000000 in
theorem eqWs_same (base base' : Nat) (ws : List Wo) (vw vw' : Value) (sW sW' : Nat → Value) (w : World) (h : WdO w base ws vw sW) (h' : WdO w base' ws vw' sW') :
    Calls Tryz.prog 11 #[vw, vw'] w fun r w' => r = .returned (.bool true) ∧ Below w.heap.size w w' := by
  obtain ⟨a, c, rfl, _⟩ := own_slice h.o.row
  obtain ⟨a', c', rfl, _⟩ := own_slice h'.o.row
  have hl := h.h
  go_enter Tryz.func11, Tryz.ntmps11
  go_wp2
  go_loopw [5] (fun i wr => ∃ k : Nat, k ≤ ws.length ∧ i = .int .i64 k ∧ Below w.heap.size w wr) (fun i _ => ws.length - (intOf i).toNat)
  case atStart => exact ⟨0, Nat.zero_le _, rfl, Below.refl _ _⟩
  case round =>
    obtain ⟨k, hk, rfl, b0⟩ := hrel
    by_cases hlt : k < ws.length
    · have i0 : (0 : Int) ≤ (k : Int) := by omega
      have i1 : (k : Int) < (ws.length : Int) := by omega
      have h2 := h.below b0
      have h2' := h'.below b0
      rcases own_cases h2.o.row with ⟨_, e⟩ | ⟨g, c2, e, _⟩
      · omega
      rcases own_cases h2'.o.row with ⟨_, e'⟩ | ⟨g', c2', e', _⟩
      · omega
      obtain ⟨rfl, rfl⟩ : a = some ⟨g, 0, none⟩ ∧ c = c2 := by simpa using e
      obtain ⟨rfl, rfl⟩ : a' = some ⟨g', 0, none⟩ ∧ c' = c2' := by simpa using e'
      clear e e'
      have r1 := h2.range k hlt
      have r2 := h2'.range k hlt
      have f1 := own_fsl (h2.o.nest k hlt)
      have f2 := own_fsl (h2'.o.nest k hlt)
      have s1 := own_sl (h2.o.nest k hlt)
      have s2 := own_sl (h2'.o.nest k hlt)
      have hfl : wN ws k ≤ 1048576 := h2.hn k hlt
      obtain ⟨x, hx⟩ : ∃ x, Hid (ws.getD k Wo.zero = x) := ⟨_, rfl⟩
      obtain ⟨len, hlen⟩ : ∃ n, Hid (wN ws k = n) := ⟨_, rfl⟩
      rw [hx.out] at r1 r2 f1 f2
      rw [hlen.out] at f1 f2 s1 s2 hfl
      rw [s1] at r1
      rw [s2] at r2
      clear s1 s2 h2 h2' hx hlen
      obtain ⟨x0, x1, x2, x3, x4, x5, x6, x7, x8, x9, fs⟩ := x
      dsimp only at f1 f2
      unfold woC at r1 r2
      dsimp only at r1 r2
      generalize aOf (sW k) = a1 at *
      generalize aOf (sW' k) = a2 at *
      generalize kOf (sW k) = c1 at *
      generalize kOf (sW' k) = c2 at *
      go_upto_region 6 with fail
      refine wp_region_q s11_6 t11_6 (fun hbq => ?_)
      refine qY ?_
      refine qY ?_
      refine qY ?_
      refine qR ?_
      refine qY ?_
      refine qY ?_
      refine qY ?_
      refine qR ?_
      refine qC (fun K hK => ?_)
      go_simp
      refine (eqWo_same _ _ _ _ _ _ _ _ _ _ a1 a2 len c1 c2 (tF fs) _ (f1.below hbq) (f2.below hbq) hfl).mono ?_; rintro r w5 ⟨rfl, k5⟩
      go_wp2_with fail
      refine hK.out _ _ (btrans hbq k5) (.inl ?_)
      clear hK K
      replace hbq := btrans hbq k5
      clear k5
      try simp only [putQ]
      refine qY ?_
      refine qE ?_
      have b2 := btrans b0 hbq
      clear r1 r2 f1 f2 hbq b0 hfl
      go_wp2
      go_roundw
      case rel => exact ⟨k + 1, by omega, by go_num, b2⟩
      case measure => simp [intOf]; omega
    · go_wp2
      go_ret
      exact ⟨rfl, b0⟩
theorem NdO.mono {w : World} {base base' : Nat} {n : Nod} {v1 v2 v3 v4 v5 : Value} {sD sP sO : Nat → Value} (hb : base' ≤ base) (h : NdO w base n v1 v2 v3 v4 v5 sD sP sO) : NdO w base' n v1 v2 v3 v4 v5 sD sP sO :=
  ⟨own_mono hb h.t, own_mono hb h.c, ⟨own_mono hb h.d.row, h.d.at_, fun j hj => own_mono hb (h.d.nest j hj), h.d.apart⟩, ⟨own_mono hb h.p.row, h.p.at_, fun j hj => own_mono hb (h.p.nest j hj), h.p.apart⟩, ⟨own_mono hb h.o.row, h.o.at_, fun j hj => own_mono hb (h.o.nest j hj), h.o.apart⟩, h.dp, h.tO, h.ht, h.hc, h.hd, h.hp, h.ho, h.hdn, h.hpn, h.hon⟩
theorem WdO.mono {w : World} {base base' : Nat} {ws : List Wo} {vw : Value} {sW : Nat → Value} (hb : base' ≤ base) (h : WdO w base ws vw sW) : WdO w base' ws vw sW :=
  ⟨⟨own_mono hb h.o.row, h.o.at_, fun j hj => own_mono hb (h.o.nest j hj), h.o.apart⟩, h.h, h.hn⟩
def nodZ : Nod := ⟨0, false, false, false, 0, 0, 0, 0, [], [], 0, 0, 0, false, [], 0, 0, 0, 0, [], []⟩
theorem NdO.zero (w : World) (base : Nat) : NdO w base nodZ (.slice none 0 0) (.slice none 0 0) (.slice none 0 0) (.slice none 0 0) (.slice none 0 0) (fun _ => .slice none 0 0) (fun _ => .slice none 0 0) (fun _ => .slice none 0 0) :=
  ⟨World.ownsRow_nil _ _ _ _, World.ownsRow_nil _ _ _ _, ⟨World.ownsRow_nil _ _ _ _, fun j hj => absurd hj (Nat.not_lt_zero j), fun j hj => absurd hj (Nat.not_lt_zero j), fun i _ hi => absurd hi (Nat.not_lt_zero i)⟩, ⟨World.ownsRow_nil _ _ _ _, fun j hj => absurd hj (Nat.not_lt_zero j), fun j hj => absurd hj (Nat.not_lt_zero j), fun i _ hi => absurd hi (Nat.not_lt_zero i)⟩, ⟨World.ownsRow_nil _ _ _ _, fun j hj => absurd hj (Nat.not_lt_zero j), fun j hj => absurd hj (Nat.not_lt_zero j), fun i _ hi => absurd hi (Nat.not_lt_zero i)⟩, fun i _ hi => absurd hi (Nat.not_lt_zero i), fun j hj => absurd hj (Nat.not_lt_zero j), Nat.zero_le _, Nat.zero_le _, Nat.zero_le _, Nat.zero_le _, Nat.zero_le _, fun j hj => absurd hj (Nat.not_lt_zero j), fun j hj => absurd hj (Nat.not_lt_zero j), fun j hj => absurd hj (Nat.not_lt_zero j)⟩
def NdWd (w w' : World) (r : Ending) (n : Nod) (ws : List Wo) : Prop := ∃ v1 v2 v3 v4 v5 vw sD sP sO sW, r = .returned (.tuple #[ndW n v1 v2 v3 v4 v5, vw]) ∧ NdO w' w.heap.size n v1 v2 v3 v4 v5 sD sP sO ∧ WdO w' w.heap.size ws vw sW ∧ (∀ x, bkN n v1 v2 v3 v4 v5 sD sP sO x → ¬ bkW vw ws.length sW x) ∧ Below w.heap.size w w'
theorem range_head {w : World} {b : Nat} {xs ys : List Value} (h : w.rangeAt b 0 (xs ++ ys)) : w.rangeAt b 0 xs := fun j x hx => h j x (by rw [List.getElem?_append_left (List.getElem?_eq_some_iff.1 hx).1]; exact hx)
theorem okI_lit (n : Nod) (L : Loc) (q : Bool) (hq : nodQ n = q) (w : World) (h : NdR w n L) : Calls Tryz.prog 38 #[ndV n L] w fun r w' => r = .returned (.bool q) ∧ Below w.heap.size w w' := hq ▸ okI_nod n L w h
theorem awake_lit (n : Nod) (L : Loc) (q : Bool) (hq : (n.up && !n.gone) = q) (w : World) : Calls Tryz.prog 40 #[ndV n L] w fun r w' => r = .returned (.bool q) ∧ Below w.heap.size w w' := hq ▸ awake_any n L w
theorem WdO.made {w : World} {base : Nat} (hb : base ≤ w.heap.size) : WdO (w.alloc (.cells #[] 88)) base [] (.slice (some ⟨w.heap.size, 0, none⟩) 0 0) (fun _ => .slice none 0 0) :=
 ⟨⟨own_mono hb own_empty, fun j hj => absurd hj (Nat.not_lt_zero j), fun j hj => absurd hj (Nat.not_lt_zero j), fun i _ hi => absurd hi (Nat.not_lt_zero i)⟩, Nat.zero_le _, fun j hj => absurd hj (Nat.not_lt_zero j)⟩
theorem own_lit {w : World} {size : Nat} (cs : Array Value) (e : TypeId) (hs : cs.size = 1 * size) : (w.alloc (.cells cs e)).ownsRow w.heap.size e size (.slice (some ⟨w.heap.size, 0, none⟩) 1 1) 1 cs.toList :=
 ⟨by rw [Array.length_toList, hs], .inr ⟨w.heap.size, 1, cs, rfl, Nat.le_refl _, heap_alloc_new _ _, Nat.le_refl _, by unfold maxLen; omega, hs, by rw [List.take_of_length_le]; rw [Array.length_toList, hs]; exact Nat.le_refl _⟩⟩
theorem WdO.one {w : World} {base : Nat} {x : Wo} {vf : Value} (hb : base ≤ w.heap.size) (hf : w.ownsRow base 96 4 vf x.fs.length (rv (fv (tF x.fs)) (x.fs.length * 4))) (hn : x.fs.length ≤ 1048576) : WdO (w.alloc (.cells (woC x vf).toArray 88)) base [x] (.slice (some ⟨w.heap.size, 0, none⟩) 1 1) (fun _ => vf) := by
 have e0 : ∀ j, j < 1 → ([x] : List Wo).getD j Wo.zero = x := fun j hj => by
  have : j = 0 := by omega
  subst this; rfl
 refine ⟨⟨?_, fun j _ => wR_at _ _ j 10 _ rfl, fun j hj => ?_, fun i j hi hj hij => ?_⟩, by simp, fun j hj => ?_⟩
 ·have q := own_mono hb (own_lit (w := w) (woC x vf).toArray 88 (size := 11) rfl)
  have e : ((woC x vf).toArray).toList = rv (wR [x] fun _ => vf) ([x].length * 11) := rv_ext rfl (fun j hj => by
   have := wR_at [x] (fun _ => vf) 0 j ((woC x vf)[j]) (by show (woC x vf)[j]? = _; exact List.getElem?_eq_getElem _)
   rw [Nat.zero_mul, Nat.zero_add] at this
   rw [this]
   exact List.getElem?_eq_getElem _)
  rw [e] at q
  exact q
 ·unfold wX wN
  rw [e0 j hj]
  exact own_below hf (balloc _ (Below.refl _ _))
 ·simp at hi hj
  omega
 ·unfold wN
  rw [e0 j hj]
  exact hn
theorem okS_lit (n : Nod) (L : Loc) (q : Bool) (hq : nodQ n = q) (w : World) (h : NdR w n L) : Calls Tryz.prog 28 #[ndV n L] w fun r w' => r = .returned (.bool q) ∧ Below w.heap.size w w' := hq ▸ okS_nod n L w h
def TO (w1 w2 : World) (r : Ending) (n : Nod) : Prop := ∃ L, r = .returned (ndV n L) ∧ NdR w2 n L ∧ LocF n L ∧ Below w1.heap.size w1 w2 ∧ ∀ w3, Below w2.heap.size w2 w3 → Calls Tryz.prog 12 #[ndV n L, .int .i64 1] w3 fun r w4 => (∃ z : Nat, r = .returned (.int .i64 (z : Int))) ∧ Mw (fun x => w1.heap.size ≤ x ∧ x < w2.heap.size) w3 w4
def LitA (n1 : Nod) (ws : List Wo) (w w' : World) (r : Ending) (f : Option Addr → Nat → Option Addr → Nat → Option Addr → Nat → Option Addr → Nat → Option Addr → Nat → Option Addr → Nat → Value) : Prop :=
  ∃ a1 c1 a2 c2 a3 c3 a4 c4 a5 c5 aw cw sD sP sO sW, r = .returned (f a1 c1 a2 c2 a3 c3 a4 c4 a5 c5 aw cw) ∧ NdO w' w.heap.size n1 (.slice a1 n1.T.length c1) (.slice a2 n1.C.length c2) (.slice a3 n1.D.length c3) (.slice a4 n1.P.length c4) (.slice a5 n1.O.length c5) sD sP sO ∧ WdO w' w.heap.size ws (.slice aw ws.length cw) sW ∧ (∀ x, bkN n1 (.slice a1 n1.T.length c1) (.slice a2 n1.C.length c2) (.slice a3 n1.D.length c3) (.slice a4 n1.P.length c4) (.slice a5 n1.O.length c5) sD sP sO x → ¬ bkW (.slice aw ws.length cw) ws.length sW x) ∧ Below w.heap.size w w'
theorem dL_congr {n : Nat} {G G' : Nat → Dt} (h : ∀ j, DtEq (G' j) (G j)) : dL n G' = dL n G := by
  unfold dL
  refine List.map_congr_left fun k _ => ?_
  obtain ⟨h1, h2, h3, h4, h5⟩ := h k
  rw [h1, h2, h3, h4, h5]
theorem pL_congr {n : Nat} {G G' : Nat → Pl} (h : ∀ j, PlEq (G' j) (G j)) : pL n G' = pL n G := by
  unfold pL
  refine List.map_congr_left fun k _ => ?_
  obtain ⟨h1, h2, h3, h4, h5, h6, h7⟩ := h k
  rw [h1, h2, h3, h4, h5, h6, h7]
theorem oL_congr {n : Nat} {G G' : Nat → Fg} (h : ∀ j, FgEq (G' j) (G j)) : oL n G' = oL n G := by
  unfold oL
  refine List.map_congr_left fun k _ => ?_
  obtain ⟨h1, h2, h3⟩ := h k
  rw [h1, h2, h3]
theorem to_TO (me : Int) (up gone gate : Bool) (inc now sq turn : Int) (ta : Option Addr) (tl tc : Nat) (ca : Option Addr) (cl cc : Nat) (pn ps pq : Int) (pa : Bool) (da : Option Addr) (dl dc : Nat) (cx cy ch ce : Int) (pla : Option Addr) (pll plc : Nat) (oa : Option Addr) (ol oc : Nat) (F : Nat → Fc) (GI : Nat → It) (GD : Nat → Dt) (GP : Nat → Pl) (GO : Nat → Fg) (w : World) (h : NdRaw w ta tl tc F ca cl cc GI da dl GD pla pll GP oa ol GO) (m : NdMax tl cl dl GD pll GP ol GO) :
    Calls Tryz.prog 8 #[.agg #[.int .i64 me, .bool up, .bool gone, .bool gate, .int .i64 inc, .int .i64 now, .int .i64 sq, .int .i64 turn, .slice ta tl tc, .slice ca cl cc, .int .i64 pn, .int .i64 ps, .int .i64 pq, .bool pa, .slice da dl dc, .int .i64 cx, .int .i64 cy, .int .i64 ch, .int .i64 ce, .slice pla pll plc, .slice oa ol oc]] w fun r w' => TO w w' r (nodOf me up gone gate inc now sq turn tl F cl GI pn ps pq pa dl GD cx cy ch ce pll GP ol GO) := by
  have mi := h.toIn m
  refine (toNodeM_any me up gone gate inc now sq turn ta tl tc ca cl cc pn ps pq pa da dl dc cx cy ch ce pla pll plc oa ol oc F GI GD GP GO w mi h.cf h.ci (fun j hj => (h.db j hj).2.2) (fun j hj => (h.pb j hj).2.2) (fun j hj => (h.ob j hj).2.2)).mono ?_
  rintro r w2 ⟨f1, f2, f3, f4, f5, fD, fP, fO, rfl, fN, fd, fp, fo, k⟩
  have fI := fN.toIn fd fp fo (fun j hj => (mi.db j hj).2) (fun j hj => (mi.pb j hj).2) (fun j hj => (mi.ob j hj).2) mi.hf mi.hi mi.hd mi.hp mi.ho
  have en : nodOf me up gone gate inc now sq turn tl F cl GI pn ps pq pa dl fD cx cy ch ce pll fP ol fO = nodOf me up gone gate inc now sq turn tl F cl GI pn ps pq pa dl GD cx cy ch ce pll GP ol GO := by
    unfold nodOf
    rw [dL_congr fd, pL_congr fp, oL_congr fo]
  have cn := canon me up gone gate inc now sq turn _ tl tl _ cl cl pn ps pq pa _ dl dl cx cy ch ce _ pll pll _ ol ol F GI fD fP fO fI
  have ev : ndV (nodOf me up gone gate inc now sq turn tl F cl GI pn ps pq pa dl GD cx cy ch ce pll GP ol GO) (locOf (some ⟨f1, 0, none⟩) tl (some ⟨f2, 0, none⟩) cl (some ⟨f3, 0, none⟩) dl fD (some ⟨f4, 0, none⟩) pll fP (some ⟨f5, 0, none⟩) ol fO) = .agg #[.int .i64 me, .bool up, .bool gone, .bool gate, .int .i64 inc, .int .i64 now, .int .i64 sq, .int .i64 turn, .slice (some ⟨f1, 0, none⟩) tl tl, .slice (some ⟨f2, 0, none⟩) cl cl, .int .i64 pn, .int .i64 ps, .int .i64 pq, .bool pa, .slice (some ⟨f3, 0, none⟩) dl dl, .int .i64 cx, .int .i64 cy, .int .i64 ch, .int .i64 ce, .slice (some ⟨f4, 0, none⟩) pll pll, .slice (some ⟨f5, 0, none⟩) ol ol] := by
    unfold ndV nodOf locOf
    dsimp only
    have l1 : (seqF F tl).length = tl := seqF_len F tl
    have l2 : (cL cl GI).length = cl := by simp [cL]
    have l3 : (dL dl GD).length = dl := by simp [dL]
    have l4 : (pL pll GP).length = pll := by simp [pL]
    have l5 : (oL ol GO).length = ol := by simp [oL]
    rw [l1, l2, l3, l4, l5]
  refine ⟨_, by rw [ev], by rw [← en]; exact cn, ?_, k, fun w3 hb => ?_⟩
  · refine ⟨.inr ⟨_, _, rfl⟩, .inr ⟨_, _, rfl⟩, .inr ⟨_, _, rfl⟩, fun j hj => ?_, .inr ⟨_, _, rfl⟩, fun j hj => ?_, .inr ⟨_, _, rfl⟩, fun j hj => ?_⟩
    · have hj2 : j < dl := by simpa [nodOf, dL] using hj
      obtain ⟨bb, e, _⟩ := fN.dO j hj2
      exact .inr ⟨bb, 0, e⟩
    · have hj2 : j < pll := by simpa [nodOf, pL] using hj
      obtain ⟨bb, e, _⟩ := fN.pO j hj2
      exact .inr ⟨bb, 0, e⟩
    · have hj2 : j < ol := by simpa [nodOf, oL] using hj
      obtain ⟨bb, e, _⟩ := fN.oO j hj2
      exact .inr ⟨bb, 0, e⟩
  · rw [ev]
    refine (markNode_any me up gone gate inc now sq turn pn ps pq pa cx cy ch ce tl F cl GI dl fD pll fP ol fO w.heap.size w2.heap.size f1 f2 f3 f4 f5 w3 (fN.below hb) fN.o.lt fN.oO.lt hb.size fI.hf fI.hi fI.hd fI.hp fI.ho (fun j hj => (fI.db j hj).2) (fun j hj => (fI.pb j hj).2) (fun j hj => (fI.ob j hj).2)).mono ?_
    rintro r w4 ⟨hz, M⟩
    exact ⟨hz, M.os, M.tape, M.output, M.size, fun x hx q => M.block x hx (by omega)⟩
theorem sz_HH (me : Int) (up gone gate : Bool) (inc now sq turn : Int) (ta : Option Addr) (tl tc : Nat) (ca : Option Addr) (cl cc : Nat) (pn ps pq : Int) (pa : Bool) (da : Option Addr) (dl dc : Nat) (cx cy ch ce : Int) (pla : Option Addr) (pll plc : Nat) (oa : Option Addr) (ol oc : Nat) (F : Nat → Fc) (GI : Nat → It) (GD : Nat → Dt) (GP : Nat → Pl) (GO : Nat → Fg) (w : World) (h : NdRaw w ta tl tc F ca cl cc GI da dl GD pla pll GP oa ol GO) :
    Calls Tryz.prog 6 #[.agg #[.int .i64 me, .bool up, .bool gone, .bool gate, .int .i64 inc, .int .i64 now, .int .i64 sq, .int .i64 turn, .slice ta tl tc, .slice ca cl cc, .int .i64 pn, .int .i64 ps, .int .i64 pq, .bool pa, .slice da dl dc, .int .i64 cx, .int .i64 cy, .int .i64 ch, .int .i64 ce, .slice pla pll plc, .slice oa ol oc], .int .i64 1048576] w fun r w2 => (∃ z : Int, r = .returned (.int .i64 z) ∧ (z = -1 ∨ (0 ≤ z ∧ NdMax tl cl dl GD pll GP ol GO))) ∧ Below w.heap.size w w2 :=
  (szNode_any me up gone gate inc now sq turn ta tl tc ca cl cc pn ps pq pa da dl dc cx cy ch ce pla pll plc oa ol oc F GI GD GP GO w h).mono (by
    rintro r w2 ⟨⟨z, rfl, hz⟩, k⟩
    refine ⟨⟨z, rfl, hz.imp id fun q => ⟨q.1.1, q.2⟩⟩, k⟩)
end Go.Proofs.YtgcdcfjaeehnbaaGreat
