/- Nodes: the model's words; words that are the same. -/
import Derived.Test.YtdlaenbiamknlaaGreatNb
import Derived.Test.YtdlaenbiamknlaaGreatNd27
import Derived.Test.YtdlaenbiamknlaaGreatNd40
namespace Go.Proofs.YtdlaenbiamknlaaGreat
open Go.ChangeShapes Go.WideShapes Go.ChangeAt Go.RowKit
attribute [local go_sem ↓] Go.wp_at_zero Go.wp_at_succ
def s32_1 : List Stp := [⟨some 13, .move (.tmp 1), 3, none, 0⟩, ⟨some 14, .fieldAddr 42 (.tmp 6) 0, 0, none, 0⟩, ⟨some 15, .load 3 (.tmp 14), 3, none, 0⟩, ⟨some 16, .move (.tmp 2), 3, none, 0⟩, ⟨some 17, .move (.tmp 3), 3, none, 0⟩, ⟨some 18, .move (.tmp 4), 3, none, 0⟩, ⟨some 19, .fieldAddr 42 (.tmp 6) 12, 0, none, 0⟩, ⟨some 20, .load 38 (.tmp 19), 38, none, 0⟩, ⟨some 22, .move (.tmp 5), 34, none, 0⟩, ⟨some 21, .buildSlice 34 0 #[], 34, none, 1⟩, ⟨some 23, .call { callee := .builtin .append, args := #[.tmp 21, .tmp 22], argTypes := #[34, 34] }, 34, none, 1⟩, ⟨some 24, .build 67 #[(0, .const (.int .i64 1)), (1, .tmp 13), (2, .tmp 15), (3, .tmp 16), (4, .tmp 17), (5, .tmp 18), (6, .tmp 20), (7, .tmp 23)], 67, none, 0⟩, ⟨none, .store 67 (.tmp 12) (.tmp 24), 0, none, 1⟩]
def t32_1 : List (Nat × Nat) := [(0, 0), (1, 0), (2, 0), (3, 0), (4, 0), (5, 0), (6, 0), (7, 0), (9, 0), (8, 1), (10, 1), (11, 0), (12, 1)]
set_option maxRecDepth 20000 in
set_option maxHeartbeats 8000000 in
theorem sword_any (n : Nod) (L : Loc) (k to_ sq_ ab : Int) (sv : Value) (fs : List Fc) (w : World) (hs : Src w sv fs.length (fs.length * 4) (fv (tF fs))) (hm : fs.length ≤ 1048576) :
    Calls Tryz.prog 32 #[ndV n L, .int .i64 k, .int .i64 to_, .int .i64 sq_, .int .i64 ab, sv] w fun r w' => FwR w w' r ⟨1, k, n.me, to_, sq_, ab, n.cx, n.cy, n.ch, n.ce, fs⟩ := by
  obtain ⟨me, up, gone, gate, inc, now, sq, turn, T, C, pn, ps, pq, pa, D, cx, cy, ch, ce, P, O⟩ := n
  obtain ⟨ta, tc, ca, cc, da, dc, dA, dC, pla, plc, pA, pC, oa, oc, oA, oC⟩ := L
  unfold ndV
  dsimp only
  obtain ⟨ti, hi, hz0, hz1, hz2⟩ := info_parts infF
  obtain ⟨fk, hfk⟩ : ∃ f, Hid (fv (tF fs) = f) := ⟨_, rfl⟩
  have hone : ∀ j, j < fs.length * 4 → (fk j).oneCell' = true := fun j _ => by rw [← hfk.out]; exact fv_one _ j
  rw [hfk.out] at hs
  obtain ⟨u, hu, X, R, b0, hs2⟩ := enter2 w #[.int .i64 me, .bool up, .bool gone, .bool gate, .int .i64 inc, .int .i64 now, .int .i64 sq, .int .i64 turn, .slice ta T.length tc, .slice ca C.length cc, .int .i64 pn, .int .i64 ps, .int .i64 pq, .bool pa, .slice da D.length dc, .int .i64 cx, .int .i64 cy, .int .i64 ch, .int .i64 ce, .slice pla P.length plc, .slice oa O.length oc] 42 #[.int .i64 0, .int .i64 0, .int .i64 0, .int .i64 0, .int .i64 0, .int .i64 0, .int .i64 0, .int .i64 0, .int .i64 0, .int .i64 0, .slice none 0 0] 67
  go_enter Tryz.func32, Tryz.ntmps32
  go_upto_region 1 with fail
  rw [← hu.out]
  clear hu
  obtain ⟨KX, hKX⟩ : ∃ K, Hid (w.heap.size = K) := ⟨_, rfl⟩
  have g1 : w.heap.size ≤ KX + 1 := by have := hKX.out; omega
  rw [hKX.out] at X R
  rw [hKX.out]
  clear hs2
  have d0 := X.c 0 (.int .i64 me) rfl
  have r38 : u.rangeAt KX 15 [.int .i64 cx, .int .i64 cy, .int .i64 ch, .int .i64 ce] := range4 (X.c 15 _ rfl) (X.c 16 _ rfl) (X.c 17 _ rfl) (X.c 18 _ rfl)
  have nX : KX ≠ KX + 1 := by omega
  have hR := R.lt
  have bd : Below w.heap.size w u.drew := ⟨b0.os, b0.tape, b0.output, b0.size, b0.block⟩
  refine wp_region_w (fun x => x = KX + 1) s32_1 t32_1 (fun hbq => ?_)
  refine mY ?_
  refine mY ?_
  refine mL ?_
  refine mY ?_
  refine mY ?_
  refine mY ?_
  refine mY ?_
  refine mR ?_
  refine mY ?_
  refine mC (fun K hK => ?_)
  go_simp
  have kA := balloc (.cells #[] 98) (Below.refl u.drew.heap.size u.drew)
  refine hK.out _ _ (hbq.trans (Mw.of_below kA)) (.inl ?_)
  clear hK K
  try simp only [putQ]
  refine mC (fun K hK => ?_)
  refine wp_append_src _ _ 34 rfl u.heap.size 98 ti (.agg #[.int .i64 0, .int .i64 0, .int .i64 0, .bool false]) 4 32 Tryz.underlying34 hi hz0 hz1 hz2 rfl (by decide) _ 0 [] rfl (own_empty (w := u.drew)) sv fs.length fk rfl (hs.below (btrans bd kA)) hone (by unfold maxLen; omega) (by omega) kA.size ?_
  intro v w1 o1 gr
  have k1 : Below u.drew.heap.size u.drew w1 := kA.grown gr kA.size (fun k hk => by simp [Act.eval, Value.ownBlock] at hk; have : u.drew.heap.size = u.heap.size := rfl; omega)
  replace o1 : w1.ownsRow u.heap.size 98 4 v fs.length (rv (fv (tF fs)) (fs.length * 4)) := by rw [hfk.out]; simpa using o1
  obtain ⟨af, cf, rfl, _⟩ := own_slice o1
  refine hK.out _ _ (hbq.trans (Mw.of_below k1)) (.inl ?_)
  clear hK K
  try simp only [putQ]
  refine mY ?_
  have hth : w1.there (KX + 1) 0 11 := (R.below (⟨k1.os, k1.tape, k1.output, k1.size, k1.block⟩ : Below u.heap.size u w1)).there rfl
  refine mC (fun K hK => ?_)
  refine wp_store_mid 67 _ _ rfl (KX + 1) 0 #[.int .i64 1, .int .i64 k, .int .i64 me, .int .i64 to_, .int .i64 sq_, .int .i64 ab, .int .i64 cx, .int .i64 cy, .int .i64 ch, .int .i64 ce, .slice af fs.length cf] rfl rfl hth (by kernel_rfl) (by kernel_rfl) ?_
  refine hK.out _ _ ((hbq.trans (Mw.of_below k1)).trans (Mw.cells _)) (.inl ?_)
  clear hK K
  try simp only [putQ]
  refine mE ?_
  have hr := read67 (World.rangeAt_setCells_same w1 (KX + 1) 0 (#[.int .i64 1, .int .i64 k, .int .i64 me, .int .i64 to_, .int .i64 sq_, .int .i64 ab, .int .i64 cx, .int .i64 cy, .int .i64 ch, .int .i64 ce, .slice af fs.length cf] : Array Value).toList hth) rfl
  have b9 := below_cells (KX + 1) (#[.int .i64 1, .int .i64 k, .int .i64 me, .int .i64 to_, .int .i64 sq_, .int .i64 ab, .int .i64 cx, .int .i64 cy, .int .i64 ch, .int .i64 ce, .slice af fs.length cf] : Array Value).toList 0 w1 g1 (btrans bd k1)
  have o9 := own_mw o1 (Mw.cells (b := KX + 1) (w := w1) (#[.int .i64 1, .int .i64 k, .int .i64 me, .int .i64 to_, .int .i64 sq_, .int .i64 ab, .int .i64 cx, .int .i64 cy, .int .i64 ch, .int .i64 ce, .slice af fs.length cf] : Array Value).toList) (fun x e q => by have := (o1.lt x e).1; omega)
  replace o9 := own_mono b0.size o9
  clear o1 gr k1 kA hs hone d0 r38 X R hbq hth
  generalize w1.setCells (KX + 1) 0 (#[.int .i64 1, .int .i64 k, .int .i64 me, .int .i64 to_, .int .i64 sq_, .int .i64 ab, .int .i64 cx, .int .i64 cy, .int .i64 ch, .int .i64 ce, .slice af fs.length cf] : Array Value).toList = W4 at *
  go_wp2
  refine bodyPost_ret (v := .agg #[.int .i64 1, .int .i64 k, .int .i64 me, .int .i64 to_, .int .i64 sq_, .int .i64 ab, .int .i64 cx, .int .i64 cy, .int .i64 ch, .int .i64 ce, .slice af fs.length cf]) ?_ rfl ⟨.slice af fs.length cf, rfl, o9, b9⟩
  simp only [results, Tryz.results32]
  simp [asAddr, hr]
set_option maxHeartbeats 2000000 in
theorem eqWo_same (p k f t s q x y z e : Int) (a a' : Option Addr) (len cap cap' : Nat) (F : Nat → Fc) (w : World) (h : FSl w a len F) (h' : FSl w a' len F) (hl : len ≤ 1048576) :
    Calls Tryz.prog 53 #[.agg #[.int .i64 p, .int .i64 k, .int .i64 f, .int .i64 t, .int .i64 s, .int .i64 q, .int .i64 x, .int .i64 y, .int .i64 z, .int .i64 e, .slice a len cap], .agg #[.int .i64 p, .int .i64 k, .int .i64 f, .int .i64 t, .int .i64 s, .int .i64 q, .int .i64 x, .int .i64 y, .int .i64 z, .int .i64 e, .slice a' len cap']] w fun r w' => r = .returned (.bool true) ∧ Below w.heap.size w w' := by
  go_enter Tryz.func53, Tryz.ntmps53
  go_wp2_with fail
  have c0 : ((w.alloc (.cells #[.int .i64 p, .int .i64 k, .int .i64 f, .int .i64 t, .int .i64 s, .int .i64 q, .int .i64 x, .int .i64 y, .int .i64 z, .int .i64 e, .slice a len cap] 67)).alloc (.cells #[.int .i64 p, .int .i64 k, .int .i64 f, .int .i64 t, .int .i64 s, .int .i64 q, .int .i64 x, .int .i64 y, .int .i64 z, .int .i64 e, .slice a' len cap'] 67)).cell? ⟨w.heap.size, 10, none⟩ = some (.slice a len cap) := by simp [go_sem]
  have c1 : ((w.alloc (.cells #[.int .i64 p, .int .i64 k, .int .i64 f, .int .i64 t, .int .i64 s, .int .i64 q, .int .i64 x, .int .i64 y, .int .i64 z, .int .i64 e, .slice a len cap] 67)).alloc (.cells #[.int .i64 p, .int .i64 k, .int .i64 f, .int .i64 t, .int .i64 s, .int .i64 q, .int .i64 x, .int .i64 y, .int .i64 z, .int .i64 e, .slice a' len cap'] 67)).cell? ⟨w.heap.size + 1, 10, none⟩ = some (.slice a' len cap') := by simp [go_sem]
  have bw : Below w.heap.size w ((w.alloc (.cells #[.int .i64 p, .int .i64 k, .int .i64 f, .int .i64 t, .int .i64 s, .int .i64 q, .int .i64 x, .int .i64 y, .int .i64 z, .int .i64 e, .slice a len cap] 67)).alloc (.cells #[.int .i64 p, .int .i64 k, .int .i64 f, .int .i64 t, .int .i64 s, .int .i64 q, .int .i64 x, .int .i64 y, .int .i64 z, .int .i64 e, .slice a' len cap'] 67)) := balloc _ (balloc _ (Below.refl _ _))
  generalize ((w.alloc (.cells #[.int .i64 p, .int .i64 k, .int .i64 f, .int .i64 t, .int .i64 s, .int .i64 q, .int .i64 x, .int .i64 y, .int .i64 z, .int .i64 e, .slice a len cap] 67)).alloc (.cells #[.int .i64 p, .int .i64 k, .int .i64 f, .int .i64 t, .int .i64 s, .int .i64 q, .int .i64 x, .int .i64 y, .int .i64 z, .int .i64 e, .slice a' len cap'] 67)) = W at *
  refine (eqCoord_same _ _ _ _ _).mono ?_
  rintro r w1 ⟨rfl, b1⟩
  replace c0 := keep_below b1 c0
  replace c1 := keep_below b1 c1
  have B1 := btrans bw b1
  clear bw b1
  go_wp2_with fail
  refine (eqFactS_same a a' len cap cap' F _ (h.below B1) (h'.below B1) hl).mono ?_
  rintro r w2 ⟨rfl, b2⟩
  go_wp2
  go_ret
  exact ⟨rfl, btrans B1 b2⟩
theorem WdO.range {w : World} {base : Nat} {ws : List Wo} {g c : Nat} {sW : Nat → Value} (h : WdO w base ws (.slice (some ⟨g, 0, none⟩) ws.length c) sW) (k : Nat) (hk : k < ws.length) : w.rangeAt g (k * 11) (woC (ws.getD k Wo.zero) (sW k)) := fun j v hv => by
  have hj : j < 11 := (List.getElem?_eq_some_iff.1 hv).1
  rw [own_at h.o.row (j := k * 11 + j) (by omega), wR_at ws sW k j v hv]
def s11_6 : List Stp := [⟨some 17, .move (.tmp 0), 43, none, 0⟩, ⟨some 18, .move (.tmp 5), 3, none, 0⟩, ⟨some 19, .indexAddr 43 (.tmp 17) (.tmp 18), 0, none, 0⟩, ⟨some 20, .load 67 (.tmp 19), 67, none, 0⟩, ⟨some 21, .move (.tmp 1), 43, none, 0⟩, ⟨some 22, .move (.tmp 5), 3, none, 0⟩, ⟨some 23, .indexAddr 43 (.tmp 21) (.tmp 22), 0, none, 0⟩, ⟨some 24, .load 67 (.tmp 23), 67, none, 0⟩, ⟨some 25, .call { callee := .value (.func 53), args := #[.tmp 20, .tmp 24], argTypes := #[67, 67] }, 4, none, 1⟩, ⟨some 26, .unOp .not 4 (.tmp 25), 4, none, 0⟩]
def t11_6 : List (Nat × Nat) := [(0, 0), (1, 0), (2, 0), (3, 0), (4, 0), (5, 0), (6, 0), (7, 0), (8, 1), (9, 0)]
set_option maxRecDepth 20000 in
set_option maxHeartbeats 8000000 in
theorem eqWs_same (base base' : Nat) (ws : List Wo) (vw vw' : Value) (sW sW' : Nat → Value) (w : World) (h : WdO w base ws vw sW) (h' : WdO w base' ws vw' sW') :
    Calls Tryz.prog 11 #[vw, vw'] w fun r w' => r = .returned (.bool true) ∧ Below w.heap.size w w' := by
  obtain ⟨a, c, rfl, _⟩ := own_slice h.o.row
  obtain ⟨a', c', rfl, _⟩ := own_slice h'.o.row
  have hl := h.h
  go_enter Tryz.func11, Tryz.ntmps11
  go_wp2
  go_loopw [5] (fun i wr => ∃ k : Nat, k ≤ ws.length ∧ i = .int .i64 k ∧ Below w.heap.size w wr) (fun i _ => ws.length - (intOf i).toNat)
  case atStart => exact ⟨0, Nat.zero_le _, rfl, Below.refl _ _⟩
  case round =>
    obtain ⟨k, hk, rfl, b0⟩ := hrel
    by_cases hlt : k < ws.length
    · have i0 : (0 : Int) ≤ (k : Int) := by omega
      have i1 : (k : Int) < (ws.length : Int) := by omega
      have h2 := h.below b0
      have h2' := h'.below b0
      rcases own_cases h2.o.row with ⟨_, e⟩ | ⟨g, c2, e, _⟩
      · omega
      rcases own_cases h2'.o.row with ⟨_, e'⟩ | ⟨g', c2', e', _⟩
      · omega
      obtain ⟨rfl, rfl⟩ : a = some ⟨g, 0, none⟩ ∧ c = c2 := by simpa using e
      obtain ⟨rfl, rfl⟩ : a' = some ⟨g', 0, none⟩ ∧ c' = c2' := by simpa using e'
      clear e e'
      have r1 := h2.range k hlt
      have r2 := h2'.range k hlt
      have f1 := own_fsl (h2.o.nest k hlt)
      have f2 := own_fsl (h2'.o.nest k hlt)
      have s1 := own_sl (h2.o.nest k hlt)
      have s2 := own_sl (h2'.o.nest k hlt)
      have hfl : wN ws k ≤ 1048576 := h2.hn k hlt
      obtain ⟨x, hx⟩ : ∃ x, Hid (ws.getD k Wo.zero = x) := ⟨_, rfl⟩
      obtain ⟨len, hlen⟩ : ∃ n, Hid (wN ws k = n) := ⟨_, rfl⟩
      rw [hx.out] at r1 r2 f1 f2
      rw [hlen.out] at f1 f2 s1 s2 hfl
      rw [s1] at r1
      rw [s2] at r2
      clear s1 s2 h2 h2' hx hlen
      obtain ⟨x0, x1, x2, x3, x4, x5, x6, x7, x8, x9, fs⟩ := x
      dsimp only at f1 f2
      unfold woC at r1 r2
      dsimp only at r1 r2
      generalize aOf (sW k) = a1 at *
      generalize aOf (sW' k) = a2 at *
      generalize kOf (sW k) = c1 at *
      generalize kOf (sW' k) = c2 at *
      go_upto_region 6 with fail
      refine wp_region_q s11_6 t11_6 (fun hbq => ?_)
      refine qY ?_
      refine qY ?_
      refine qY ?_
      refine qR ?_
      refine qY ?_
      refine qY ?_
      refine qY ?_
      refine qR ?_
      refine qC (fun K hK => ?_)
      go_simp
      refine (eqWo_same _ _ _ _ _ _ _ _ _ _ a1 a2 len c1 c2 (tF fs) _ (f1.below hbq) (f2.below hbq) hfl).mono ?_; rintro r w5 ⟨rfl, k5⟩
      go_wp2_with fail
      refine hK.out _ _ (btrans hbq k5) (.inl ?_)
      clear hK K
      replace hbq := btrans hbq k5
      clear k5
      try simp only [putQ]
      refine qY ?_
      refine qE ?_
      have b2 := btrans b0 hbq
      clear r1 r2 f1 f2 hbq b0 hfl
      go_wp2
      go_roundw
      case rel => exact ⟨k + 1, by omega, by go_num, b2⟩
      case measure => simp [intOf]; omega
    · go_wp2
      go_ret
      exact ⟨rfl, b0⟩
end Go.Proofs.YtdlaenbiamknlaaGreat
/- Nodes: the program's NodeJoin. -/
namespace Go.Proofs.YtdlaenbiamknlaaGreat
open Go.ChangeShapes Go.WideShapes Go.ChangeAt Go.RowKit
attribute [local go_sem ↓] Go.wp_at_zero Go.wp_at_succ
def sj9_4 : List Stp := [⟨some 13, .move (.tmp 6), 76, none, 0⟩, ⟨some 14, .nilCheck (.tmp 13), 0, none, 0⟩, ⟨some 15, .fieldAddr 80 (.tmp 14) 0, 0, none, 0⟩, ⟨some 16, .load 42 (.tmp 15), 42, none, 0⟩, ⟨some 17, .call { callee := .value (.func 42), args := #[.tmp 16], argTypes := #[42] }, 4, none, 1⟩, ⟨some 18, .move (.tmp 17), 4, none, 0⟩, ⟨some 19, .move (.tmp 6), 76, some (18, true), 0⟩, ⟨some 20, .nilCheck (.tmp 19), 0, some (18, true), 0⟩, ⟨some 21, .fieldAddr 80 (.tmp 20) 0, 0, some (18, true), 0⟩, ⟨some 22, .load 42 (.tmp 21), 42, some (18, true), 0⟩, ⟨some 23, .move (.tmp 1), 3, some (18, true), 0⟩, ⟨some 24, .call { callee := .value (.func 43), args := #[.tmp 22, .tmp 23], argTypes := #[42, 3] }, 4, some (18, true), 1⟩, ⟨some 25, .pick (.tmp 18) (.tmp 24) (.const (.bool false)), 4, none, 0⟩]
def tj9_4 : List (Nat × Nat) := [(0, 0), (1, 0), (2, 0), (3, 0), (4, 1), (5, 0), (6, 0), (7, 0), (8, 0), (9, 0), (10, 0), (11, 1), (12, 0)]
theorem NdO.mono {w : World} {base base' : Nat} {n : Nod} {v1 v2 v3 v4 v5 : Value} {sD sP sO : Nat → Value} (hb : base' ≤ base) (h : NdO w base n v1 v2 v3 v4 v5 sD sP sO) : NdO w base' n v1 v2 v3 v4 v5 sD sP sO :=
  ⟨own_mono hb h.t, own_mono hb h.c, ⟨own_mono hb h.d.row, h.d.at_, fun j hj => own_mono hb (h.d.nest j hj), h.d.apart⟩, ⟨own_mono hb h.p.row, h.p.at_, fun j hj => own_mono hb (h.p.nest j hj), h.p.apart⟩, ⟨own_mono hb h.o.row, h.o.at_, fun j hj => own_mono hb (h.o.nest j hj), h.o.apart⟩, h.dp, h.tO, h.ht, h.hc, h.hd, h.hp, h.ho, h.hdn, h.hpn, h.hon⟩
theorem WdO.mono {w : World} {base base' : Nat} {ws : List Wo} {vw : Value} {sW : Nat → Value} (hb : base' ≤ base) (h : WdO w base ws vw sW) : WdO w base' ws vw sW :=
  ⟨⟨own_mono hb h.o.row, h.o.at_, fun j hj => own_mono hb (h.o.nest j hj), h.o.apart⟩, h.h, h.hn⟩
/-- nobody -/
def nodZ : Nod := ⟨0, false, false, false, 0, 0, 0, 0, [], [], 0, 0, 0, false, [], 0, 0, 0, 0, [], []⟩
theorem NdO.zero (w : World) (base : Nat) : NdO w base nodZ (.slice none 0 0) (.slice none 0 0) (.slice none 0 0) (.slice none 0 0) (.slice none 0 0) (fun _ => .slice none 0 0) (fun _ => .slice none 0 0) (fun _ => .slice none 0 0) :=
  ⟨World.ownsRow_nil _ _ _ _, World.ownsRow_nil _ _ _ _, ⟨World.ownsRow_nil _ _ _ _, fun j hj => absurd hj (Nat.not_lt_zero j), fun j hj => absurd hj (Nat.not_lt_zero j), fun i _ hi => absurd hi (Nat.not_lt_zero i)⟩, ⟨World.ownsRow_nil _ _ _ _, fun j hj => absurd hj (Nat.not_lt_zero j), fun j hj => absurd hj (Nat.not_lt_zero j), fun i _ hi => absurd hi (Nat.not_lt_zero i)⟩, ⟨World.ownsRow_nil _ _ _ _, fun j hj => absurd hj (Nat.not_lt_zero j), fun j hj => absurd hj (Nat.not_lt_zero j), fun i _ hi => absurd hi (Nat.not_lt_zero i)⟩, fun i _ hi => absurd hi (Nat.not_lt_zero i), fun j hj => absurd hj (Nat.not_lt_zero j), Nat.zero_le _, Nat.zero_le _, Nat.zero_le _, Nat.zero_le _, Nat.zero_le _, fun j hj => absurd hj (Nat.not_lt_zero j), fun j hj => absurd hj (Nat.not_lt_zero j), fun j hj => absurd hj (Nat.not_lt_zero j)⟩
/-- a node and words of one's own are answered -/
def NdWd (w w' : World) (r : Ending) (n : Nod) (ws : List Wo) : Prop := ∃ v1 v2 v3 v4 v5 vw sD sP sO sW, r = .returned (.tuple #[ndW n v1 v2 v3 v4 v5, vw]) ∧ NdO w' w.heap.size n v1 v2 v3 v4 v5 sD sP sO ∧ WdO w' w.heap.size ws vw sW ∧ (∀ x, bkN n v1 v2 v3 v4 v5 sD sP sO x → ¬ bkW vw ws.length sW x) ∧ Below w.heap.size w w'
/-- what NodeJoin answers -/
def jnN (n : Nod) : Nod := if nodQ n then n else nodZ
def jnW (n : Nod) (to_ : Int) : List Wo := if nodQ n && ((n.up && !n.gone) && mateB n.me to_) then [wordD n 4 to_ n.T] else []
theorem range_head {w : World} {b : Nat} {xs ys : List Value} (h : w.rangeAt b 0 (xs ++ ys)) : w.rangeAt b 0 xs := fun j x hx => h j x (by rw [List.getElem?_append_left (List.getElem?_eq_some_iff.1 hx).1]; exact hx)
theorem okI_lit (n : Nod) (L : Loc) (q : Bool) (hq : nodQ n = q) (w : World) (h : NdR w n L) : Calls Tryz.prog 40 #[ndV n L] w fun r w' => r = .returned (.bool q) ∧ Below w.heap.size w w' := hq ▸ okI_nod n L w h
theorem awake_lit (n : Nod) (L : Loc) (q : Bool) (hq : (n.up && !n.gone) = q) (w : World) : Calls Tryz.prog 42 #[ndV n L] w fun r w' => r = .returned (.bool q) ∧ Below w.heap.size w w' := hq ▸ awake_any n L w
theorem mateN_lit (n : Nod) (L : Loc) (to_ : Int) (q : Bool) (hq : mateB n.me to_ = q) (w : World) : Calls Tryz.prog 43 #[ndV n L, .int .i64 to_] w fun r w' => r = .returned (.bool q) ∧ Below w.heap.size w w' := hq ▸ mate_any _ _ _ _ _ _ _ _ _ _ _ _ _ _ _ _ _ _ _ _ _ _ _ _ _ _ _ _ _ _ _ to_ w
set_option maxRecDepth 20000 in
set_option maxHeartbeats 8000000 in
set_option linter.unusedSimpArgs false in
theorem joinI_any (n : Nod) (L : Loc) (to_ : Int) (w : World) (h : NdR w n L) (hf : LocF n L) : Calls Tryz.prog 9 #[ndV n L, .int .i64 to_] w fun r w' => NdWd w w' r (jnN n) (jnW n to_) := by
  have hok := fun w1 q (hq : nodQ n = q) (hb : Below w.heap.size w w1) => okI_lit n L q hq w1 (h.below hb)
  have hag := fun w1 (hb : Below w.heap.size w w1) => agentOf_any n L w1 (h.below hb) hf
  have hjn : Hid (jnN n = if nodQ n then n else nodZ) := rfl
  have hjw : Hid (jnW n to_ = if nodQ n && ((n.up && !n.gone) && mateB n.me to_) then [wordD n 4 to_ n.T] else []) := rfl
  clear h hf
  obtain ⟨N0, hN0⟩ : ∃ m, Hid (n = m) := ⟨_, rfl⟩
  obtain ⟨me, up, gone, gate, inc, now, sq, turn, T, C, pn, ps, pq, pa, D, cx, cy, ch, ce, P, O⟩ := n
  obtain ⟨ta, tc, ca, cc, da, dc, dA, dC, pla, plc, pA, pC, oa, oc, oA, oC⟩ := L
  unfold ndV at hok hag ⊢
  dsimp only at hok hag ⊢
  rw [hN0.out] at hok hag hjn hjw
  rw [hN0.out]
  obtain ⟨u, hu, X, R, b0, hs2⟩ := enter2 w #[.int .i64 me, .bool up, .bool gone, .bool gate, .int .i64 inc, .int .i64 now, .int .i64 sq, .int .i64 turn, .slice ta T.length tc, .slice ca C.length cc, .int .i64 pn, .int .i64 ps, .int .i64 pq, .bool pa, .slice da D.length dc, .int .i64 cx, .int .i64 cy, .int .i64 ch, .int .i64 ce, .slice pla P.length plc, .slice oa O.length oc] 42 #[.int .i64 0, .bool false, .bool false, .bool false, .int .i64 0, .int .i64 0, .int .i64 0, .int .i64 0, .slice none 0 0, .slice none 0 0, .int .i64 0, .int .i64 0, .int .i64 0, .bool false, .slice none 0 0, .int .i64 0, .int .i64 0, .int .i64 0, .int .i64 0, .slice none 0 0, .slice none 0 0] 42
  go_enter Tryz.func9, Tryz.ntmps9
  go_upto_region 1 with fail
  rw [← hu.out]
  clear hu
  obtain ⟨KX, hKX⟩ : ∃ K, Hid (w.heap.size = K) := ⟨_, rfl⟩
  have g0 : w.heap.size ≤ KX := by rw [← hKX.out]; exact Nat.le_refl _
  have g1 : w.heap.size ≤ KX + 1 := by omega
  rw [hKX.out] at X R hs2
  rw [hKX.out]
  have pB : KX + 1 + 1 ≤ u.heap.size := by omega
  clear hs2
  have x0 := X.range
  cases hq : nodQ N0
  · go_wp2_with (refine load43L (by rfl) (.tmp 2) rfl KX rfl [.int .i64 me, .bool up, .bool gone, .bool gate, .int .i64 inc, .int .i64 now, .int .i64 sq, .int .i64 turn, .slice ta T.length tc, .slice ca C.length cc, .int .i64 pn, .int .i64 ps, .int .i64 pq, .bool pa, .slice da D.length dc, .int .i64 cx, .int .i64 cy, .int .i64 ch, .int .i64 ce, .slice pla P.length plc, .slice oa O.length oc] x0 rfl ?_)
    refine (hok _ false hq b0).mono ?_
    rintro r w1 ⟨rfl, k1⟩
    have e1 : Hid (jnN N0 = nodZ) := by rw [Hid, hjn.out, hq]; rfl
    have e2 : Hid (jnW N0 to_ = []) := by rw [Hid, hjw.out, hq]; rfl
    replace R := R.below k1
    replace b0 := btrans b0 k1
    clear hok hag x0 X k1 hjn hjw pB hq
    have hth : w1.there (KX + 1) 0 21 := R.there rfl
    clear R
    have hr := read43 (World.rangeAt_setCells_same w1 (KX + 1) 0 (#[.int .i64 0, .bool false, .bool false, .bool false, .int .i64 0, .int .i64 0, .int .i64 0, .int .i64 0, .slice none 0 0, .slice none 0 0, .int .i64 0, .int .i64 0, .int .i64 0, .bool false, .slice none 0 0, .int .i64 0, .int .i64 0, .int .i64 0, .int .i64 0, .slice none 0 0, .slice none 0 0] : Array Value).toList hth) rfl
    have b9 := below_cells (KX + 1) (#[.int .i64 0, .bool false, .bool false, .bool false, .int .i64 0, .int .i64 0, .int .i64 0, .int .i64 0, .slice none 0 0, .slice none 0 0, .int .i64 0, .int .i64 0, .int .i64 0, .bool false, .slice none 0 0, .int .i64 0, .int .i64 0, .int .i64 0, .int .i64 0, .slice none 0 0, .slice none 0 0] : Array Value).toList 0 w1 g1 b0
    go_wp2_with (refine wpList_store_mid rfl 42 _ _ rfl (KX + 1) 0 #[.int .i64 0, .bool false, .bool false, .bool false, .int .i64 0, .int .i64 0, .int .i64 0, .int .i64 0, .slice none 0 0, .slice none 0 0, .int .i64 0, .int .i64 0, .int .i64 0, .bool false, .slice none 0 0, .int .i64 0, .int .i64 0, .int .i64 0, .int .i64 0, .slice none 0 0, .slice none 0 0] rfl rfl hth (by kernel_rfl) (by kernel_rfl) ?_)
    clear hth b0
    generalize w1.setCells (KX + 1) 0 (#[.int .i64 0, .bool false, .bool false, .bool false, .int .i64 0, .int .i64 0, .int .i64 0, .int .i64 0, .slice none 0 0, .slice none 0 0, .int .i64 0, .int .i64 0, .int .i64 0, .bool false, .slice none 0 0, .int .i64 0, .int .i64 0, .int .i64 0, .int .i64 0, .slice none 0 0, .slice none 0 0] : Array Value).toList = W4 at *
    refine bodyPost_ret (v := .tuple #[.agg #[.int .i64 0, .bool false, .bool false, .bool false, .int .i64 0, .int .i64 0, .int .i64 0, .int .i64 0, .slice none 0 0, .slice none 0 0, .int .i64 0, .int .i64 0, .int .i64 0, .bool false, .slice none 0 0, .int .i64 0, .int .i64 0, .int .i64 0, .int .i64 0, .slice none 0 0, .slice none 0 0], .slice none 0 0]) ?_ rfl ?_
    · simp only [results, Tryz.results9]
      simp [asAddr, hr]
    · rw [e1.out, e2.out]
      exact ⟨_, _, _, _, _, _, _, _, _, _, rfl, NdO.zero _ _, WdO.nil _ _, fun x _ => bkW_nil _ x, b9⟩
  · go_wp2_with (refine load43L (by rfl) (.tmp 2) rfl KX rfl [.int .i64 me, .bool up, .bool gone, .bool gate, .int .i64 inc, .int .i64 now, .int .i64 sq, .int .i64 turn, .slice ta T.length tc, .slice ca C.length cc, .int .i64 pn, .int .i64 ps, .int .i64 pq, .bool pa, .slice da D.length dc, .int .i64 cx, .int .i64 cy, .int .i64 ch, .int .i64 ce, .slice pla P.length plc, .slice oa O.length oc] x0 rfl ?_)
    refine (hok _ true hq b0).mono ?_
    rintro r w1 ⟨rfl, k1⟩
    go_upto_region 3 with fail
    replace R := R.below k1
    replace X := X.below k1
    replace b0 := btrans b0 k1
    replace pB := Nat.le_trans pB k1.size
    clear hok x0 k1
    have x0 := X.range
    go_wp2_with (refine load43L (by rfl) (.tmp 2) rfl KX rfl [.int .i64 me, .bool up, .bool gone, .bool gate, .int .i64 inc, .int .i64 now, .int .i64 sq, .int .i64 turn, .slice ta T.length tc, .slice ca C.length cc, .int .i64 pn, .int .i64 ps, .int .i64 pq, .bool pa, .slice da D.length dc, .int .i64 cx, .int .i64 cy, .int .i64 ch, .int .i64 ce, .slice pla P.length plc, .slice oa O.length oc] x0 rfl ?_)
    refine (hag _ b0).mono ?_
    rintro r w2 ⟨g, v1, v2, v3, v4, v5, sD, sP, sO, rfl, hG, k2⟩
    replace R := R.below k2
    have bL := b0.size
    replace b0 := btrans b0 k2
    have gK : KX + 1 + 1 ≤ g := Nat.le_trans pB hG.lo
    have gw : w.heap.size ≤ g := by omega
    clear hag x0 X k2
    have eqT : N0.T.length = T.length := by rw [← hN0.out]
    obtain ⟨a1, c1, q1, _⟩ := own_slice hG.nd.t
    rw [eqT] at q1
    subst q1
    clear eqT
    have eqC : N0.C.length = C.length := by rw [← hN0.out]
    obtain ⟨a2, c2, q2, _⟩ := own_slice hG.nd.c
    rw [eqC] at q2
    subst q2
    clear eqC
    have eqD : N0.D.length = D.length := by rw [← hN0.out]
    obtain ⟨a3, c3, q3, _⟩ := own_slice hG.nd.d.row
    rw [eqD] at q3
    subst q3
    clear eqD
    have eqP : N0.P.length = P.length := by rw [← hN0.out]
    obtain ⟨a4, c4, q4, _⟩ := own_slice hG.nd.p.row
    rw [eqP] at q4
    subst q4
    clear eqP
    have eqO : N0.O.length = O.length := by rw [← hN0.out]
    obtain ⟨a5, c5, q5, _⟩ := own_slice hG.nd.o.row
    rw [eqO] at q5
    subst q5
    clear eqO
    have e1 : Hid (jnN N0 = N0) := by rw [Hid, hjn.out, hq]; rfl
    replace hjw : Hid (jnW N0 to_ = if ((N0.up && !N0.gone) && mateB N0.me to_) then [wordD N0 4 to_ N0.T] else []) := by rw [Hid, hjw.out, hq]; rfl
    clear hjn hq
    obtain ⟨BS, hBS⟩ : ∃ B, Hid (w1.heap.size = B) := ⟨_, rfl⟩
    rw [hBS.out] at hG bL
    have pS : KX + 1 + 1 ≤ BS := by rw [← hBS.out]; exact pB
    have hgl : BS ≤ w2.heap.size := by have := hG.lo; have := hG.box.lt; omega
    clear hBS pB
    have xr : w2.rangeAt g 0 [.int .i64 me, .bool up, .bool gone, .bool gate, .int .i64 inc, .int .i64 now, .int .i64 sq, .int .i64 turn, .slice a1 T.length c1, .slice a2 C.length c2, .int .i64 pn, .int .i64 ps, .int .i64 pq, .bool pa, .slice a3 D.length c3, .int .i64 cx, .int .i64 cy, .int .i64 ch, .int .i64 ce, .slice a4 P.length c4, .slice a5 O.length c5] := by
      have := hG.box.range
      rw [← hN0.out] at this
      unfold agC at this
      exact range_head (ys := [.int .i64 0, .slice none 0 0]) this
    have hdone : Hid (∀ ws vw sW w3, Ag w3 BS g N0 0 ws (.slice a1 T.length c1) (.slice a2 C.length c2) (.slice a3 D.length c3) (.slice a4 P.length c4) (.slice a5 O.length c5) vw sD sP sO sW → Below w.heap.size w w3 → Ws w3 (KX + 1) [.int .i64 0, .bool false, .bool false, .bool false, .int .i64 0, .int .i64 0, .int .i64 0, .int .i64 0, .slice none 0 0, .slice none 0 0, .int .i64 0, .int .i64 0, .int .i64 0, .bool false, .slice none 0 0, .int .i64 0, .int .i64 0, .int .i64 0, .int .i64 0, .slice none 0 0, .slice none 0 0] → Calls Tryz.prog 46 #[.pointer (some ⟨g, 0, none⟩)] w3 fun r w' => r = .returned (.tuple #[.agg #[.int .i64 me, .bool up, .bool gone, .bool gate, .int .i64 inc, .int .i64 now, .int .i64 sq, .int .i64 turn, .slice a1 T.length c1, .slice a2 C.length c2, .int .i64 pn, .int .i64 ps, .int .i64 pq, .bool pa, .slice a3 D.length c3, .int .i64 cx, .int .i64 cy, .int .i64 ch, .int .i64 ce, .slice a4 P.length c4, .slice a5 O.length c5], vw]) ∧ (Below w.heap.size w w' ∧ Ws w' (KX + 1) [.int .i64 0, .bool false, .bool false, .bool false, .int .i64 0, .int .i64 0, .int .i64 0, .int .i64 0, .slice none 0 0, .slice none 0 0, .int .i64 0, .int .i64 0, .int .i64 0, .bool false, .slice none 0 0, .int .i64 0, .int .i64 0, .int .i64 0, .int .i64 0, .slice none 0 0, .slice none 0 0] ∧ NdO w' BS N0 (.slice a1 T.length c1) (.slice a2 C.length c2) (.slice a3 D.length c3) (.slice a4 P.length c4) (.slice a5 O.length c5) sD sP sO ∧ WdO w' BS ws vw sW)) := by
      intro ws vw sW w3 hA hB hR
      refine (done_any BS g N0 0 ws _ _ _ _ _ vw sD sP sO sW w3 hA).mono ?_
      rintro r w' ⟨rfl, kk⟩
      refine ⟨?_, btrans hB kk, hR.below kk, hA.nd.below kk, hA.wd.below kk⟩
      rw [← hN0.out]
      rfl
    have hend : Hid (∀ (wv : World) ws vw sW (w' : World), WdO wv BS ws vw sW → NdO wv BS N0 (.slice a1 T.length c1) (.slice a2 C.length c2) (.slice a3 D.length c3) (.slice a4 P.length c4) (.slice a5 O.length c5) sD sP sO → Below w.heap.size w wv → Ws wv (KX + 1) [.int .i64 0, .bool false, .bool false, .bool false, .int .i64 0, .int .i64 0, .int .i64 0, .int .i64 0, .slice none 0 0, .slice none 0 0, .int .i64 0, .int .i64 0, .int .i64 0, .bool false, .slice none 0 0, .int .i64 0, .int .i64 0, .int .i64 0, .int .i64 0, .slice none 0 0, .slice none 0 0] → (∀ x, bkN N0 (.slice a1 T.length c1) (.slice a2 C.length c2) (.slice a3 D.length c3) (.slice a4 P.length c4) (.slice a5 O.length c5) sD sP sO x → ¬ bkW vw ws.length sW x) → jnW N0 to_ = ws → w' = wv.setCells (KX + 1) 0 (#[.int .i64 me, .bool up, .bool gone, .bool gate, .int .i64 inc, .int .i64 now, .int .i64 sq, .int .i64 turn, .slice a1 T.length c1, .slice a2 C.length c2, .int .i64 pn, .int .i64 ps, .int .i64 pq, .bool pa, .slice a3 D.length c3, .int .i64 cx, .int .i64 cy, .int .i64 ch, .int .i64 ce, .slice a4 P.length c4, .slice a5 O.length c5] : Array Value).toList → NdWd w w' (.returned (.tuple #[.agg #[.int .i64 me, .bool up, .bool gone, .bool gate, .int .i64 inc, .int .i64 now, .int .i64 sq, .int .i64 turn, .slice a1 T.length c1, .slice a2 C.length c2, .int .i64 pn, .int .i64 ps, .int .i64 pq, .bool pa, .slice a3 D.length c3, .int .i64 cx, .int .i64 cy, .int .i64 ch, .int .i64 ce, .slice a4 P.length c4, .slice a5 O.length c5], vw])) (jnN N0) (jnW N0 to_)) := by
      intro wv ws vw sW w' hW hN hB hR hnw hj rfl
      have mE : Mw (fun x => x = KX + 1) wv (wv.setCells (KX + 1) 0 (#[.int .i64 me, .bool up, .bool gone, .bool gate, .int .i64 inc, .int .i64 now, .int .i64 sq, .int .i64 turn, .slice a1 T.length c1, .slice a2 C.length c2, .int .i64 pn, .int .i64 ps, .int .i64 pq, .bool pa, .slice a3 D.length c3, .int .i64 cx, .int .i64 cy, .int .i64 ch, .int .i64 ce, .slice a4 P.length c4, .slice a5 O.length c5] : Array Value).toList) := by
        have q := But2.cells (c := KX + 1) (d := KX + 1) (o := 0) (w := wv) (#[.int .i64 me, .bool up, .bool gone, .bool gate, .int .i64 inc, .int .i64 now, .int .i64 sq, .int .i64 turn, .slice a1 T.length c1, .slice a2 C.length c2, .int .i64 pn, .int .i64 ps, .int .i64 pq, .bool pa, .slice a3 D.length c3, .int .i64 cx, .int .i64 cy, .int .i64 ch, .int .i64 ce, .slice a4 P.length c4, .slice a5 O.length c5] : Array Value).toList
        have q2 := below_cells (w := wv) (B := 0) (KX + 1) (#[.int .i64 me, .bool up, .bool gone, .bool gate, .int .i64 inc, .int .i64 now, .int .i64 sq, .int .i64 turn, .slice a1 T.length c1, .slice a2 C.length c2, .int .i64 pn, .int .i64 ps, .int .i64 pq, .bool pa, .slice a3 D.length c3, .int .i64 cx, .int .i64 cy, .int .i64 ch, .int .i64 ce, .slice a4 P.length c4, .slice a5 O.length c5] : Array Value).toList 0 wv (Nat.zero_le _) (Below.refl 0 wv)
        exact ⟨q2.os, q2.tape, q2.output, q.size, fun i hi n => q.block i hi n n⟩
      rw [e1.out, hj]
      refine ⟨.slice a1 T.length c1, .slice a2 C.length c2, .slice a3 D.length c3, .slice a4 P.length c4, .slice a5 O.length c5, vw, sD, sP, sO, sW, ?_, (hN.mw mE (fun x e q => ?_)).mono bL, (hW.mw mE (fun x e q => ?_)).mono bL, hnw, below_cells (KX + 1) (#[.int .i64 me, .bool up, .bool gone, .bool gate, .int .i64 inc, .int .i64 now, .int .i64 sq, .int .i64 turn, .slice a1 T.length c1, .slice a2 C.length c2, .int .i64 pn, .int .i64 ps, .int .i64 pq, .bool pa, .slice a3 D.length c3, .int .i64 cx, .int .i64 cy, .int .i64 ch, .int .i64 ce, .slice a4 P.length c4, .slice a5 O.length c5] : Array Value).toList 0 wv g1 hB⟩
      · rw [← hN0.out]
        rfl
      · have := (hN.lo x e).1
        omega
      · have := (hW.o.lo x e).1
        omega
    have hR0 : Hid (NdR w2 N0 (locW (.slice a1 T.length c1) (.slice a2 C.length c2) (.slice a3 D.length c3) (.slice a4 P.length c4) (.slice a5 O.length c5) sD sP sO) ∧ LocF N0 (locW (.slice a1 T.length c1) (.slice a2 C.length c2) (.slice a3 D.length c3) (.slice a4 P.length c4) (.slice a5 O.length c5) sD sP sO)) := ⟨hG.nd.toR, hG.nd.fine⟩
    cases ha : (N0.up && !N0.gone)
    · have hawk : ∀ w1 : World, Calls Tryz.prog 42 #[.agg #[.int .i64 me, .bool up, .bool gone, .bool gate, .int .i64 inc, .int .i64 now, .int .i64 sq, .int .i64 turn, .slice a1 T.length c1, .slice a2 C.length c2, .int .i64 pn, .int .i64 ps, .int .i64 pq, .bool pa, .slice a3 D.length c3, .int .i64 cx, .int .i64 cy, .int .i64 ch, .int .i64 ce, .slice a4 P.length c4, .slice a5 O.length c5]] w1 fun r w' => r = .returned (.bool false) ∧ Below w1.heap.size w1 w' := fun w1 => awake_lit ⟨me, up, gone, gate, inc, now, sq, turn, T, C, pn, ps, pq, pa, D, cx, cy, ch, ce, P, O⟩ (locW (.slice a1 T.length c1) (.slice a2 C.length c2) (.slice a3 D.length c3) (.slice a4 P.length c4) (.slice a5 O.length c5) sD sP sO) false (by rw [hN0.out]; exact ha) w1
      rw [Hid, ha] at hjw
      simp only [Bool.true_and, Bool.false_and, if_true, if_false, Bool.false_eq_true] at hjw
      have hj2 : Hid (jnW N0 to_ = _) := hjw
      clear hjw ha
      go_upto_region 4 with fail
      refine wp_region_q0 sj9_4 tj9_4 (fun hbq => ?_)
      refine qY ?_
      refine qY ?_
      refine qY ?_
      refine qR ?_
      refine qC (fun K hK => ?_)
      go_simp
      refine (hawk _).mono ?_; rintro r w5 ⟨rfl, k5⟩
      go_wp2_with fail
      refine hK.out _ _ (btrans hbq k5) (.inl ?_)
      clear hK K
      replace hbq := btrans hbq k5
      clear k5
      try simp only [putQ]
      refine qY ?_
      refine qN ?_
      refine qN ?_
      refine qN ?_
      refine qN ?_
      refine qN ?_
      refine qN ?_
      refine qY ?_
      refine qE ?_
      have hG2 := hG.below hbq
      replace b0 := btrans b0 hbq
      replace R := R.below hbq
      replace xr := range_keep xr hbq
      replace hgl := Nat.le_trans hgl hbq.size
      clear hG hawk
      clear hbq
      go_wp2_with fail
      refine (hdone.out [] (.slice none 0 0) (fun _ => .slice none 0 0) _ hG2 b0 R).mono ?_
      rintro r w9 ⟨rfl, b9, R9, n9, d9⟩
      have hth : w9.there (KX + 1) 0 21 := R9.there rfl
      have hr := read43 (World.rangeAt_setCells_same w9 (KX + 1) 0 (#[.int .i64 me, .bool up, .bool gone, .bool gate, .int .i64 inc, .int .i64 now, .int .i64 sq, .int .i64 turn, .slice a1 T.length c1, .slice a2 C.length c2, .int .i64 pn, .int .i64 ps, .int .i64 pq, .bool pa, .slice a3 D.length c3, .int .i64 cx, .int .i64 cy, .int .i64 ch, .int .i64 ce, .slice a4 P.length c4, .slice a5 O.length c5] : Array Value).toList hth) rfl
      have fin := hend.out w9 [] (.slice none 0 0) (fun _ => .slice none 0 0) _ d9 n9 b9 R9 (fun x _ => bkW_nil _ x) hj2.out rfl
      clear hG2 hdone hend hR0 d9 n9 R9 xr R b0 hj2
      go_wp2_with (refine wpList_store_mid rfl 42 _ _ rfl (KX + 1) 0 #[.int .i64 me, .bool up, .bool gone, .bool gate, .int .i64 inc, .int .i64 now, .int .i64 sq, .int .i64 turn, .slice a1 T.length c1, .slice a2 C.length c2, .int .i64 pn, .int .i64 ps, .int .i64 pq, .bool pa, .slice a3 D.length c3, .int .i64 cx, .int .i64 cy, .int .i64 ch, .int .i64 ce, .slice a4 P.length c4, .slice a5 O.length c5] rfl rfl hth (by kernel_rfl) (by kernel_rfl) ?_)
      clear hth b9
      generalize w9.setCells (KX + 1) 0 (#[.int .i64 me, .bool up, .bool gone, .bool gate, .int .i64 inc, .int .i64 now, .int .i64 sq, .int .i64 turn, .slice a1 T.length c1, .slice a2 C.length c2, .int .i64 pn, .int .i64 ps, .int .i64 pq, .bool pa, .slice a3 D.length c3, .int .i64 cx, .int .i64 cy, .int .i64 ch, .int .i64 ce, .slice a4 P.length c4, .slice a5 O.length c5] : Array Value).toList = W4 at *
      refine bodyPost_ret (v := .tuple #[.agg #[.int .i64 me, .bool up, .bool gone, .bool gate, .int .i64 inc, .int .i64 now, .int .i64 sq, .int .i64 turn, .slice a1 T.length c1, .slice a2 C.length c2, .int .i64 pn, .int .i64 ps, .int .i64 pq, .bool pa, .slice a3 D.length c3, .int .i64 cx, .int .i64 cy, .int .i64 ch, .int .i64 ce, .slice a4 P.length c4, .slice a5 O.length c5], (.slice none 0 0)]) ?_ rfl fin
      simp only [results, Tryz.results9]
      simp [asAddr, hr]
    · cases hm : mateB N0.me to_
      · have hawk : ∀ w1 : World, Calls Tryz.prog 42 #[.agg #[.int .i64 me, .bool up, .bool gone, .bool gate, .int .i64 inc, .int .i64 now, .int .i64 sq, .int .i64 turn, .slice a1 T.length c1, .slice a2 C.length c2, .int .i64 pn, .int .i64 ps, .int .i64 pq, .bool pa, .slice a3 D.length c3, .int .i64 cx, .int .i64 cy, .int .i64 ch, .int .i64 ce, .slice a4 P.length c4, .slice a5 O.length c5]] w1 fun r w' => r = .returned (.bool true) ∧ Below w1.heap.size w1 w' := fun w1 => awake_lit ⟨me, up, gone, gate, inc, now, sq, turn, T, C, pn, ps, pq, pa, D, cx, cy, ch, ce, P, O⟩ (locW (.slice a1 T.length c1) (.slice a2 C.length c2) (.slice a3 D.length c3) (.slice a4 P.length c4) (.slice a5 O.length c5) sD sP sO) true (by rw [hN0.out]; exact ha) w1
        have hmat : ∀ w1 : World, Calls Tryz.prog 43 #[.agg #[.int .i64 me, .bool up, .bool gone, .bool gate, .int .i64 inc, .int .i64 now, .int .i64 sq, .int .i64 turn, .slice a1 T.length c1, .slice a2 C.length c2, .int .i64 pn, .int .i64 ps, .int .i64 pq, .bool pa, .slice a3 D.length c3, .int .i64 cx, .int .i64 cy, .int .i64 ch, .int .i64 ce, .slice a4 P.length c4, .slice a5 O.length c5], .int .i64 to_] w1 fun r w' => r = .returned (.bool false) ∧ Below w1.heap.size w1 w' := fun w1 => mateN_lit ⟨me, up, gone, gate, inc, now, sq, turn, T, C, pn, ps, pq, pa, D, cx, cy, ch, ce, P, O⟩ (locW (.slice a1 T.length c1) (.slice a2 C.length c2) (.slice a3 D.length c3) (.slice a4 P.length c4) (.slice a5 O.length c5) sD sP sO) to_ false (by rw [hN0.out]; exact hm) w1
        rw [Hid, ha, hm] at hjw
        simp only [Bool.true_and, Bool.false_and, if_true, if_false, Bool.false_eq_true] at hjw
        have hj2 : Hid (jnW N0 to_ = _) := hjw
        clear hjw ha hm
        go_upto_region 4 with fail
        refine wp_region_q0 sj9_4 tj9_4 (fun hbq => ?_)
        refine qY ?_
        refine qY ?_
        refine qY ?_
        refine qR ?_
        refine qC (fun K hK => ?_)
        go_simp
        refine (hawk _).mono ?_; rintro r w5 ⟨rfl, k5⟩
        go_wp2_with fail
        refine hK.out _ _ (btrans hbq k5) (.inl ?_)
        clear hK K
        replace hbq := btrans hbq k5
        clear k5
        try simp only [putQ]
        refine qY ?_
        refine qY ?_
        refine qY ?_
        refine qY ?_
        refine qR ?_
        refine qY ?_
        refine qC (fun K hK => ?_)
        go_simp
        refine (hmat _).mono ?_; rintro r w6 ⟨rfl, k6⟩
        go_wp2_with fail
        refine hK.out _ _ (btrans hbq k6) (.inl ?_)
        clear hK K
        replace hbq := btrans hbq k6
        clear k6
        try simp only [putQ]
        refine qY ?_
        refine qE ?_
        have hG2 := hG.below hbq
        replace b0 := btrans b0 hbq
        replace R := R.below hbq
        replace xr := range_keep xr hbq
        replace hgl := Nat.le_trans hgl hbq.size
        clear hG hawk hmat
        clear hbq
        go_wp2_with fail
        refine (hdone.out [] (.slice none 0 0) (fun _ => .slice none 0 0) _ hG2 b0 R).mono ?_
        rintro r w9 ⟨rfl, b9, R9, n9, d9⟩
        have hth : w9.there (KX + 1) 0 21 := R9.there rfl
        have hr := read43 (World.rangeAt_setCells_same w9 (KX + 1) 0 (#[.int .i64 me, .bool up, .bool gone, .bool gate, .int .i64 inc, .int .i64 now, .int .i64 sq, .int .i64 turn, .slice a1 T.length c1, .slice a2 C.length c2, .int .i64 pn, .int .i64 ps, .int .i64 pq, .bool pa, .slice a3 D.length c3, .int .i64 cx, .int .i64 cy, .int .i64 ch, .int .i64 ce, .slice a4 P.length c4, .slice a5 O.length c5] : Array Value).toList hth) rfl
        have fin := hend.out w9 [] (.slice none 0 0) (fun _ => .slice none 0 0) _ d9 n9 b9 R9 (fun x _ => bkW_nil _ x) hj2.out rfl
        clear hG2 hdone hend hR0 d9 n9 R9 xr R b0 hj2
        go_wp2_with (refine wpList_store_mid rfl 42 _ _ rfl (KX + 1) 0 #[.int .i64 me, .bool up, .bool gone, .bool gate, .int .i64 inc, .int .i64 now, .int .i64 sq, .int .i64 turn, .slice a1 T.length c1, .slice a2 C.length c2, .int .i64 pn, .int .i64 ps, .int .i64 pq, .bool pa, .slice a3 D.length c3, .int .i64 cx, .int .i64 cy, .int .i64 ch, .int .i64 ce, .slice a4 P.length c4, .slice a5 O.length c5] rfl rfl hth (by kernel_rfl) (by kernel_rfl) ?_)
        clear hth b9
        generalize w9.setCells (KX + 1) 0 (#[.int .i64 me, .bool up, .bool gone, .bool gate, .int .i64 inc, .int .i64 now, .int .i64 sq, .int .i64 turn, .slice a1 T.length c1, .slice a2 C.length c2, .int .i64 pn, .int .i64 ps, .int .i64 pq, .bool pa, .slice a3 D.length c3, .int .i64 cx, .int .i64 cy, .int .i64 ch, .int .i64 ce, .slice a4 P.length c4, .slice a5 O.length c5] : Array Value).toList = W4 at *
        refine bodyPost_ret (v := .tuple #[.agg #[.int .i64 me, .bool up, .bool gone, .bool gate, .int .i64 inc, .int .i64 now, .int .i64 sq, .int .i64 turn, .slice a1 T.length c1, .slice a2 C.length c2, .int .i64 pn, .int .i64 ps, .int .i64 pq, .bool pa, .slice a3 D.length c3, .int .i64 cx, .int .i64 cy, .int .i64 ch, .int .i64 ce, .slice a4 P.length c4, .slice a5 O.length c5], (.slice none 0 0)]) ?_ rfl fin
        simp only [results, Tryz.results9]
        simp [asAddr, hr]
      · have hawk : ∀ w1 : World, Calls Tryz.prog 42 #[.agg #[.int .i64 me, .bool up, .bool gone, .bool gate, .int .i64 inc, .int .i64 now, .int .i64 sq, .int .i64 turn, .slice a1 T.length c1, .slice a2 C.length c2, .int .i64 pn, .int .i64 ps, .int .i64 pq, .bool pa, .slice a3 D.length c3, .int .i64 cx, .int .i64 cy, .int .i64 ch, .int .i64 ce, .slice a4 P.length c4, .slice a5 O.length c5]] w1 fun r w' => r = .returned (.bool true) ∧ Below w1.heap.size w1 w' := fun w1 => awake_lit ⟨me, up, gone, gate, inc, now, sq, turn, T, C, pn, ps, pq, pa, D, cx, cy, ch, ce, P, O⟩ (locW (.slice a1 T.length c1) (.slice a2 C.length c2) (.slice a3 D.length c3) (.slice a4 P.length c4) (.slice a5 O.length c5) sD sP sO) true (by rw [hN0.out]; exact ha) w1
        have hmat : ∀ w1 : World, Calls Tryz.prog 43 #[.agg #[.int .i64 me, .bool up, .bool gone, .bool gate, .int .i64 inc, .int .i64 now, .int .i64 sq, .int .i64 turn, .slice a1 T.length c1, .slice a2 C.length c2, .int .i64 pn, .int .i64 ps, .int .i64 pq, .bool pa, .slice a3 D.length c3, .int .i64 cx, .int .i64 cy, .int .i64 ch, .int .i64 ce, .slice a4 P.length c4, .slice a5 O.length c5], .int .i64 to_] w1 fun r w' => r = .returned (.bool true) ∧ Below w1.heap.size w1 w' := fun w1 => mateN_lit ⟨me, up, gone, gate, inc, now, sq, turn, T, C, pn, ps, pq, pa, D, cx, cy, ch, ce, P, O⟩ (locW (.slice a1 T.length c1) (.slice a2 C.length c2) (.slice a3 D.length c3) (.slice a4 P.length c4) (.slice a5 O.length c5) sD sP sO) to_ true (by rw [hN0.out]; exact hm) w1
        rw [Hid, ha, hm] at hjw
        simp only [Bool.true_and, Bool.false_and, if_true, if_false, Bool.false_eq_true] at hjw
        have hj2 : Hid (jnW N0 to_ = _) := hjw
        clear hjw ha hm
        go_upto_region 4 with fail
        refine wp_region_q0 sj9_4 tj9_4 (fun hbq => ?_)
        refine qY ?_
        refine qY ?_
        refine qY ?_
        refine qR ?_
        refine qC (fun K hK => ?_)
        go_simp
        refine (hawk _).mono ?_; rintro r w5 ⟨rfl, k5⟩
        go_wp2_with fail
        refine hK.out _ _ (btrans hbq k5) (.inl ?_)
        clear hK K
        replace hbq := btrans hbq k5
        clear k5
        try simp only [putQ]
        refine qY ?_
        refine qY ?_
        refine qY ?_
        refine qY ?_
        refine qR ?_
        refine qY ?_
        refine qC (fun K hK => ?_)
        go_simp
        refine (hmat _).mono ?_; rintro r w6 ⟨rfl, k6⟩
        go_wp2_with fail
        refine hK.out _ _ (btrans hbq k6) (.inl ?_)
        clear hK K
        replace hbq := btrans hbq k6
        clear k6
        try simp only [putQ]
        refine qY ?_
        refine qE ?_
        have hG2 := hG.below hbq
        replace b0 := btrans b0 hbq
        replace R := R.below hbq
        replace xr := range_keep xr hbq
        replace hgl := Nat.le_trans hgl hbq.size
        clear hG hawk hmat
        have hR1 : NdR _ N0 (locW (.slice a1 T.length c1) (.slice a2 C.length c2) (.slice a3 D.length c3) (.slice a4 P.length c4) (.slice a5 O.length c5) sD sP sO) := hR0.out.1.below hbq
        clear hbq
        have hfw := fun w1 (k : Below _ _ w1) => fullWord_any N0 (locW (.slice a1 T.length c1) (.slice a2 C.length c2) (.slice a3 D.length c3) (.slice a4 P.length c4) (.slice a5 O.length c5) sD sP sO) 4 to_ w1 (hR1.below k) hR0.out.2
        go_wp2_with (refine load43L (by rfl) (.tmp 29) rfl g rfl [.int .i64 me, .bool up, .bool gone, .bool gate, .int .i64 inc, .int .i64 now, .int .i64 sq, .int .i64 turn, .slice a1 T.length c1, .slice a2 C.length c2, .int .i64 pn, .int .i64 ps, .int .i64 pq, .bool pa, .slice a3 D.length c3, .int .i64 cx, .int .i64 cy, .int .i64 ch, .int .i64 ce, .slice a4 P.length c4, .slice a5 O.length c5] xr rfl ?_)
        rw [← hN0.out] at hfw
        refine (hfw _ (Below.refl _ _)).mono ?_
        rintro r w7 ⟨vf, rfl, of, k7⟩
        have hfl : ∀ y, vf.ownBlock = some y → ¬ bkN N0 (.slice a1 T.length c1) (.slice a2 C.length c2) (.slice a3 D.length c3) (.slice a4 P.length c4) (.slice a5 O.length c5) sD sP sO y := fun y e q => by
          have q1 := (of.lt y e).1
          have q2 := (hG2.nd.lo y q).2
          omega
        replace hG2 := hG2.below k7
        have b7 := btrans b0 k7
        replace R := R.below k7
        replace of := own_mono hgl of
        replace hgl := Nat.le_trans hgl k7.size
        clear hfw k7 b0 hR1
        obtain ⟨af, cf, rfl, _⟩ := own_slice of
        have hT : T.length ≤ 1048576 := by have := hG2.nd.ht; rw [← hN0.out] at this; exact this
        unfold woC wordD
        dsimp only
        have Y := (Ws.box (w := w7) #[.int .i64 1, .int .i64 4, .int .i64 me, .int .i64 to_, .int .i64 0, .int .i64 me, .int .i64 cx, .int .i64 cy, .int .i64 ch, .int .i64 ce, .slice af T.length cf] 67).range
        have k8 := balloc (.cells #[.int .i64 1, .int .i64 4, .int .i64 me, .int .i64 to_, .int .i64 0, .int .i64 me, .int .i64 cx, .int .i64 cy, .int .i64 ch, .int .i64 ce, .slice af T.length cf] 67) (Below.refl w7.heap.size w7)
        replace hG2 := hG2.below k8
        replace b7 := btrans b7 k8
        replace R := R.below k8
        replace of := own_below of k8
        replace hgl := Nat.le_trans hgl k8.size
        go_wp2_with fail
        generalize w7.alloc (.cells #[.int .i64 1, .int .i64 4, .int .i64 me, .int .i64 to_, .int .i64 0, .int .i64 me, .int .i64 cx, .int .i64 cy, .int .i64 ch, .int .i64 ce, .slice af T.length cf] 67) = w8 at *
        generalize w7.heap.size = KB at *
        refine (send_any BS g N0 0 [] _ _ _ _ _ _ sD sP sO _ (wordD N0 4 to_ N0.T) (.slice af T.length cf) KB 1 w8 hG2 hgl (by rw [← hN0.out]; exact Y) (by rw [← hN0.out]; exact of) (by rw [← hN0.out]; exact hT) (by simp) (fun y e => ⟨hfl y e, bkW_nil _ y⟩)).mono ?_
        rintro r w10 ⟨vw, rfl, hA, mS⟩
        have b0 := mS.below b7 (fun i s => by rcases s with s | s; omega; simp [Value.ownBlock] at s)
        replace R := R.mw mS (fun s => by rcases s with s | s; omega; simp [Value.ownBlock] at s)
        obtain ⟨aw, cw, rfl, _⟩ := own_slice hA.wd.o.row
        clear hG2 of Y k8 mS b7 hfl hgl hT
        have hG2 := hA
        have hnw := hA.nw
        clear hA
        rw [List.nil_append] at hG2 hnw
        go_wp2_with fail
        refine (hdone.out _ (.slice aw _ cw) _ _ hG2 b0 R).mono ?_
        rintro r w9 ⟨rfl, b9, R9, n9, d9⟩
        have hth : w9.there (KX + 1) 0 21 := R9.there rfl
        have hr := read43 (World.rangeAt_setCells_same w9 (KX + 1) 0 (#[.int .i64 me, .bool up, .bool gone, .bool gate, .int .i64 inc, .int .i64 now, .int .i64 sq, .int .i64 turn, .slice a1 T.length c1, .slice a2 C.length c2, .int .i64 pn, .int .i64 ps, .int .i64 pq, .bool pa, .slice a3 D.length c3, .int .i64 cx, .int .i64 cy, .int .i64 ch, .int .i64 ce, .slice a4 P.length c4, .slice a5 O.length c5] : Array Value).toList hth) rfl
        have fin := hend.out w9 _ (.slice aw _ cw) _ _ d9 n9 b9 R9 hnw hj2.out rfl
        clear hG2 hdone hend hR0 d9 n9 R9 xr R b0 hj2
        go_wp2_with (refine wpList_store_mid rfl 42 _ _ rfl (KX + 1) 0 #[.int .i64 me, .bool up, .bool gone, .bool gate, .int .i64 inc, .int .i64 now, .int .i64 sq, .int .i64 turn, .slice a1 T.length c1, .slice a2 C.length c2, .int .i64 pn, .int .i64 ps, .int .i64 pq, .bool pa, .slice a3 D.length c3, .int .i64 cx, .int .i64 cy, .int .i64 ch, .int .i64 ce, .slice a4 P.length c4, .slice a5 O.length c5] rfl rfl hth (by kernel_rfl) (by kernel_rfl) ?_)
        clear hth b9
        generalize w9.setCells (KX + 1) 0 (#[.int .i64 me, .bool up, .bool gone, .bool gate, .int .i64 inc, .int .i64 now, .int .i64 sq, .int .i64 turn, .slice a1 T.length c1, .slice a2 C.length c2, .int .i64 pn, .int .i64 ps, .int .i64 pq, .bool pa, .slice a3 D.length c3, .int .i64 cx, .int .i64 cy, .int .i64 ch, .int .i64 ce, .slice a4 P.length c4, .slice a5 O.length c5] : Array Value).toList = W4 at *
        refine bodyPost_ret (v := .tuple #[.agg #[.int .i64 me, .bool up, .bool gone, .bool gate, .int .i64 inc, .int .i64 now, .int .i64 sq, .int .i64 turn, .slice a1 T.length c1, .slice a2 C.length c2, .int .i64 pn, .int .i64 ps, .int .i64 pq, .bool pa, .slice a3 D.length c3, .int .i64 cx, .int .i64 cy, .int .i64 ch, .int .i64 ce, .slice a4 P.length c4, .slice a5 O.length c5], (.slice aw _ cw)]) ?_ rfl fin
        simp only [results, Tryz.results9]
        simp [asAddr, hr]
end Go.Proofs.YtdlaenbiamknlaaGreat
/- Nodes: the model's NodeJoin. -/
namespace Go.Proofs.YtdlaenbiamknlaaGreat
open Go.ChangeShapes Go.WideShapes Go.ChangeAt Go.RowKit
attribute [local go_sem ↓] Go.wp_at_zero Go.wp_at_succ
def s7_3 : List Stp := [⟨some 11, .fieldAddr 42 (.tmp 2) 1, 0, none, 0⟩, ⟨some 12, .load 4 (.tmp 11), 4, none, 0⟩, ⟨some 13, .unOp .not 4 (.tmp 12), 4, none, 0⟩, ⟨some 14, .move (.tmp 13), 4, none, 0⟩, ⟨some 15, .fieldAddr 42 (.tmp 2) 2, 0, some (14, false), 0⟩, ⟨some 16, .load 4 (.tmp 15), 4, some (14, false), 0⟩, ⟨some 17, .pick (.tmp 14) (.const (.bool true)) (.tmp 16), 4, none, 0⟩, ⟨some 18, .move (.tmp 17), 4, none, 0⟩, ⟨some 19, .move (.tmp 1), 3, some (18, false), 0⟩, ⟨some 20, .call { callee := .value (.func 29), args := #[.tmp 19, .const (.int .i64 0), .const (.int .i64 7)], argTypes := #[3, 3, 3] }, 4, some (18, false), 1⟩, ⟨some 21, .unOp .not 4 (.tmp 20), 4, some (18, false), 0⟩, ⟨some 22, .pick (.tmp 18) (.const (.bool true)) (.tmp 21), 4, none, 0⟩, ⟨some 23, .move (.tmp 22), 4, none, 0⟩, ⟨some 24, .move (.tmp 1), 3, some (23, false), 0⟩, ⟨some 25, .fieldAddr 42 (.tmp 2) 0, 0, some (23, false), 0⟩, ⟨some 26, .load 3 (.tmp 25), 3, some (23, false), 0⟩, ⟨some 27, .binOp .eql 3 (.tmp 24) (.tmp 26) 3, 4, some (23, false), 2⟩, ⟨some 28, .pick (.tmp 23) (.const (.bool true)) (.tmp 27), 4, none, 0⟩, ⟨some 29, .move (.tmp 28), 4, none, 0⟩, ⟨some 30, .move (.tmp 1), 3, some (29, false), 0⟩, ⟨some 32, .fieldAddr 42 (.tmp 2) 0, 0, some (29, false), 0⟩, ⟨some 33, .load 3 (.tmp 32), 3, some (29, false), 0⟩, ⟨some 31, .call { callee := .value (.func 30), args := #[.tmp 30], argTypes := #[3] }, 3, some (29, false), 1⟩, ⟨some 34, .call { callee := .value (.func 30), args := #[.tmp 33], argTypes := #[3] }, 3, some (29, false), 1⟩, ⟨some 35, .binOp .neq 3 (.tmp 31) (.tmp 34) 3, 4, some (29, false), 2⟩, ⟨some 36, .pick (.tmp 29) (.const (.bool true)) (.tmp 35), 4, none, 0⟩]
def t7_3 : List (Nat × Nat) := [(0, 0), (1, 0), (2, 0), (3, 0), (4, 0), (5, 0), (6, 0), (7, 0), (8, 0), (9, 1), (10, 0), (11, 0), (12, 0), (13, 0), (14, 0), (15, 0), (16, 2), (17, 0), (18, 0), (19, 0), (21, 0), (22, 0), (20, 1), (23, 1), (24, 2), (25, 0)]
def sp7_5 : List Stp := [⟨some 40, .load 42 (.tmp 2), 42, none, 0⟩, ⟨some 42, .load 42 (.tmp 2), 42, none, 0⟩, ⟨some 43, .move (.tmp 1), 3, none, 0⟩, ⟨some 44, .fieldAddr 42 (.tmp 2) 0, 0, none, 0⟩, ⟨some 45, .load 3 (.tmp 44), 3, none, 0⟩, ⟨some 46, .fieldAddr 42 (.tmp 2) 8, 0, none, 0⟩, ⟨some 47, .load 34 (.tmp 46), 34, none, 0⟩, ⟨some 41, .call { callee := .value (.func 31), args := #[.tmp 40], argTypes := #[42] }, 42, none, 1⟩, ⟨some 48, .call { callee := .value (.func 32), args := #[.tmp 42, .const (.int .i64 4), .tmp 43, .const (.int .i64 0), .tmp 45, .tmp 47], argTypes := #[42, 3, 3, 3, 3, 34] }, 67, none, 1⟩]
def tp7_5 : List (Nat × Nat) := [(0, 0), (2, 0), (3, 0), (4, 0), (5, 0), (6, 0), (7, 0), (1, 1), (8, 1)]
def sa7_5 : Stp := ⟨some 49, .buildSlice 43 1 #[(0, .tmp 48)], 43, none, 1⟩
def sb7_5 : Stp := ⟨none, .store 42 (.tmp 4) (.tmp 41), 0, none, 1⟩
def sc7_5 : Stp := ⟨some 5, .assign (.tmp 49), 43, none, 0⟩
theorem WdO.made {w : World} {base : Nat} (hb : base ≤ w.heap.size) : WdO (w.alloc (.cells #[] 67)) base [] (.slice (some ⟨w.heap.size, 0, none⟩) 0 0) (fun _ => .slice none 0 0) :=
 ⟨⟨own_mono hb own_empty, fun j hj => absurd hj (Nat.not_lt_zero j), fun j hj => absurd hj (Nat.not_lt_zero j), fun i _ hi => absurd hi (Nat.not_lt_zero i)⟩, Nat.zero_le _, fun j hj => absurd hj (Nat.not_lt_zero j)⟩
theorem bkW_made (g : Nat) (sW : Nat → Value) (x : Nat) (h : bkW (.slice (some ⟨g, 0, none⟩) 0 0) 0 sW x) : x = g := by
 rcases h with q | ⟨j, hj, _⟩
 ·simpa [Value.ownBlock] using q.symm
 ·omega
theorem own_lit {w : World} {size : Nat} (cs : Array Value) (e : TypeId) (hs : cs.size = 1 * size) : (w.alloc (.cells cs e)).ownsRow w.heap.size e size (.slice (some ⟨w.heap.size, 0, none⟩) 1 1) 1 cs.toList :=
 ⟨by rw [Array.length_toList, hs], .inr ⟨w.heap.size, 1, cs, rfl, Nat.le_refl _, heap_alloc_new _ _, Nat.le_refl _, by unfold maxLen; omega, hs, by rw [List.take_of_length_le]; rw [Array.length_toList, hs]; exact Nat.le_refl _⟩⟩
theorem WdO.one {w : World} {base : Nat} {x : Wo} {vf : Value} (hb : base ≤ w.heap.size) (hf : w.ownsRow base 98 4 vf x.fs.length (rv (fv (tF x.fs)) (x.fs.length * 4))) (hn : x.fs.length ≤ 1048576) : WdO (w.alloc (.cells (woC x vf).toArray 67)) base [x] (.slice (some ⟨w.heap.size, 0, none⟩) 1 1) (fun _ => vf) := by
 have e0 : ∀ j, j < 1 → ([x] : List Wo).getD j Wo.zero = x := fun j hj => by
  have : j = 0 := by omega
  subst this; rfl
 refine ⟨⟨?_, fun j _ => wR_at _ _ j 10 _ rfl, fun j hj => ?_, fun i j hi hj hij => ?_⟩, by simp, fun j hj => ?_⟩
 ·have q := own_mono hb (own_lit (w := w) (woC x vf).toArray 67 (size := 11) rfl)
  have e : ((woC x vf).toArray).toList = rv (wR [x] fun _ => vf) ([x].length * 11) := rv_ext rfl (fun j hj => by
   have := wR_at [x] (fun _ => vf) 0 j ((woC x vf)[j]) (by show (woC x vf)[j]? = _; exact List.getElem?_eq_getElem _)
   rw [Nat.zero_mul, Nat.zero_add] at this
   rw [this]
   exact List.getElem?_eq_getElem _)
  rw [e] at q
  exact q
 ·unfold wX wN
  rw [e0 j hj]
  exact own_below hf (balloc _ (Below.refl _ _))
 ·simp at hi hj
  omega
 ·unfold wN
  rw [e0 j hj]
  exact hn
theorem okS_lit (n : Nod) (L : Loc) (q : Bool) (hq : nodQ n = q) (w : World) (h : NdR w n L) : Calls Tryz.prog 28 #[ndV n L] w fun r w' => r = .returned (.bool q) ∧ Below w.heap.size w w' := hq ▸ okS_nod n L w h
set_option maxRecDepth 20000 in
set_option maxHeartbeats 16000000 in
theorem joinS_any (n : Nod) (L : Loc) (to_ : Int) (w : World) (h : NdR w n L) (hf : LocF n L) : Calls Tryz.prog 7 #[ndV n L, .int .i64 to_] w fun r w' => NdWd w w' r (jnN n) (jnW n to_) := by
 have hok := fun w1 q (hq : nodQ n = q) (hb : Below w.heap.size w w1) => okS_lit n L q hq w1 (h.below hb)
 have hcp := fun w1 (hb : Below w.heap.size w w1) => scopied_any n L w1 (h.below hb) hf
 have hsw := fun w1 (hb : Below w.heap.size w w1) => sword_any n L 4 to_ 0 n.me (.slice L.ta n.T.length L.tc) n.T w1 (fsl_src ((NdIn.f h).below hb) hf.t) (NdIn.hf h)
 have hjz : Hid (nodQ n = false → jnN n = nodZ ∧ jnW n to_ = []) := fun e => by unfold jnN jnW; rw [e]; exact ⟨rfl, rfl⟩
 have hj0 : Hid (nodQ n = true → ((n.up && !n.gone) && mateB n.me to_) = false → jnN n = n ∧ jnW n to_ = []) := fun e e2 => by unfold jnN jnW; rw [e, e2]; exact ⟨rfl, rfl⟩
 have hj1 : Hid (nodQ n = true → ((n.up && !n.gone) && mateB n.me to_) = true → jnN n = n ∧ jnW n to_ = [wordD n 4 to_ n.T]) := fun e e2 => by unfold jnN jnW; rw [e, e2]; exact ⟨rfl, rfl⟩
 have hTm : n.T.length ≤ 1048576 := NdIn.hf h
 clear h hf
 obtain ⟨me, up, gone, gate, inc, now, sq, turn, T, C, pn, ps, pq, pa, D, cx, cy, ch, ce, P, O⟩ := n
 obtain ⟨ta, tc, ca, cc, da, dc, dA, dC, pla, plc, pA, pC, oa, oc, oA, oC⟩ := L
 unfold ndV at hok hcp hsw ⊢
 dsimp only at hok hcp hsw hj0 hj1 hTm ⊢
 obtain ⟨u, hu, X, R, b0, hs2⟩ := enter2 w #[.int .i64 me, .bool up, .bool gone, .bool gate, .int .i64 inc, .int .i64 now, .int .i64 sq, .int .i64 turn, .slice ta T.length tc, .slice ca C.length cc, .int .i64 pn, .int .i64 ps, .int .i64 pq, .bool pa, .slice da D.length dc, .int .i64 cx, .int .i64 cy, .int .i64 ch, .int .i64 ce, .slice pla P.length plc, .slice oa O.length oc] 42 #[.int .i64 0, .bool false, .bool false, .bool false, .int .i64 0, .int .i64 0, .int .i64 0, .int .i64 0, .slice none 0 0, .slice none 0 0, .int .i64 0, .int .i64 0, .int .i64 0, .bool false, .slice none 0 0, .int .i64 0, .int .i64 0, .int .i64 0, .int .i64 0, .slice none 0 0, .slice none 0 0] 42
 go_enter Tryz.func7, Tryz.ntmps7
 go_upto_region 1 with fail
 rw [← hu.out]
 clear hu
 obtain ⟨KX, hKX⟩ : ∃ K, Hid (w.heap.size = K) := ⟨_, rfl⟩
 have g1 : w.heap.size ≤ KX + 1 := by have := hKX.out; omega
 have nXR : KX ≠ KX + 1 := by omega
 rw [hKX.out] at X R hs2
 rw [hKX.out]
 have pB : KX + 1 + 1 ≤ u.heap.size := by omega
 clear hs2
 have x0 := X.range
 obtain ⟨q, hq⟩ : ∃ q, nodQ ⟨me, up, gone, gate, inc, now, sq, turn, T, C, pn, ps, pq, pa, D, cx, cy, ch, ce, P, O⟩ = q := ⟨_, rfl⟩
 cases q
 ·go_wp2_with (refine load43L (by rfl) (.tmp 2) rfl KX rfl [.int .i64 me, .bool up, .bool gone, .bool gate, .int .i64 inc, .int .i64 now, .int .i64 sq, .int .i64 turn, .slice ta T.length tc, .slice ca C.length cc, .int .i64 pn, .int .i64 ps, .int .i64 pq, .bool pa, .slice da D.length dc, .int .i64 cx, .int .i64 cy, .int .i64 ch, .int .i64 ce, .slice pla P.length plc, .slice oa O.length oc] x0 rfl ?_)
  refine (hok _ false hq b0).mono ?_
  rintro r w1 ⟨rfl, k1⟩
  replace R := R.below k1
  replace b0 := btrans b0 k1
  have fz := hjz.out hq
  clear hok hcp hsw x0 X k1 hjz hj0 hj1 pB hq
  have kA := balloc (.cells #[] 67) (Below.refl w1.heap.size w1)
  have hth : (w1.alloc (.cells #[] 67)).there (KX + 1) 0 21 := (R.below kA).there rfl
  have hr := read43 (World.rangeAt_setCells_same (w1.alloc (.cells #[] 67)) (KX + 1) 0 (#[.int .i64 0, .bool false, .bool false, .bool false, .int .i64 0, .int .i64 0, .int .i64 0, .int .i64 0, .slice none 0 0, .slice none 0 0, .int .i64 0, .int .i64 0, .int .i64 0, .bool false, .slice none 0 0, .int .i64 0, .int .i64 0, .int .i64 0, .int .i64 0, .slice none 0 0, .slice none 0 0] : Array Value).toList hth) rfl
  have b9 := below_cells (KX + 1) (#[.int .i64 0, .bool false, .bool false, .bool false, .int .i64 0, .int .i64 0, .int .i64 0, .int .i64 0, .slice none 0 0, .slice none 0 0, .int .i64 0, .int .i64 0, .int .i64 0, .bool false, .slice none 0 0, .int .i64 0, .int .i64 0, .int .i64 0, .int .i64 0, .slice none 0 0, .slice none 0 0] : Array Value).toList 0 (w1.alloc (.cells #[] 67)) g1 (btrans b0 kA)
  have wd := (WdO.made (w := w1) b0.size).mw (Mw.cells (b := KX + 1) (#[.int .i64 0, .bool false, .bool false, .bool false, .int .i64 0, .int .i64 0, .int .i64 0, .int .i64 0, .slice none 0 0, .slice none 0 0, .int .i64 0, .int .i64 0, .int .i64 0, .bool false, .slice none 0 0, .int .i64 0, .int .i64 0, .int .i64 0, .int .i64 0, .slice none 0 0, .slice none 0 0] : Array Value).toList) (fun x e q => by have := bkW_made _ _ _ e; have := R.lt; omega)
  have fin : NdWd w ((w1.alloc (.cells #[] 67)).setCells (KX + 1) 0 (#[.int .i64 0, .bool false, .bool false, .bool false, .int .i64 0, .int .i64 0, .int .i64 0, .int .i64 0, .slice none 0 0, .slice none 0 0, .int .i64 0, .int .i64 0, .int .i64 0, .bool false, .slice none 0 0, .int .i64 0, .int .i64 0, .int .i64 0, .int .i64 0, .slice none 0 0, .slice none 0 0] : Array Value).toList) (.returned (.tuple #[.agg #[.int .i64 0, .bool false, .bool false, .bool false, .int .i64 0, .int .i64 0, .int .i64 0, .int .i64 0, .slice none 0 0, .slice none 0 0, .int .i64 0, .int .i64 0, .int .i64 0, .bool false, .slice none 0 0, .int .i64 0, .int .i64 0, .int .i64 0, .int .i64 0, .slice none 0 0, .slice none 0 0], .slice (some ⟨w1.heap.size, 0, none⟩) 0 0])) (jnN ⟨me, up, gone, gate, inc, now, sq, turn, T, C, pn, ps, pq, pa, D, cx, cy, ch, ce, P, O⟩) (jnW ⟨me, up, gone, gate, inc, now, sq, turn, T, C, pn, ps, pq, pa, D, cx, cy, ch, ce, P, O⟩ to_) := by
   rw [fz.1, fz.2]
   refine ⟨_, _, _, _, _, _, _, _, _, _, rfl, NdO.zero _ _, wd, fun x e _ => ?_, b9⟩
   rcases e with e | e | (e | ⟨j, hj, _⟩) | (e | ⟨j, hj, _⟩) | (e | ⟨j, hj, _⟩)
   all_goals (first | (simp [Value.ownBlock] at e; done) | exact absurd hj (Nat.not_lt_zero j))
  clear wd fz
  go_wp2_with (refine wpList_store_mid rfl 42 _ _ rfl (KX + 1) 0 #[.int .i64 0, .bool false, .bool false, .bool false, .int .i64 0, .int .i64 0, .int .i64 0, .int .i64 0, .slice none 0 0, .slice none 0 0, .int .i64 0, .int .i64 0, .int .i64 0, .bool false, .slice none 0 0, .int .i64 0, .int .i64 0, .int .i64 0, .int .i64 0, .slice none 0 0, .slice none 0 0] rfl rfl hth (by kernel_rfl) (by kernel_rfl) ?_)
  clear hth b0 kA R
  generalize (w1.alloc (.cells #[] 67)).setCells (KX + 1) 0 (#[.int .i64 0, .bool false, .bool false, .bool false, .int .i64 0, .int .i64 0, .int .i64 0, .int .i64 0, .slice none 0 0, .slice none 0 0, .int .i64 0, .int .i64 0, .int .i64 0, .bool false, .slice none 0 0, .int .i64 0, .int .i64 0, .int .i64 0, .int .i64 0, .slice none 0 0, .slice none 0 0] : Array Value).toList = W4 at *
  refine bodyPost_ret (v := .tuple #[.agg #[.int .i64 0, .bool false, .bool false, .bool false, .int .i64 0, .int .i64 0, .int .i64 0, .int .i64 0, .slice none 0 0, .slice none 0 0, .int .i64 0, .int .i64 0, .int .i64 0, .bool false, .slice none 0 0, .int .i64 0, .int .i64 0, .int .i64 0, .int .i64 0, .slice none 0 0, .slice none 0 0], .slice (some ⟨w1.heap.size, 0, none⟩) 0 0]) ?_ rfl fin
  simp only [results, Tryz.results7]
  simp [asAddr, hr]
 ·go_wp2_with (refine load43L (by rfl) (.tmp 2) rfl KX rfl [.int .i64 me, .bool up, .bool gone, .bool gate, .int .i64 inc, .int .i64 now, .int .i64 sq, .int .i64 turn, .slice ta T.length tc, .slice ca C.length cc, .int .i64 pn, .int .i64 ps, .int .i64 pq, .bool pa, .slice da D.length dc, .int .i64 cx, .int .i64 cy, .int .i64 ch, .int .i64 ce, .slice pla P.length plc, .slice oa O.length oc] x0 rfl ?_)
  refine (hok _ true hq b0).mono ?_
  rintro r w1 ⟨rfl, k1⟩
  replace hj0 : Hid (((up && !gone) && mateB me to_) = false → jnN ⟨me, up, gone, gate, inc, now, sq, turn, T, C, pn, ps, pq, pa, D, cx, cy, ch, ce, P, O⟩ = ⟨me, up, gone, gate, inc, now, sq, turn, T, C, pn, ps, pq, pa, D, cx, cy, ch, ce, P, O⟩ ∧ jnW ⟨me, up, gone, gate, inc, now, sq, turn, T, C, pn, ps, pq, pa, D, cx, cy, ch, ce, P, O⟩ to_ = []) := hj0.out hq
  replace hj1 : Hid (((up && !gone) && mateB me to_) = true → jnN ⟨me, up, gone, gate, inc, now, sq, turn, T, C, pn, ps, pq, pa, D, cx, cy, ch, ce, P, O⟩ = ⟨me, up, gone, gate, inc, now, sq, turn, T, C, pn, ps, pq, pa, D, cx, cy, ch, ce, P, O⟩ ∧ jnW ⟨me, up, gone, gate, inc, now, sq, turn, T, C, pn, ps, pq, pa, D, cx, cy, ch, ce, P, O⟩ to_ = [wordD ⟨me, up, gone, gate, inc, now, sq, turn, T, C, pn, ps, pq, pa, D, cx, cy, ch, ce, P, O⟩ 4 to_ T]) := hj1.out hq
  go_upto_region 3 with fail
  replace R := R.below k1
  replace X := X.below k1
  replace b0 := btrans b0 k1
  replace pB := Nat.le_trans pB k1.size
  clear hok x0 k1 hq hjz
  have d0 := X.c 0 (.int .i64 me) rfl
  have d1 := X.c 1 (.bool up) rfl
  have d2 := X.c 2 (.bool gone) rfl
  obtain ⟨st, hst⟩ : ∃ s, Hid (ste to_ = s) := ⟨_, rfl⟩
  obtain ⟨sm, hsm⟩ : ∃ s, Hid (ste me = s) := ⟨_, rfl⟩
  cases up
  ·skip
   refine wp_region_q s7_3 t7_3 (fun hbq => ?_)
   refine qY ?_
   refine qL ?_
   iterate 2 refine qY ?_
   iterate 2 refine qN ?_
   iterate 2 refine qY ?_
   iterate 3 refine qN ?_
   iterate 2 refine qY ?_
   iterate 4 refine qN ?_
   iterate 2 refine qY ?_
   iterate 6 refine qN ?_
   refine qY ?_
   refine qE ?_
   replace X := X.below hbq
   replace R := R.below hbq
   replace b0 := btrans b0 hbq
   replace pB := Nat.le_trans pB hbq.size
   clear d0 d1 d2 hbq
   have fz := hj0.out (rfl)
   clear hj0 hj1 hsw hst hsm
   have x0 := X.range
   go_wp2_with (refine load43L (by rfl) (.tmp 2) rfl KX rfl [.int .i64 me, .bool false, .bool gone, .bool gate, .int .i64 inc, .int .i64 now, .int .i64 sq, .int .i64 turn, .slice ta T.length tc, .slice ca C.length cc, .int .i64 pn, .int .i64 ps, .int .i64 pq, .bool pa, .slice da D.length dc, .int .i64 cx, .int .i64 cy, .int .i64 ch, .int .i64 ce, .slice pla P.length plc, .slice oa O.length oc] x0 rfl ?_)
   refine (hcp _ b0).mono ?_
   rintro r w5 ⟨v1, v2, v3, v4, v5, sD, sP, sO, rfl, hN, k5⟩
   have hB := b0.size
   replace R := R.below k5
   replace b0 := btrans b0 k5
   obtain ⟨a1, c1, rfl, _⟩ := own_slice hN.t
   obtain ⟨a2, c2, rfl, _⟩ := own_slice hN.c
   obtain ⟨a3, c3, rfl, _⟩ := own_slice hN.d.row
   obtain ⟨a4, c4, rfl, _⟩ := own_slice hN.p.row
   obtain ⟨a5, c5, rfl, _⟩ := own_slice hN.o.row
   unfold ndW
   dsimp only at hN ⊢
   clear hcp x0 X k5
   have kA := balloc (.cells #[] 67) (Below.refl w5.heap.size w5)
   have hth : (w5.alloc (.cells #[] 67)).there (KX + 1) 0 21 := (R.below kA).there rfl
   have hr := read43 (World.rangeAt_setCells_same (w5.alloc (.cells #[] 67)) (KX + 1) 0 (#[.int .i64 me, .bool false, .bool gone, .bool gate, .int .i64 inc, .int .i64 now, .int .i64 sq, .int .i64 turn, .slice a1 T.length c1, .slice a2 C.length c2, .int .i64 pn, .int .i64 ps, .int .i64 pq, .bool pa, .slice a3 D.length c3, .int .i64 cx, .int .i64 cy, .int .i64 ch, .int .i64 ce, .slice a4 P.length c4, .slice a5 O.length c5] : Array Value).toList hth) rfl
   have b9 := below_cells (KX + 1) (#[.int .i64 me, .bool false, .bool gone, .bool gate, .int .i64 inc, .int .i64 now, .int .i64 sq, .int .i64 turn, .slice a1 T.length c1, .slice a2 C.length c2, .int .i64 pn, .int .i64 ps, .int .i64 pq, .bool pa, .slice a3 D.length c3, .int .i64 cx, .int .i64 cy, .int .i64 ch, .int .i64 ce, .slice a4 P.length c4, .slice a5 O.length c5] : Array Value).toList 0 (w5.alloc (.cells #[] 67)) g1 (btrans b0 kA)
   have wd := (WdO.made (w := w5) b0.size).mw (Mw.cells (b := KX + 1) (#[.int .i64 me, .bool false, .bool gone, .bool gate, .int .i64 inc, .int .i64 now, .int .i64 sq, .int .i64 turn, .slice a1 T.length c1, .slice a2 C.length c2, .int .i64 pn, .int .i64 ps, .int .i64 pq, .bool pa, .slice a3 D.length c3, .int .i64 cx, .int .i64 cy, .int .i64 ch, .int .i64 ce, .slice a4 P.length c4, .slice a5 O.length c5] : Array Value).toList) (fun x e q => by have := bkW_made _ _ _ e; have := R.lt; omega)
   have nd := ((hN.below kA).mw (Mw.cells (b := KX + 1) (#[.int .i64 me, .bool false, .bool gone, .bool gate, .int .i64 inc, .int .i64 now, .int .i64 sq, .int .i64 turn, .slice a1 T.length c1, .slice a2 C.length c2, .int .i64 pn, .int .i64 ps, .int .i64 pq, .bool pa, .slice a3 D.length c3, .int .i64 cx, .int .i64 cy, .int .i64 ch, .int .i64 ce, .slice a4 P.length c4, .slice a5 O.length c5] : Array Value).toList) (fun x e q => by have := (hN.lo x e).1; omega)).mono hB
   have nl := hN.lo
   have fin : NdWd w ((w5.alloc (.cells #[] 67)).setCells (KX + 1) 0 (#[.int .i64 me, .bool false, .bool gone, .bool gate, .int .i64 inc, .int .i64 now, .int .i64 sq, .int .i64 turn, .slice a1 T.length c1, .slice a2 C.length c2, .int .i64 pn, .int .i64 ps, .int .i64 pq, .bool pa, .slice a3 D.length c3, .int .i64 cx, .int .i64 cy, .int .i64 ch, .int .i64 ce, .slice a4 P.length c4, .slice a5 O.length c5] : Array Value).toList) (.returned (.tuple #[.agg #[.int .i64 me, .bool false, .bool gone, .bool gate, .int .i64 inc, .int .i64 now, .int .i64 sq, .int .i64 turn, .slice a1 T.length c1, .slice a2 C.length c2, .int .i64 pn, .int .i64 ps, .int .i64 pq, .bool pa, .slice a3 D.length c3, .int .i64 cx, .int .i64 cy, .int .i64 ch, .int .i64 ce, .slice a4 P.length c4, .slice a5 O.length c5], .slice (some ⟨w5.heap.size, 0, none⟩) 0 0])) (jnN ⟨me, false, gone, gate, inc, now, sq, turn, T, C, pn, ps, pq, pa, D, cx, cy, ch, ce, P, O⟩) (jnW ⟨me, false, gone, gate, inc, now, sq, turn, T, C, pn, ps, pq, pa, D, cx, cy, ch, ce, P, O⟩ to_) := by
    rw [fz.1, fz.2]
    exact ⟨_, _, _, _, _, _, sD, sP, sO, _, rfl, nd, wd, fun x e e2 => by have := (nl x e).2; have := bkW_made _ _ _ e2; omega, b9⟩
   clear wd fz nd nl hN
   go_wp2_with (refine wpList_store_mid rfl 42 _ _ rfl (KX + 1) 0 #[.int .i64 me, .bool false, .bool gone, .bool gate, .int .i64 inc, .int .i64 now, .int .i64 sq, .int .i64 turn, .slice a1 T.length c1, .slice a2 C.length c2, .int .i64 pn, .int .i64 ps, .int .i64 pq, .bool pa, .slice a3 D.length c3, .int .i64 cx, .int .i64 cy, .int .i64 ch, .int .i64 ce, .slice a4 P.length c4, .slice a5 O.length c5] rfl rfl hth (by kernel_rfl) (by kernel_rfl) ?_)
   clear hth b0 kA R
   generalize (w5.alloc (.cells #[] 67)).setCells (KX + 1) 0 (#[.int .i64 me, .bool false, .bool gone, .bool gate, .int .i64 inc, .int .i64 now, .int .i64 sq, .int .i64 turn, .slice a1 T.length c1, .slice a2 C.length c2, .int .i64 pn, .int .i64 ps, .int .i64 pq, .bool pa, .slice a3 D.length c3, .int .i64 cx, .int .i64 cy, .int .i64 ch, .int .i64 ce, .slice a4 P.length c4, .slice a5 O.length c5] : Array Value).toList = W4 at *
   refine bodyPost_ret (v := .tuple #[.agg #[.int .i64 me, .bool false, .bool gone, .bool gate, .int .i64 inc, .int .i64 now, .int .i64 sq, .int .i64 turn, .slice a1 T.length c1, .slice a2 C.length c2, .int .i64 pn, .int .i64 ps, .int .i64 pq, .bool pa, .slice a3 D.length c3, .int .i64 cx, .int .i64 cy, .int .i64 ch, .int .i64 ce, .slice a4 P.length c4, .slice a5 O.length c5], .slice (some ⟨w5.heap.size, 0, none⟩) 0 0]) ?_ rfl fin
   simp only [results, Tryz.results7]
   simp [asAddr, hr]
  ·skip
   cases gone
   ·skip
    cases zb0 : inb to_ 0 7
    ·have yb0 : Hid (inb to_ 0 7 = false) := zb0
     clear zb0
     refine wp_region_q s7_3 t7_3 (fun hbq => ?_)
     refine qY ?_
     refine qL ?_
     iterate 3 refine qY ?_
     refine qL ?_
     iterate 3 refine qY ?_
     refine qC (fun K hK => ?_)
     go_simp
     refine (lin_lit to_ 0 7 false yb0.out _).mono ?_; rintro r w3 ⟨rfl, hw⟩; obtain rfl := hw.symm; clear hw
     go_wp2_with fail
     refine hK.out _ _ hbq (.inl ?_)
     clear hK K
     try simp only [putQ]
     iterate 3 refine qY ?_
     iterate 4 refine qN ?_
     iterate 2 refine qY ?_
     iterate 6 refine qN ?_
     refine qY ?_
     refine qE ?_
     replace X := X.below hbq
     replace R := R.below hbq
     replace b0 := btrans b0 hbq
     replace pB := Nat.le_trans pB hbq.size
     clear d0 d1 d2 hbq
     have fz := hj0.out (by unfold mateB ofB; rw [yb0.out]; rfl)
     clear hj0 hj1 hsw hst hsm
     have x0 := X.range
     go_wp2_with (refine load43L (by rfl) (.tmp 2) rfl KX rfl [.int .i64 me, .bool true, .bool false, .bool gate, .int .i64 inc, .int .i64 now, .int .i64 sq, .int .i64 turn, .slice ta T.length tc, .slice ca C.length cc, .int .i64 pn, .int .i64 ps, .int .i64 pq, .bool pa, .slice da D.length dc, .int .i64 cx, .int .i64 cy, .int .i64 ch, .int .i64 ce, .slice pla P.length plc, .slice oa O.length oc] x0 rfl ?_)
     refine (hcp _ b0).mono ?_
     rintro r w5 ⟨v1, v2, v3, v4, v5, sD, sP, sO, rfl, hN, k5⟩
     have hB := b0.size
     replace R := R.below k5
     replace b0 := btrans b0 k5
     obtain ⟨a1, c1, rfl, _⟩ := own_slice hN.t
     obtain ⟨a2, c2, rfl, _⟩ := own_slice hN.c
     obtain ⟨a3, c3, rfl, _⟩ := own_slice hN.d.row
     obtain ⟨a4, c4, rfl, _⟩ := own_slice hN.p.row
     obtain ⟨a5, c5, rfl, _⟩ := own_slice hN.o.row
     unfold ndW
     dsimp only at hN ⊢
     clear hcp x0 X k5
     have kA := balloc (.cells #[] 67) (Below.refl w5.heap.size w5)
     have hth : (w5.alloc (.cells #[] 67)).there (KX + 1) 0 21 := (R.below kA).there rfl
     have hr := read43 (World.rangeAt_setCells_same (w5.alloc (.cells #[] 67)) (KX + 1) 0 (#[.int .i64 me, .bool true, .bool false, .bool gate, .int .i64 inc, .int .i64 now, .int .i64 sq, .int .i64 turn, .slice a1 T.length c1, .slice a2 C.length c2, .int .i64 pn, .int .i64 ps, .int .i64 pq, .bool pa, .slice a3 D.length c3, .int .i64 cx, .int .i64 cy, .int .i64 ch, .int .i64 ce, .slice a4 P.length c4, .slice a5 O.length c5] : Array Value).toList hth) rfl
     have b9 := below_cells (KX + 1) (#[.int .i64 me, .bool true, .bool false, .bool gate, .int .i64 inc, .int .i64 now, .int .i64 sq, .int .i64 turn, .slice a1 T.length c1, .slice a2 C.length c2, .int .i64 pn, .int .i64 ps, .int .i64 pq, .bool pa, .slice a3 D.length c3, .int .i64 cx, .int .i64 cy, .int .i64 ch, .int .i64 ce, .slice a4 P.length c4, .slice a5 O.length c5] : Array Value).toList 0 (w5.alloc (.cells #[] 67)) g1 (btrans b0 kA)
     have wd := (WdO.made (w := w5) b0.size).mw (Mw.cells (b := KX + 1) (#[.int .i64 me, .bool true, .bool false, .bool gate, .int .i64 inc, .int .i64 now, .int .i64 sq, .int .i64 turn, .slice a1 T.length c1, .slice a2 C.length c2, .int .i64 pn, .int .i64 ps, .int .i64 pq, .bool pa, .slice a3 D.length c3, .int .i64 cx, .int .i64 cy, .int .i64 ch, .int .i64 ce, .slice a4 P.length c4, .slice a5 O.length c5] : Array Value).toList) (fun x e q => by have := bkW_made _ _ _ e; have := R.lt; omega)
     have nd := ((hN.below kA).mw (Mw.cells (b := KX + 1) (#[.int .i64 me, .bool true, .bool false, .bool gate, .int .i64 inc, .int .i64 now, .int .i64 sq, .int .i64 turn, .slice a1 T.length c1, .slice a2 C.length c2, .int .i64 pn, .int .i64 ps, .int .i64 pq, .bool pa, .slice a3 D.length c3, .int .i64 cx, .int .i64 cy, .int .i64 ch, .int .i64 ce, .slice a4 P.length c4, .slice a5 O.length c5] : Array Value).toList) (fun x e q => by have := (hN.lo x e).1; omega)).mono hB
     have nl := hN.lo
     have fin : NdWd w ((w5.alloc (.cells #[] 67)).setCells (KX + 1) 0 (#[.int .i64 me, .bool true, .bool false, .bool gate, .int .i64 inc, .int .i64 now, .int .i64 sq, .int .i64 turn, .slice a1 T.length c1, .slice a2 C.length c2, .int .i64 pn, .int .i64 ps, .int .i64 pq, .bool pa, .slice a3 D.length c3, .int .i64 cx, .int .i64 cy, .int .i64 ch, .int .i64 ce, .slice a4 P.length c4, .slice a5 O.length c5] : Array Value).toList) (.returned (.tuple #[.agg #[.int .i64 me, .bool true, .bool false, .bool gate, .int .i64 inc, .int .i64 now, .int .i64 sq, .int .i64 turn, .slice a1 T.length c1, .slice a2 C.length c2, .int .i64 pn, .int .i64 ps, .int .i64 pq, .bool pa, .slice a3 D.length c3, .int .i64 cx, .int .i64 cy, .int .i64 ch, .int .i64 ce, .slice a4 P.length c4, .slice a5 O.length c5], .slice (some ⟨w5.heap.size, 0, none⟩) 0 0])) (jnN ⟨me, true, false, gate, inc, now, sq, turn, T, C, pn, ps, pq, pa, D, cx, cy, ch, ce, P, O⟩) (jnW ⟨me, true, false, gate, inc, now, sq, turn, T, C, pn, ps, pq, pa, D, cx, cy, ch, ce, P, O⟩ to_) := by
      rw [fz.1, fz.2]
      exact ⟨_, _, _, _, _, _, sD, sP, sO, _, rfl, nd, wd, fun x e e2 => by have := (nl x e).2; have := bkW_made _ _ _ e2; omega, b9⟩
     clear wd fz nd nl hN
     go_wp2_with (refine wpList_store_mid rfl 42 _ _ rfl (KX + 1) 0 #[.int .i64 me, .bool true, .bool false, .bool gate, .int .i64 inc, .int .i64 now, .int .i64 sq, .int .i64 turn, .slice a1 T.length c1, .slice a2 C.length c2, .int .i64 pn, .int .i64 ps, .int .i64 pq, .bool pa, .slice a3 D.length c3, .int .i64 cx, .int .i64 cy, .int .i64 ch, .int .i64 ce, .slice a4 P.length c4, .slice a5 O.length c5] rfl rfl hth (by kernel_rfl) (by kernel_rfl) ?_)
     clear hth b0 kA R
     generalize (w5.alloc (.cells #[] 67)).setCells (KX + 1) 0 (#[.int .i64 me, .bool true, .bool false, .bool gate, .int .i64 inc, .int .i64 now, .int .i64 sq, .int .i64 turn, .slice a1 T.length c1, .slice a2 C.length c2, .int .i64 pn, .int .i64 ps, .int .i64 pq, .bool pa, .slice a3 D.length c3, .int .i64 cx, .int .i64 cy, .int .i64 ch, .int .i64 ce, .slice a4 P.length c4, .slice a5 O.length c5] : Array Value).toList = W4 at *
     refine bodyPost_ret (v := .tuple #[.agg #[.int .i64 me, .bool true, .bool false, .bool gate, .int .i64 inc, .int .i64 now, .int .i64 sq, .int .i64 turn, .slice a1 T.length c1, .slice a2 C.length c2, .int .i64 pn, .int .i64 ps, .int .i64 pq, .bool pa, .slice a3 D.length c3, .int .i64 cx, .int .i64 cy, .int .i64 ch, .int .i64 ce, .slice a4 P.length c4, .slice a5 O.length c5], .slice (some ⟨w5.heap.size, 0, none⟩) 0 0]) ?_ rfl fin
     simp only [results, Tryz.results7]
     simp [asAddr, hr]
    ·have yb0 : Hid (inb to_ 0 7 = true) := zb0
     clear zb0
     by_cases q1 : to_ = me
     ·have yq1 : Hid (to_ = me) := q1
      clear q1
      refine wp_region_q s7_3 t7_3 (fun hbq => ?_)
      refine qY ?_
      refine qL ?_
      iterate 3 refine qY ?_
      refine qL ?_
      iterate 3 refine qY ?_
      refine qC (fun K hK => ?_)
      go_simp
      refine (lin_lit to_ 0 7 true yb0.out _).mono ?_; rintro r w3 ⟨rfl, hw⟩; obtain rfl := hw.symm; clear hw
      go_wp2_with fail
      refine hK.out _ _ hbq (.inl ?_)
      clear hK K
      try simp only [putQ]
      iterate 5 refine qY ?_
      refine qL ?_
      refine qV (.bool true) ?_ (by (intro w; go_simp; all_goals (first | with_reducible rfl | (simp [yq1.out]; done) | assumption | (simp; done) | (simp; omega))))
      iterate 2 refine qY ?_
      iterate 6 refine qN ?_
      refine qY ?_
      refine qE ?_
      replace X := X.below hbq
      replace R := R.below hbq
      replace b0 := btrans b0 hbq
      replace pB := Nat.le_trans pB hbq.size
      clear d0 d1 d2 hbq
      have fz := hj0.out (by unfold mateB; simp [yq1.out])
      clear hj0 hj1 hsw hst hsm
      have x0 := X.range
      go_wp2_with (refine load43L (by rfl) (.tmp 2) rfl KX rfl [.int .i64 me, .bool true, .bool false, .bool gate, .int .i64 inc, .int .i64 now, .int .i64 sq, .int .i64 turn, .slice ta T.length tc, .slice ca C.length cc, .int .i64 pn, .int .i64 ps, .int .i64 pq, .bool pa, .slice da D.length dc, .int .i64 cx, .int .i64 cy, .int .i64 ch, .int .i64 ce, .slice pla P.length plc, .slice oa O.length oc] x0 rfl ?_)
      refine (hcp _ b0).mono ?_
      rintro r w5 ⟨v1, v2, v3, v4, v5, sD, sP, sO, rfl, hN, k5⟩
      have hB := b0.size
      replace R := R.below k5
      replace b0 := btrans b0 k5
      obtain ⟨a1, c1, rfl, _⟩ := own_slice hN.t
      obtain ⟨a2, c2, rfl, _⟩ := own_slice hN.c
      obtain ⟨a3, c3, rfl, _⟩ := own_slice hN.d.row
      obtain ⟨a4, c4, rfl, _⟩ := own_slice hN.p.row
      obtain ⟨a5, c5, rfl, _⟩ := own_slice hN.o.row
      unfold ndW
      dsimp only at hN ⊢
      clear hcp x0 X k5
      have kA := balloc (.cells #[] 67) (Below.refl w5.heap.size w5)
      have hth : (w5.alloc (.cells #[] 67)).there (KX + 1) 0 21 := (R.below kA).there rfl
      have hr := read43 (World.rangeAt_setCells_same (w5.alloc (.cells #[] 67)) (KX + 1) 0 (#[.int .i64 me, .bool true, .bool false, .bool gate, .int .i64 inc, .int .i64 now, .int .i64 sq, .int .i64 turn, .slice a1 T.length c1, .slice a2 C.length c2, .int .i64 pn, .int .i64 ps, .int .i64 pq, .bool pa, .slice a3 D.length c3, .int .i64 cx, .int .i64 cy, .int .i64 ch, .int .i64 ce, .slice a4 P.length c4, .slice a5 O.length c5] : Array Value).toList hth) rfl
      have b9 := below_cells (KX + 1) (#[.int .i64 me, .bool true, .bool false, .bool gate, .int .i64 inc, .int .i64 now, .int .i64 sq, .int .i64 turn, .slice a1 T.length c1, .slice a2 C.length c2, .int .i64 pn, .int .i64 ps, .int .i64 pq, .bool pa, .slice a3 D.length c3, .int .i64 cx, .int .i64 cy, .int .i64 ch, .int .i64 ce, .slice a4 P.length c4, .slice a5 O.length c5] : Array Value).toList 0 (w5.alloc (.cells #[] 67)) g1 (btrans b0 kA)
      have wd := (WdO.made (w := w5) b0.size).mw (Mw.cells (b := KX + 1) (#[.int .i64 me, .bool true, .bool false, .bool gate, .int .i64 inc, .int .i64 now, .int .i64 sq, .int .i64 turn, .slice a1 T.length c1, .slice a2 C.length c2, .int .i64 pn, .int .i64 ps, .int .i64 pq, .bool pa, .slice a3 D.length c3, .int .i64 cx, .int .i64 cy, .int .i64 ch, .int .i64 ce, .slice a4 P.length c4, .slice a5 O.length c5] : Array Value).toList) (fun x e q => by have := bkW_made _ _ _ e; have := R.lt; omega)
      have nd := ((hN.below kA).mw (Mw.cells (b := KX + 1) (#[.int .i64 me, .bool true, .bool false, .bool gate, .int .i64 inc, .int .i64 now, .int .i64 sq, .int .i64 turn, .slice a1 T.length c1, .slice a2 C.length c2, .int .i64 pn, .int .i64 ps, .int .i64 pq, .bool pa, .slice a3 D.length c3, .int .i64 cx, .int .i64 cy, .int .i64 ch, .int .i64 ce, .slice a4 P.length c4, .slice a5 O.length c5] : Array Value).toList) (fun x e q => by have := (hN.lo x e).1; omega)).mono hB
      have nl := hN.lo
      have fin : NdWd w ((w5.alloc (.cells #[] 67)).setCells (KX + 1) 0 (#[.int .i64 me, .bool true, .bool false, .bool gate, .int .i64 inc, .int .i64 now, .int .i64 sq, .int .i64 turn, .slice a1 T.length c1, .slice a2 C.length c2, .int .i64 pn, .int .i64 ps, .int .i64 pq, .bool pa, .slice a3 D.length c3, .int .i64 cx, .int .i64 cy, .int .i64 ch, .int .i64 ce, .slice a4 P.length c4, .slice a5 O.length c5] : Array Value).toList) (.returned (.tuple #[.agg #[.int .i64 me, .bool true, .bool false, .bool gate, .int .i64 inc, .int .i64 now, .int .i64 sq, .int .i64 turn, .slice a1 T.length c1, .slice a2 C.length c2, .int .i64 pn, .int .i64 ps, .int .i64 pq, .bool pa, .slice a3 D.length c3, .int .i64 cx, .int .i64 cy, .int .i64 ch, .int .i64 ce, .slice a4 P.length c4, .slice a5 O.length c5], .slice (some ⟨w5.heap.size, 0, none⟩) 0 0])) (jnN ⟨me, true, false, gate, inc, now, sq, turn, T, C, pn, ps, pq, pa, D, cx, cy, ch, ce, P, O⟩) (jnW ⟨me, true, false, gate, inc, now, sq, turn, T, C, pn, ps, pq, pa, D, cx, cy, ch, ce, P, O⟩ to_) := by
       rw [fz.1, fz.2]
       exact ⟨_, _, _, _, _, _, sD, sP, sO, _, rfl, nd, wd, fun x e e2 => by have := (nl x e).2; have := bkW_made _ _ _ e2; omega, b9⟩
      clear wd fz nd nl hN
      go_wp2_with (refine wpList_store_mid rfl 42 _ _ rfl (KX + 1) 0 #[.int .i64 me, .bool true, .bool false, .bool gate, .int .i64 inc, .int .i64 now, .int .i64 sq, .int .i64 turn, .slice a1 T.length c1, .slice a2 C.length c2, .int .i64 pn, .int .i64 ps, .int .i64 pq, .bool pa, .slice a3 D.length c3, .int .i64 cx, .int .i64 cy, .int .i64 ch, .int .i64 ce, .slice a4 P.length c4, .slice a5 O.length c5] rfl rfl hth (by kernel_rfl) (by kernel_rfl) ?_)
      clear hth b0 kA R
      generalize (w5.alloc (.cells #[] 67)).setCells (KX + 1) 0 (#[.int .i64 me, .bool true, .bool false, .bool gate, .int .i64 inc, .int .i64 now, .int .i64 sq, .int .i64 turn, .slice a1 T.length c1, .slice a2 C.length c2, .int .i64 pn, .int .i64 ps, .int .i64 pq, .bool pa, .slice a3 D.length c3, .int .i64 cx, .int .i64 cy, .int .i64 ch, .int .i64 ce, .slice a4 P.length c4, .slice a5 O.length c5] : Array Value).toList = W4 at *
      refine bodyPost_ret (v := .tuple #[.agg #[.int .i64 me, .bool true, .bool false, .bool gate, .int .i64 inc, .int .i64 now, .int .i64 sq, .int .i64 turn, .slice a1 T.length c1, .slice a2 C.length c2, .int .i64 pn, .int .i64 ps, .int .i64 pq, .bool pa, .slice a3 D.length c3, .int .i64 cx, .int .i64 cy, .int .i64 ch, .int .i64 ce, .slice a4 P.length c4, .slice a5 O.length c5], .slice (some ⟨w5.heap.size, 0, none⟩) 0 0]) ?_ rfl fin
      simp only [results, Tryz.results7]
      simp [asAddr, hr]
     ·have zq1 : (to_ == me) = false := by simpa using q1
      by_cases q2 : st = sm
      ·have yq2 : Hid (st = sm) := q2
       clear q2
       refine wp_region_q s7_3 t7_3 (fun hbq => ?_)
       refine qY ?_
       refine qL ?_
       iterate 3 refine qY ?_
       refine qL ?_
       iterate 3 refine qY ?_
       refine qC (fun K hK => ?_)
       go_simp
       refine (lin_lit to_ 0 7 true yb0.out _).mono ?_; rintro r w3 ⟨rfl, hw⟩; obtain rfl := hw.symm; clear hw
       go_wp2_with fail
       refine hK.out _ _ hbq (.inl ?_)
       clear hK K
       try simp only [putQ]
       iterate 5 refine qY ?_
       refine qL ?_
       refine qV (.bool false) ?_ (by (intro w; go_simp; all_goals (first | with_reducible rfl | (simp [q1]; done) | assumption | (simp; done) | (simp; omega))))
       iterate 4 refine qY ?_
       refine qL ?_
       refine qC (fun K hK => ?_)
       go_simp
       refine (lsite_any to_ _).mono ?_; rintro r w3 ⟨rfl, hw⟩; obtain rfl := hw.symm; clear hw; rw [hst.out]
       go_wp2_with fail
       refine hK.out _ _ hbq (.inl ?_)
       clear hK K
       try simp only [putQ]
       refine qC (fun K hK => ?_)
       go_simp
       refine (lsite_any me _).mono ?_; rintro r w3 ⟨rfl, hw⟩; obtain rfl := hw.symm; clear hw; rw [hsm.out]
       go_wp2_with fail
       refine hK.out _ _ hbq (.inl ?_)
       clear hK K
       try simp only [putQ]
       refine qV (.bool false) ?_ (by (intro w; go_simp; all_goals (first | with_reducible rfl | (simp [yq2.out]; done) | assumption | (simp; done) | (simp; omega))))
       refine qY ?_
       refine qE ?_
       replace X := X.below hbq
       replace R := R.below hbq
       replace b0 := btrans b0 hbq
       replace pB := Nat.le_trans pB hbq.size
       clear d0 d1 d2 hbq
       have fz := hj1.out (by unfold mateB ofB; rw [yb0.out, hst.out, hsm.out]; simp [q1, yq2.out])
       clear hj0 hj1 hst hsm
       go_upto_region 5 with fail
       generalize w1.drew = wq at *
       have x0 := X.range
       have d0 := X.c 0 (.int .i64 me) rfl
       have d8 := X.c 8 (.slice ta T.length tc) rfl
       have hBB := b0.size
       refine wp_region_wf (fun x => x = KX + 1) sp7_5 tp7_5 (i := 9) (j := 10) (si := sa7_5) (sj := sb7_5) (r1 := [(10, 1), (11, 0)]) (r2 := [(9, 1), (11, 0)]) (L1 := [sb7_5, sc7_5]) (L2 := [sa7_5, sc7_5]) (fun hbq => ?_)
       refine mR ?_
       refine mR ?_
       refine mY ?_
       refine mY ?_
       refine mL ?_
       refine mY ?_
       refine mL ?_
       refine mC (fun K hK => ?_)
       go_simp
       refine (hcp _ (⟨b0.os, b0.tape, b0.output, b0.size, b0.block⟩ : Below w.heap.size w (World.drew _))).mono ?_; rintro r w5 ⟨v1, v2, v3, v4, v5, sD, sP, sO, rfl, hN, k5⟩
       obtain ⟨a1, c1, rfl, _⟩ := own_slice hN.t
       obtain ⟨a2, c2, rfl, _⟩ := own_slice hN.c
       obtain ⟨a3, c3, rfl, _⟩ := own_slice hN.d.row
       obtain ⟨a4, c4, rfl, _⟩ := own_slice hN.p.row
       obtain ⟨a5, c5, rfl, _⟩ := own_slice hN.o.row
       unfold ndW
       dsimp only at hN ⊢
       go_wp2_with fail
       refine hK.out _ _ (hbq.trans (Mw.of_below k5)) (.inl ?_)
       clear hK K
       try simp only [putQ]
       have b5 : Below w.heap.size w w5 := btrans (⟨b0.os, b0.tape, b0.output, b0.size, b0.block⟩ : Below w.heap.size w (World.drew _)) k5
       refine mC (fun K hK => ?_)
       go_simp
       refine (hsw _ b5).mono ?_; rintro r w8 ⟨vf, rfl, of, k8⟩
       obtain ⟨af, cf, rfl, _⟩ := own_slice of
       unfold woC
       dsimp only at of ⊢
       go_wp2_with fail
       refine hK.out _ _ ((hbq.trans (Mw.of_below k5)).trans (Mw.of_below k8)) (.inl ?_)
       clear hK K
       try simp only [putQ]
       have hB : w.heap.size ≤ w5.heap.size := b5.size
       have b8 := btrans b5 k8
       have h5 : KX + 1 + 1 ≤ w5.heap.size := Nat.le_trans pB k5.size
       have h58 : w5.heap.size ≤ w8.heap.size := k8.size
       have R8 : Ws w8 (KX + 1) [.int .i64 0, .bool false, .bool false, .bool false, .int .i64 0, .int .i64 0, .int .i64 0, .int .i64 0, .slice none 0 0, .slice none 0 0, .int .i64 0, .int .i64 0, .int .i64 0, .bool false, .slice none 0 0, .int .i64 0, .int .i64 0, .int .i64 0, .int .i64 0, .slice none 0 0, .slice none 0 0] := (R.below (⟨k5.os, k5.tape, k5.output, k5.size, k5.block⟩ : Below wq.heap.size wq w5)).below k8
       have pB' : KX + 1 + 1 ≤ wq.drew.heap.size := pB
       have nl := hN.lo
       have hN8 := hN.below k8
       have hm8 := (hbq.trans (Mw.of_below k5)).trans (Mw.of_below k8)
       have nO : ∀ x, (Value.slice af T.length cf).ownBlock = some x → w5.heap.size ≤ x := fun x e => (of.lt x e).1
       clear hcp hsw x0 X R d0 d8 b0 b5 k5 k8 hN
       refine mE ⟨?_, ?_⟩
       ·refine mC (fun K hK => ?_)
        go_simp
        have kA := balloc (.cells #[.int .i64 1, .int .i64 4, .int .i64 me, .int .i64 to_, .int .i64 0, .int .i64 me, .int .i64 cx, .int .i64 cy, .int .i64 ch, .int .i64 ce, .slice af T.length cf] 67) (Below.refl w8.heap.size w8)
        refine hK.out _ _ (hm8.trans (Mw.of_below kA)) (.inl ?_)
        clear hK K
        try simp only [putQ]
        have hth : (w8.alloc (.cells #[.int .i64 1, .int .i64 4, .int .i64 me, .int .i64 to_, .int .i64 0, .int .i64 me, .int .i64 cx, .int .i64 cy, .int .i64 ch, .int .i64 ce, .slice af T.length cf] 67)).there (KX + 1) 0 21 := (R8.below kA).there rfl
        refine mC (fun K hK => ?_)
        refine wp_store_mid 42 _ _ rfl (KX + 1) 0 #[.int .i64 me, .bool true, .bool false, .bool gate, .int .i64 inc, .int .i64 now, .int .i64 sq, .int .i64 turn, .slice a1 T.length c1, .slice a2 C.length c2, .int .i64 pn, .int .i64 ps, .int .i64 pq, .bool pa, .slice a3 D.length c3, .int .i64 cx, .int .i64 cy, .int .i64 ch, .int .i64 ce, .slice a4 P.length c4, .slice a5 O.length c5] rfl rfl hth (by kernel_rfl) (by kernel_rfl) ?_
        refine hK.out _ _ ((hm8.trans (Mw.of_below kA)).trans (Mw.cells _)) (.inl ?_)
        clear hK K
        try simp only [putQ]
        refine mY ?_
        refine mE ?_
        have hr := read43 (World.rangeAt_setCells_same (w8.alloc (.cells #[.int .i64 1, .int .i64 4, .int .i64 me, .int .i64 to_, .int .i64 0, .int .i64 me, .int .i64 cx, .int .i64 cy, .int .i64 ch, .int .i64 ce, .slice af T.length cf] 67)) (KX + 1) 0 (#[.int .i64 me, .bool true, .bool false, .bool gate, .int .i64 inc, .int .i64 now, .int .i64 sq, .int .i64 turn, .slice a1 T.length c1, .slice a2 C.length c2, .int .i64 pn, .int .i64 ps, .int .i64 pq, .bool pa, .slice a3 D.length c3, .int .i64 cx, .int .i64 cy, .int .i64 ch, .int .i64 ce, .slice a4 P.length c4, .slice a5 O.length c5] : Array Value).toList hth) rfl
        have b9 := below_cells (KX + 1) (#[.int .i64 me, .bool true, .bool false, .bool gate, .int .i64 inc, .int .i64 now, .int .i64 sq, .int .i64 turn, .slice a1 T.length c1, .slice a2 C.length c2, .int .i64 pn, .int .i64 ps, .int .i64 pq, .bool pa, .slice a3 D.length c3, .int .i64 cx, .int .i64 cy, .int .i64 ch, .int .i64 ce, .slice a4 P.length c4, .slice a5 O.length c5] : Array Value).toList 0 (w8.alloc (.cells #[.int .i64 1, .int .i64 4, .int .i64 me, .int .i64 to_, .int .i64 0, .int .i64 me, .int .i64 cx, .int .i64 cy, .int .i64 ch, .int .i64 ce, .slice af T.length cf] 67)) g1 (btrans b8 kA)
        have wd := (WdO.one (w := w8) (x := wordD ⟨me, true, false, gate, inc, now, sq, turn, T, C, pn, ps, pq, pa, D, cx, cy, ch, ce, P, O⟩ 4 to_ T) (vf := .slice af T.length cf) (base := w5.heap.size) h58 of hTm).mw (Mw.cells (b := KX + 1) (#[.int .i64 me, .bool true, .bool false, .bool gate, .int .i64 inc, .int .i64 now, .int .i64 sq, .int .i64 turn, .slice a1 T.length c1, .slice a2 C.length c2, .int .i64 pn, .int .i64 ps, .int .i64 pq, .bool pa, .slice a3 D.length c3, .int .i64 cx, .int .i64 cy, .int .i64 ch, .int .i64 ce, .slice a4 P.length c4, .slice a5 O.length c5] : Array Value).toList) (fun x e q => by
         rcases e with e | ⟨j, hj, e⟩
         ·simp [Value.ownBlock] at e; omega
         ·have := nO x e; omega)
        have nd := ((hN8.below kA).mw (Mw.cells (b := KX + 1) (#[.int .i64 me, .bool true, .bool false, .bool gate, .int .i64 inc, .int .i64 now, .int .i64 sq, .int .i64 turn, .slice a1 T.length c1, .slice a2 C.length c2, .int .i64 pn, .int .i64 ps, .int .i64 pq, .bool pa, .slice a3 D.length c3, .int .i64 cx, .int .i64 cy, .int .i64 ch, .int .i64 ce, .slice a4 P.length c4, .slice a5 O.length c5] : Array Value).toList) (fun x e q => by have := (nl x e).1; omega)).mono hBB
        have fin : NdWd w ((w8.alloc (.cells #[.int .i64 1, .int .i64 4, .int .i64 me, .int .i64 to_, .int .i64 0, .int .i64 me, .int .i64 cx, .int .i64 cy, .int .i64 ch, .int .i64 ce, .slice af T.length cf] 67)).setCells (KX + 1) 0 (#[.int .i64 me, .bool true, .bool false, .bool gate, .int .i64 inc, .int .i64 now, .int .i64 sq, .int .i64 turn, .slice a1 T.length c1, .slice a2 C.length c2, .int .i64 pn, .int .i64 ps, .int .i64 pq, .bool pa, .slice a3 D.length c3, .int .i64 cx, .int .i64 cy, .int .i64 ch, .int .i64 ce, .slice a4 P.length c4, .slice a5 O.length c5] : Array Value).toList) (.returned (.tuple #[.agg #[.int .i64 me, .bool true, .bool false, .bool gate, .int .i64 inc, .int .i64 now, .int .i64 sq, .int .i64 turn, .slice a1 T.length c1, .slice a2 C.length c2, .int .i64 pn, .int .i64 ps, .int .i64 pq, .bool pa, .slice a3 D.length c3, .int .i64 cx, .int .i64 cy, .int .i64 ch, .int .i64 ce, .slice a4 P.length c4, .slice a5 O.length c5], .slice (some ⟨w8.heap.size, 0, none⟩) 1 1])) (jnN ⟨me, true, false, gate, inc, now, sq, turn, T, C, pn, ps, pq, pa, D, cx, cy, ch, ce, P, O⟩) (jnW ⟨me, true, false, gate, inc, now, sq, turn, T, C, pn, ps, pq, pa, D, cx, cy, ch, ce, P, O⟩ to_) := by
         rw [fz.1, fz.2]
         exact ⟨_, _, _, _, _, _, sD, sP, sO, _, rfl, nd, wd.mono hB, fun x e e2 => by
          have := (nl x e).2
          rcases e2 with e2 | ⟨j, hj, e2⟩
          ·simp [Value.ownBlock] at e2; omega
          ·have := nO x e2; omega, b9⟩
        clear wd nd hN8 of hm8 R8 nl hth
        generalize (w8.alloc (.cells #[.int .i64 1, .int .i64 4, .int .i64 me, .int .i64 to_, .int .i64 0, .int .i64 me, .int .i64 cx, .int .i64 cy, .int .i64 ch, .int .i64 ce, .slice af T.length cf] 67)).setCells (KX + 1) 0 (#[.int .i64 me, .bool true, .bool false, .bool gate, .int .i64 inc, .int .i64 now, .int .i64 sq, .int .i64 turn, .slice a1 T.length c1, .slice a2 C.length c2, .int .i64 pn, .int .i64 ps, .int .i64 pq, .bool pa, .slice a3 D.length c3, .int .i64 cx, .int .i64 cy, .int .i64 ch, .int .i64 ce, .slice a4 P.length c4, .slice a5 O.length c5] : Array Value).toList = W4 at *
        go_wp2
        refine bodyPost_ret (v := .tuple #[.agg #[.int .i64 me, .bool true, .bool false, .bool gate, .int .i64 inc, .int .i64 now, .int .i64 sq, .int .i64 turn, .slice a1 T.length c1, .slice a2 C.length c2, .int .i64 pn, .int .i64 ps, .int .i64 pq, .bool pa, .slice a3 D.length c3, .int .i64 cx, .int .i64 cy, .int .i64 ch, .int .i64 ce, .slice a4 P.length c4, .slice a5 O.length c5], .slice (some ⟨w8.heap.size, 0, none⟩) 1 1]) ?_ rfl fin
        simp only [results, Tryz.results7]
        simp [asAddr, hr]
       ·have hth : w8.there (KX + 1) 0 21 := R8.there rfl
        refine mC (fun K hK => ?_)
        refine wp_store_mid 42 _ _ rfl (KX + 1) 0 #[.int .i64 me, .bool true, .bool false, .bool gate, .int .i64 inc, .int .i64 now, .int .i64 sq, .int .i64 turn, .slice a1 T.length c1, .slice a2 C.length c2, .int .i64 pn, .int .i64 ps, .int .i64 pq, .bool pa, .slice a3 D.length c3, .int .i64 cx, .int .i64 cy, .int .i64 ch, .int .i64 ce, .slice a4 P.length c4, .slice a5 O.length c5] rfl rfl hth (by kernel_rfl) (by kernel_rfl) ?_
        refine hK.out _ _ (hm8.trans (Mw.cells _)) (.inl ?_)
        clear hK K
        try simp only [putQ]
        have m9 := hm8.trans (Mw.cells (b := KX + 1) (#[.int .i64 me, .bool true, .bool false, .bool gate, .int .i64 inc, .int .i64 now, .int .i64 sq, .int .i64 turn, .slice a1 T.length c1, .slice a2 C.length c2, .int .i64 pn, .int .i64 ps, .int .i64 pq, .bool pa, .slice a3 D.length c3, .int .i64 cx, .int .i64 cy, .int .i64 ch, .int .i64 ce, .slice a4 P.length c4, .slice a5 O.length c5] : Array Value).toList)
        have rr := World.rangeAt_setCells_same w8 (KX + 1) 0 (#[.int .i64 me, .bool true, .bool false, .bool gate, .int .i64 inc, .int .i64 now, .int .i64 sq, .int .i64 turn, .slice a1 T.length c1, .slice a2 C.length c2, .int .i64 pn, .int .i64 ps, .int .i64 pq, .bool pa, .slice a3 D.length c3, .int .i64 cx, .int .i64 cy, .int .i64 ch, .int .i64 ce, .slice a4 P.length c4, .slice a5 O.length c5] : Array Value).toList hth
        have b9 := below_cells (KX + 1) (#[.int .i64 me, .bool true, .bool false, .bool gate, .int .i64 inc, .int .i64 now, .int .i64 sq, .int .i64 turn, .slice a1 T.length c1, .slice a2 C.length c2, .int .i64 pn, .int .i64 ps, .int .i64 pq, .bool pa, .slice a3 D.length c3, .int .i64 cx, .int .i64 cy, .int .i64 ch, .int .i64 ce, .slice a4 P.length c4, .slice a5 O.length c5] : Array Value).toList 0 w8 g1 b8
        have nd := (hN8.mw (Mw.cells (b := KX + 1) (#[.int .i64 me, .bool true, .bool false, .bool gate, .int .i64 inc, .int .i64 now, .int .i64 sq, .int .i64 turn, .slice a1 T.length c1, .slice a2 C.length c2, .int .i64 pn, .int .i64 ps, .int .i64 pq, .bool pa, .slice a3 D.length c3, .int .i64 cx, .int .i64 cy, .int .i64 ch, .int .i64 ce, .slice a4 P.length c4, .slice a5 O.length c5] : Array Value).toList) (fun x e q => by have := (nl x e).1; omega)).mono hBB
        have of9 := own_mw of (Mw.cells (b := KX + 1) (#[.int .i64 me, .bool true, .bool false, .bool gate, .int .i64 inc, .int .i64 now, .int .i64 sq, .int .i64 turn, .slice a1 T.length c1, .slice a2 C.length c2, .int .i64 pn, .int .i64 ps, .int .i64 pq, .bool pa, .slice a3 D.length c3, .int .i64 cx, .int .i64 cy, .int .i64 ch, .int .i64 ce, .slice a4 P.length c4, .slice a5 O.length c5] : Array Value).toList) (fun x e q => by have := nO x e; omega)
        have hsz := Nat.le_trans h58 (Mw.cells (b := KX + 1) (w := w8) (#[.int .i64 me, .bool true, .bool false, .bool gate, .int .i64 inc, .int .i64 now, .int .i64 sq, .int .i64 turn, .slice a1 T.length c1, .slice a2 C.length c2, .int .i64 pn, .int .i64 ps, .int .i64 pq, .bool pa, .slice a3 D.length c3, .int .i64 cx, .int .i64 cy, .int .i64 ch, .int .i64 ce, .slice a4 P.length c4, .slice a5 O.length c5] : Array Value).toList).size
        clear hth hN8 of hm8 R8 b8
        generalize w8.setCells (KX + 1) 0 (#[.int .i64 me, .bool true, .bool false, .bool gate, .int .i64 inc, .int .i64 now, .int .i64 sq, .int .i64 turn, .slice a1 T.length c1, .slice a2 C.length c2, .int .i64 pn, .int .i64 ps, .int .i64 pq, .bool pa, .slice a3 D.length c3, .int .i64 cx, .int .i64 cy, .int .i64 ch, .int .i64 ce, .slice a4 P.length c4, .slice a5 O.length c5] : Array Value).toList = w9 at *
        refine mC (fun K hK => ?_)
        go_simp
        have kA := balloc (.cells #[.int .i64 1, .int .i64 4, .int .i64 me, .int .i64 to_, .int .i64 0, .int .i64 me, .int .i64 cx, .int .i64 cy, .int .i64 ch, .int .i64 ce, .slice af T.length cf] 67) (Below.refl w9.heap.size w9)
        refine hK.out _ _ (m9.trans (Mw.of_below kA)) (.inl ?_)
        clear hK K
        try simp only [putQ]
        refine mY ?_
        refine mE ?_
        have hr := read43 (range_keep rr kA) rfl
        have wd := WdO.one (w := w9) (x := wordD ⟨me, true, false, gate, inc, now, sq, turn, T, C, pn, ps, pq, pa, D, cx, cy, ch, ce, P, O⟩ 4 to_ T) (vf := .slice af T.length cf) (base := w5.heap.size) hsz of9 hTm
        have fin : NdWd w (w9.alloc (.cells #[.int .i64 1, .int .i64 4, .int .i64 me, .int .i64 to_, .int .i64 0, .int .i64 me, .int .i64 cx, .int .i64 cy, .int .i64 ch, .int .i64 ce, .slice af T.length cf] 67)) (.returned (.tuple #[.agg #[.int .i64 me, .bool true, .bool false, .bool gate, .int .i64 inc, .int .i64 now, .int .i64 sq, .int .i64 turn, .slice a1 T.length c1, .slice a2 C.length c2, .int .i64 pn, .int .i64 ps, .int .i64 pq, .bool pa, .slice a3 D.length c3, .int .i64 cx, .int .i64 cy, .int .i64 ch, .int .i64 ce, .slice a4 P.length c4, .slice a5 O.length c5], .slice (some ⟨w9.heap.size, 0, none⟩) 1 1])) (jnN ⟨me, true, false, gate, inc, now, sq, turn, T, C, pn, ps, pq, pa, D, cx, cy, ch, ce, P, O⟩) (jnW ⟨me, true, false, gate, inc, now, sq, turn, T, C, pn, ps, pq, pa, D, cx, cy, ch, ce, P, O⟩ to_) := by
         rw [fz.1, fz.2]
         exact ⟨_, _, _, _, _, _, sD, sP, sO, _, rfl, nd.below kA, wd.mono hB, fun x e e2 => by
          have := (nl x e).2
          rcases e2 with e2 | ⟨j, hj, e2⟩
          ·simp [Value.ownBlock] at e2; omega
          ·have := nO x e2; omega, btrans b9 kA⟩
        clear wd nd of9 m9 nl rr b9 kA
        generalize w9.alloc (.cells #[.int .i64 1, .int .i64 4, .int .i64 me, .int .i64 to_, .int .i64 0, .int .i64 me, .int .i64 cx, .int .i64 cy, .int .i64 ch, .int .i64 ce, .slice af T.length cf] 67) = W4 at *
        go_wp2
        refine bodyPost_ret (v := .tuple #[.agg #[.int .i64 me, .bool true, .bool false, .bool gate, .int .i64 inc, .int .i64 now, .int .i64 sq, .int .i64 turn, .slice a1 T.length c1, .slice a2 C.length c2, .int .i64 pn, .int .i64 ps, .int .i64 pq, .bool pa, .slice a3 D.length c3, .int .i64 cx, .int .i64 cy, .int .i64 ch, .int .i64 ce, .slice a4 P.length c4, .slice a5 O.length c5], .slice (some ⟨w9.heap.size, 0, none⟩) 1 1]) ?_ rfl fin
        simp only [results, Tryz.results7]
        simp [asAddr, hr]
      ·have zq2 : (st == sm) = false := by simpa using q2
       refine wp_region_q s7_3 t7_3 (fun hbq => ?_)
       refine qY ?_
       refine qL ?_
       iterate 3 refine qY ?_
       refine qL ?_
       iterate 3 refine qY ?_
       refine qC (fun K hK => ?_)
       go_simp
       refine (lin_lit to_ 0 7 true yb0.out _).mono ?_; rintro r w3 ⟨rfl, hw⟩; obtain rfl := hw.symm; clear hw
       go_wp2_with fail
       refine hK.out _ _ hbq (.inl ?_)
       clear hK K
       try simp only [putQ]
       iterate 5 refine qY ?_
       refine qL ?_
       refine qV (.bool false) ?_ (by (intro w; go_simp; all_goals (first | with_reducible rfl | (simp [q1]; done) | assumption | (simp; done) | (simp; omega))))
       iterate 4 refine qY ?_
       refine qL ?_
       refine qC (fun K hK => ?_)
       go_simp
       refine (lsite_any to_ _).mono ?_; rintro r w3 ⟨rfl, hw⟩; obtain rfl := hw.symm; clear hw; rw [hst.out]
       go_wp2_with fail
       refine hK.out _ _ hbq (.inl ?_)
       clear hK K
       try simp only [putQ]
       refine qC (fun K hK => ?_)
       go_simp
       refine (lsite_any me _).mono ?_; rintro r w3 ⟨rfl, hw⟩; obtain rfl := hw.symm; clear hw; rw [hsm.out]
       go_wp2_with fail
       refine hK.out _ _ hbq (.inl ?_)
       clear hK K
       try simp only [putQ]
       refine qV (.bool true) ?_ (by (intro w; go_simp; all_goals (first | with_reducible rfl | (simp [q2]; done) | assumption | (simp; done) | (simp; omega))))
       refine qY ?_
       refine qE ?_
       replace X := X.below hbq
       replace R := R.below hbq
       replace b0 := btrans b0 hbq
       replace pB := Nat.le_trans pB hbq.size
       clear d0 d1 d2 hbq
       have fz := hj0.out (by unfold mateB ofB; rw [hst.out, hsm.out]; simp [q2])
       clear hj0 hj1 hsw hst hsm
       have x0 := X.range
       go_wp2_with (refine load43L (by rfl) (.tmp 2) rfl KX rfl [.int .i64 me, .bool true, .bool false, .bool gate, .int .i64 inc, .int .i64 now, .int .i64 sq, .int .i64 turn, .slice ta T.length tc, .slice ca C.length cc, .int .i64 pn, .int .i64 ps, .int .i64 pq, .bool pa, .slice da D.length dc, .int .i64 cx, .int .i64 cy, .int .i64 ch, .int .i64 ce, .slice pla P.length plc, .slice oa O.length oc] x0 rfl ?_)
       refine (hcp _ b0).mono ?_
       rintro r w5 ⟨v1, v2, v3, v4, v5, sD, sP, sO, rfl, hN, k5⟩
       have hB := b0.size
       replace R := R.below k5
       replace b0 := btrans b0 k5
       obtain ⟨a1, c1, rfl, _⟩ := own_slice hN.t
       obtain ⟨a2, c2, rfl, _⟩ := own_slice hN.c
       obtain ⟨a3, c3, rfl, _⟩ := own_slice hN.d.row
       obtain ⟨a4, c4, rfl, _⟩ := own_slice hN.p.row
       obtain ⟨a5, c5, rfl, _⟩ := own_slice hN.o.row
       unfold ndW
       dsimp only at hN ⊢
       clear hcp x0 X k5
       have kA := balloc (.cells #[] 67) (Below.refl w5.heap.size w5)
       have hth : (w5.alloc (.cells #[] 67)).there (KX + 1) 0 21 := (R.below kA).there rfl
       have hr := read43 (World.rangeAt_setCells_same (w5.alloc (.cells #[] 67)) (KX + 1) 0 (#[.int .i64 me, .bool true, .bool false, .bool gate, .int .i64 inc, .int .i64 now, .int .i64 sq, .int .i64 turn, .slice a1 T.length c1, .slice a2 C.length c2, .int .i64 pn, .int .i64 ps, .int .i64 pq, .bool pa, .slice a3 D.length c3, .int .i64 cx, .int .i64 cy, .int .i64 ch, .int .i64 ce, .slice a4 P.length c4, .slice a5 O.length c5] : Array Value).toList hth) rfl
       have b9 := below_cells (KX + 1) (#[.int .i64 me, .bool true, .bool false, .bool gate, .int .i64 inc, .int .i64 now, .int .i64 sq, .int .i64 turn, .slice a1 T.length c1, .slice a2 C.length c2, .int .i64 pn, .int .i64 ps, .int .i64 pq, .bool pa, .slice a3 D.length c3, .int .i64 cx, .int .i64 cy, .int .i64 ch, .int .i64 ce, .slice a4 P.length c4, .slice a5 O.length c5] : Array Value).toList 0 (w5.alloc (.cells #[] 67)) g1 (btrans b0 kA)
       have wd := (WdO.made (w := w5) b0.size).mw (Mw.cells (b := KX + 1) (#[.int .i64 me, .bool true, .bool false, .bool gate, .int .i64 inc, .int .i64 now, .int .i64 sq, .int .i64 turn, .slice a1 T.length c1, .slice a2 C.length c2, .int .i64 pn, .int .i64 ps, .int .i64 pq, .bool pa, .slice a3 D.length c3, .int .i64 cx, .int .i64 cy, .int .i64 ch, .int .i64 ce, .slice a4 P.length c4, .slice a5 O.length c5] : Array Value).toList) (fun x e q => by have := bkW_made _ _ _ e; have := R.lt; omega)
       have nd := ((hN.below kA).mw (Mw.cells (b := KX + 1) (#[.int .i64 me, .bool true, .bool false, .bool gate, .int .i64 inc, .int .i64 now, .int .i64 sq, .int .i64 turn, .slice a1 T.length c1, .slice a2 C.length c2, .int .i64 pn, .int .i64 ps, .int .i64 pq, .bool pa, .slice a3 D.length c3, .int .i64 cx, .int .i64 cy, .int .i64 ch, .int .i64 ce, .slice a4 P.length c4, .slice a5 O.length c5] : Array Value).toList) (fun x e q => by have := (hN.lo x e).1; omega)).mono hB
       have nl := hN.lo
       have fin : NdWd w ((w5.alloc (.cells #[] 67)).setCells (KX + 1) 0 (#[.int .i64 me, .bool true, .bool false, .bool gate, .int .i64 inc, .int .i64 now, .int .i64 sq, .int .i64 turn, .slice a1 T.length c1, .slice a2 C.length c2, .int .i64 pn, .int .i64 ps, .int .i64 pq, .bool pa, .slice a3 D.length c3, .int .i64 cx, .int .i64 cy, .int .i64 ch, .int .i64 ce, .slice a4 P.length c4, .slice a5 O.length c5] : Array Value).toList) (.returned (.tuple #[.agg #[.int .i64 me, .bool true, .bool false, .bool gate, .int .i64 inc, .int .i64 now, .int .i64 sq, .int .i64 turn, .slice a1 T.length c1, .slice a2 C.length c2, .int .i64 pn, .int .i64 ps, .int .i64 pq, .bool pa, .slice a3 D.length c3, .int .i64 cx, .int .i64 cy, .int .i64 ch, .int .i64 ce, .slice a4 P.length c4, .slice a5 O.length c5], .slice (some ⟨w5.heap.size, 0, none⟩) 0 0])) (jnN ⟨me, true, false, gate, inc, now, sq, turn, T, C, pn, ps, pq, pa, D, cx, cy, ch, ce, P, O⟩) (jnW ⟨me, true, false, gate, inc, now, sq, turn, T, C, pn, ps, pq, pa, D, cx, cy, ch, ce, P, O⟩ to_) := by
        rw [fz.1, fz.2]
        exact ⟨_, _, _, _, _, _, sD, sP, sO, _, rfl, nd, wd, fun x e e2 => by have := (nl x e).2; have := bkW_made _ _ _ e2; omega, b9⟩
       clear wd fz nd nl hN
       go_wp2_with (refine wpList_store_mid rfl 42 _ _ rfl (KX + 1) 0 #[.int .i64 me, .bool true, .bool false, .bool gate, .int .i64 inc, .int .i64 now, .int .i64 sq, .int .i64 turn, .slice a1 T.length c1, .slice a2 C.length c2, .int .i64 pn, .int .i64 ps, .int .i64 pq, .bool pa, .slice a3 D.length c3, .int .i64 cx, .int .i64 cy, .int .i64 ch, .int .i64 ce, .slice a4 P.length c4, .slice a5 O.length c5] rfl rfl hth (by kernel_rfl) (by kernel_rfl) ?_)
       clear hth b0 kA R
       generalize (w5.alloc (.cells #[] 67)).setCells (KX + 1) 0 (#[.int .i64 me, .bool true, .bool false, .bool gate, .int .i64 inc, .int .i64 now, .int .i64 sq, .int .i64 turn, .slice a1 T.length c1, .slice a2 C.length c2, .int .i64 pn, .int .i64 ps, .int .i64 pq, .bool pa, .slice a3 D.length c3, .int .i64 cx, .int .i64 cy, .int .i64 ch, .int .i64 ce, .slice a4 P.length c4, .slice a5 O.length c5] : Array Value).toList = W4 at *
       refine bodyPost_ret (v := .tuple #[.agg #[.int .i64 me, .bool true, .bool false, .bool gate, .int .i64 inc, .int .i64 now, .int .i64 sq, .int .i64 turn, .slice a1 T.length c1, .slice a2 C.length c2, .int .i64 pn, .int .i64 ps, .int .i64 pq, .bool pa, .slice a3 D.length c3, .int .i64 cx, .int .i64 cy, .int .i64 ch, .int .i64 ce, .slice a4 P.length c4, .slice a5 O.length c5], .slice (some ⟨w5.heap.size, 0, none⟩) 0 0]) ?_ rfl fin
       simp only [results, Tryz.results7]
       simp [asAddr, hr]
   ·skip
    refine wp_region_q s7_3 t7_3 (fun hbq => ?_)
    refine qY ?_
    refine qL ?_
    iterate 3 refine qY ?_
    refine qL ?_
    iterate 2 refine qY ?_
    iterate 3 refine qN ?_
    iterate 2 refine qY ?_
    iterate 4 refine qN ?_
    iterate 2 refine qY ?_
    iterate 6 refine qN ?_
    refine qY ?_
    refine qE ?_
    replace X := X.below hbq
    replace R := R.below hbq
    replace b0 := btrans b0 hbq
    replace pB := Nat.le_trans pB hbq.size
    clear d0 d1 d2 hbq
    have fz := hj0.out (rfl)
    clear hj0 hj1 hsw hst hsm
    have x0 := X.range
    go_wp2_with (refine load43L (by rfl) (.tmp 2) rfl KX rfl [.int .i64 me, .bool true, .bool true, .bool gate, .int .i64 inc, .int .i64 now, .int .i64 sq, .int .i64 turn, .slice ta T.length tc, .slice ca C.length cc, .int .i64 pn, .int .i64 ps, .int .i64 pq, .bool pa, .slice da D.length dc, .int .i64 cx, .int .i64 cy, .int .i64 ch, .int .i64 ce, .slice pla P.length plc, .slice oa O.length oc] x0 rfl ?_)
    refine (hcp _ b0).mono ?_
    rintro r w5 ⟨v1, v2, v3, v4, v5, sD, sP, sO, rfl, hN, k5⟩
    have hB := b0.size
    replace R := R.below k5
    replace b0 := btrans b0 k5
    obtain ⟨a1, c1, rfl, _⟩ := own_slice hN.t
    obtain ⟨a2, c2, rfl, _⟩ := own_slice hN.c
    obtain ⟨a3, c3, rfl, _⟩ := own_slice hN.d.row
    obtain ⟨a4, c4, rfl, _⟩ := own_slice hN.p.row
    obtain ⟨a5, c5, rfl, _⟩ := own_slice hN.o.row
    unfold ndW
    dsimp only at hN ⊢
    clear hcp x0 X k5
    have kA := balloc (.cells #[] 67) (Below.refl w5.heap.size w5)
    have hth : (w5.alloc (.cells #[] 67)).there (KX + 1) 0 21 := (R.below kA).there rfl
    have hr := read43 (World.rangeAt_setCells_same (w5.alloc (.cells #[] 67)) (KX + 1) 0 (#[.int .i64 me, .bool true, .bool true, .bool gate, .int .i64 inc, .int .i64 now, .int .i64 sq, .int .i64 turn, .slice a1 T.length c1, .slice a2 C.length c2, .int .i64 pn, .int .i64 ps, .int .i64 pq, .bool pa, .slice a3 D.length c3, .int .i64 cx, .int .i64 cy, .int .i64 ch, .int .i64 ce, .slice a4 P.length c4, .slice a5 O.length c5] : Array Value).toList hth) rfl
    have b9 := below_cells (KX + 1) (#[.int .i64 me, .bool true, .bool true, .bool gate, .int .i64 inc, .int .i64 now, .int .i64 sq, .int .i64 turn, .slice a1 T.length c1, .slice a2 C.length c2, .int .i64 pn, .int .i64 ps, .int .i64 pq, .bool pa, .slice a3 D.length c3, .int .i64 cx, .int .i64 cy, .int .i64 ch, .int .i64 ce, .slice a4 P.length c4, .slice a5 O.length c5] : Array Value).toList 0 (w5.alloc (.cells #[] 67)) g1 (btrans b0 kA)
    have wd := (WdO.made (w := w5) b0.size).mw (Mw.cells (b := KX + 1) (#[.int .i64 me, .bool true, .bool true, .bool gate, .int .i64 inc, .int .i64 now, .int .i64 sq, .int .i64 turn, .slice a1 T.length c1, .slice a2 C.length c2, .int .i64 pn, .int .i64 ps, .int .i64 pq, .bool pa, .slice a3 D.length c3, .int .i64 cx, .int .i64 cy, .int .i64 ch, .int .i64 ce, .slice a4 P.length c4, .slice a5 O.length c5] : Array Value).toList) (fun x e q => by have := bkW_made _ _ _ e; have := R.lt; omega)
    have nd := ((hN.below kA).mw (Mw.cells (b := KX + 1) (#[.int .i64 me, .bool true, .bool true, .bool gate, .int .i64 inc, .int .i64 now, .int .i64 sq, .int .i64 turn, .slice a1 T.length c1, .slice a2 C.length c2, .int .i64 pn, .int .i64 ps, .int .i64 pq, .bool pa, .slice a3 D.length c3, .int .i64 cx, .int .i64 cy, .int .i64 ch, .int .i64 ce, .slice a4 P.length c4, .slice a5 O.length c5] : Array Value).toList) (fun x e q => by have := (hN.lo x e).1; omega)).mono hB
    have nl := hN.lo
    have fin : NdWd w ((w5.alloc (.cells #[] 67)).setCells (KX + 1) 0 (#[.int .i64 me, .bool true, .bool true, .bool gate, .int .i64 inc, .int .i64 now, .int .i64 sq, .int .i64 turn, .slice a1 T.length c1, .slice a2 C.length c2, .int .i64 pn, .int .i64 ps, .int .i64 pq, .bool pa, .slice a3 D.length c3, .int .i64 cx, .int .i64 cy, .int .i64 ch, .int .i64 ce, .slice a4 P.length c4, .slice a5 O.length c5] : Array Value).toList) (.returned (.tuple #[.agg #[.int .i64 me, .bool true, .bool true, .bool gate, .int .i64 inc, .int .i64 now, .int .i64 sq, .int .i64 turn, .slice a1 T.length c1, .slice a2 C.length c2, .int .i64 pn, .int .i64 ps, .int .i64 pq, .bool pa, .slice a3 D.length c3, .int .i64 cx, .int .i64 cy, .int .i64 ch, .int .i64 ce, .slice a4 P.length c4, .slice a5 O.length c5], .slice (some ⟨w5.heap.size, 0, none⟩) 0 0])) (jnN ⟨me, true, true, gate, inc, now, sq, turn, T, C, pn, ps, pq, pa, D, cx, cy, ch, ce, P, O⟩) (jnW ⟨me, true, true, gate, inc, now, sq, turn, T, C, pn, ps, pq, pa, D, cx, cy, ch, ce, P, O⟩ to_) := by
     rw [fz.1, fz.2]
     exact ⟨_, _, _, _, _, _, sD, sP, sO, _, rfl, nd, wd, fun x e e2 => by have := (nl x e).2; have := bkW_made _ _ _ e2; omega, b9⟩
    clear wd fz nd nl hN
    go_wp2_with (refine wpList_store_mid rfl 42 _ _ rfl (KX + 1) 0 #[.int .i64 me, .bool true, .bool true, .bool gate, .int .i64 inc, .int .i64 now, .int .i64 sq, .int .i64 turn, .slice a1 T.length c1, .slice a2 C.length c2, .int .i64 pn, .int .i64 ps, .int .i64 pq, .bool pa, .slice a3 D.length c3, .int .i64 cx, .int .i64 cy, .int .i64 ch, .int .i64 ce, .slice a4 P.length c4, .slice a5 O.length c5] rfl rfl hth (by kernel_rfl) (by kernel_rfl) ?_)
    clear hth b0 kA R
    generalize (w5.alloc (.cells #[] 67)).setCells (KX + 1) 0 (#[.int .i64 me, .bool true, .bool true, .bool gate, .int .i64 inc, .int .i64 now, .int .i64 sq, .int .i64 turn, .slice a1 T.length c1, .slice a2 C.length c2, .int .i64 pn, .int .i64 ps, .int .i64 pq, .bool pa, .slice a3 D.length c3, .int .i64 cx, .int .i64 cy, .int .i64 ch, .int .i64 ce, .slice a4 P.length c4, .slice a5 O.length c5] : Array Value).toList = W4 at *
    refine bodyPost_ret (v := .tuple #[.agg #[.int .i64 me, .bool true, .bool true, .bool gate, .int .i64 inc, .int .i64 now, .int .i64 sq, .int .i64 turn, .slice a1 T.length c1, .slice a2 C.length c2, .int .i64 pn, .int .i64 ps, .int .i64 pq, .bool pa, .slice a3 D.length c3, .int .i64 cx, .int .i64 cy, .int .i64 ch, .int .i64 ce, .slice a4 P.length c4, .slice a5 O.length c5], .slice (some ⟨w5.heap.size, 0, none⟩) 0 0]) ?_ rfl fin
    simp only [results, Tryz.results7]
    simp [asAddr, hr]
end Go.Proofs.YtdlaenbiamknlaaGreat
/- Nodes: the exact law of a function that answers a node and words, walked (law 3). -/
namespace Go.Proofs.YtdlaenbiamknlaaGreat
open Go.ChangeShapes Go.WideShapes Go.ChangeAt Go.RowKit
attribute [local go_sem ↓] Go.wp_at_zero Go.wp_at_succ
def sl3_5 : List Stp := [⟨some 22, .load 32 (.tmp 2), 32, none, 0⟩, ⟨some 23, .call { callee := .value (.func 8), args := #[.tmp 22], argTypes := #[32] }, 42, none, 1⟩, ⟨some 24, .move (.tmp 1), 3, none, 0⟩, ⟨some 25, .call { callee := .value (.func 7), args := #[.tmp 23, .tmp 24], argTypes := #[42, 3] }, 44, none, 1⟩, ⟨some 21, .move (.tmp 25), 44, none, 0⟩, ⟨some 26, .extract (.tmp 21) 0, 42, none, 0⟩, ⟨some 27, .extract (.tmp 21) 1, 43, none, 0⟩, ⟨some 6, .alloc 42, 0, none, 1⟩, ⟨none, .store 42 (.tmp 6) (.tmp 26), 0, none, 1⟩, ⟨some 7, .assign (.tmp 27), 43, none, 0⟩]
def tl3_5 : List (Nat × Nat) := [(0, 0), (1, 1), (2, 0), (3, 1), (4, 0), (5, 0), (6, 0), (7, 1), (8, 1), (9, 0)]
def sl3_6 : List Stp := [⟨some 28, .load 32 (.tmp 2), 32, none, 0⟩, ⟨some 29, .call { callee := .value (.func 8), args := #[.tmp 28], argTypes := #[32] }, 42, none, 1⟩, ⟨some 8, .alloc 42, 0, none, 1⟩, ⟨none, .store 42 (.tmp 8) (.tmp 29), 0, none, 1⟩]
def tl3_6 : List (Nat × Nat) := [(0, 0), (1, 1), (2, 1), (3, 1)]
def sl3_7 : List Stp := [⟨some 31, .load 42 (.tmp 8), 42, none, 0⟩, ⟨some 32, .move (.tmp 1), 3, none, 0⟩, ⟨some 33, .call { callee := .value (.func 9), args := #[.tmp 31, .tmp 32], argTypes := #[42, 3] }, 44, none, 1⟩, ⟨some 30, .move (.tmp 33), 44, none, 0⟩, ⟨some 34, .extract (.tmp 30) 0, 42, none, 0⟩, ⟨some 35, .extract (.tmp 30) 1, 43, none, 0⟩, ⟨some 9, .alloc 42, 0, none, 1⟩, ⟨none, .store 42 (.tmp 9) (.tmp 34), 0, none, 1⟩, ⟨some 10, .assign (.tmp 35), 43, none, 0⟩]
def tl3_7 : List (Nat × Nat) := [(0, 0), (1, 0), (2, 1), (3, 0), (4, 0), (5, 0), (6, 1), (7, 1), (8, 0)]
def sl3_28 : List Stp := [⟨some 88, .load 32 (.tmp 2), 32, none, 0⟩, ⟨some 89, .call { callee := .value (.func 8), args := #[.tmp 88], argTypes := #[32] }, 42, none, 1⟩, ⟨some 90, .move (.tmp 1), 3, none, 0⟩, ⟨some 91, .call { callee := .value (.func 9), args := #[.tmp 89, .tmp 90], argTypes := #[42, 3] }, 44, none, 1⟩, ⟨some 87, .move (.tmp 91), 44, none, 0⟩, ⟨some 92, .extract (.tmp 87) 0, 42, none, 0⟩, ⟨some 93, .extract (.tmp 87) 1, 43, none, 0⟩, ⟨some 14, .alloc 42, 0, none, 1⟩, ⟨none, .store 42 (.tmp 14) (.tmp 92), 0, none, 1⟩, ⟨some 15, .assign (.tmp 93), 43, none, 0⟩]
def tl3_28 : List (Nat × Nat) := [(0, 0), (1, 1), (2, 0), (3, 1), (4, 0), (5, 0), (6, 0), (7, 1), (8, 1), (9, 0)]
def sl3_8 : List Stp := [⟨some 36, .load 42 (.tmp 9), 42, none, 0⟩, ⟨some 37, .load 42 (.tmp 6), 42, none, 0⟩, ⟨some 38, .call { callee := .value (.func 10), args := #[.tmp 36, .tmp 37], argTypes := #[42, 42] }, 4, none, 1⟩, ⟨some 39, .unOp .not 4 (.tmp 38), 4, none, 0⟩, ⟨some 40, .move (.tmp 39), 4, none, 0⟩, ⟨some 41, .move (.tmp 10), 43, some (40, false), 0⟩, ⟨some 42, .move (.tmp 7), 43, some (40, false), 0⟩, ⟨some 43, .call { callee := .value (.func 11), args := #[.tmp 41, .tmp 42], argTypes := #[43, 43] }, 4, some (40, false), 1⟩, ⟨some 44, .unOp .not 4 (.tmp 43), 4, some (40, false), 0⟩, ⟨some 45, .pick (.tmp 40) (.const (.bool true)) (.tmp 44), 4, none, 0⟩]
def tl3_8 : List (Nat × Nat) := [(0, 0), (1, 0), (2, 1), (3, 0), (4, 0), (5, 0), (6, 0), (7, 1), (8, 0), (9, 0)]
def sl3_10 : List Stp := [⟨some 46, .load 42 (.tmp 8), 42, none, 0⟩, ⟨some 47, .load 32 (.tmp 2), 32, none, 0⟩, ⟨some 48, .call { callee := .value (.func 8), args := #[.tmp 47], argTypes := #[32] }, 42, none, 1⟩, ⟨some 49, .call { callee := .value (.func 10), args := #[.tmp 46, .tmp 48], argTypes := #[42, 42] }, 4, none, 1⟩, ⟨some 50, .unOp .not 4 (.tmp 49), 4, none, 0⟩]
def tl3_10 : List (Nat × Nat) := [(0, 0), (1, 0), (2, 1), (3, 1), (4, 0)]
def sl3_14 : List Stp := [⟨some 54, .move (.tmp 11), 3, none, 0⟩, ⟨some 55, .binOp .lss 3 (.tmp 54) (.const (.int .i64 0)) 3, 4, none, 2⟩, ⟨some 56, .move (.tmp 55), 4, none, 0⟩, ⟨some 57, .load 42 (.tmp 9), 42, some (56, false), 0⟩, ⟨some 58, .load 42 (.tmp 6), 42, some (56, false), 0⟩, ⟨some 59, .call { callee := .value (.func 10), args := #[.tmp 57, .tmp 58], argTypes := #[42, 42] }, 4, some (56, false), 1⟩, ⟨some 60, .unOp .not 4 (.tmp 59), 4, some (56, false), 0⟩, ⟨some 61, .pick (.tmp 56) (.const (.bool true)) (.tmp 60), 4, none, 0⟩, ⟨some 62, .move (.tmp 61), 4, none, 0⟩, ⟨some 63, .move (.tmp 10), 43, some (62, false), 0⟩, ⟨some 64, .move (.tmp 7), 43, some (62, false), 0⟩, ⟨some 65, .call { callee := .value (.func 11), args := #[.tmp 63, .tmp 64], argTypes := #[43, 43] }, 4, some (62, false), 1⟩, ⟨some 66, .unOp .not 4 (.tmp 65), 4, some (62, false), 0⟩, ⟨some 67, .pick (.tmp 62) (.const (.bool true)) (.tmp 66), 4, none, 0⟩]
def tl3_14 : List (Nat × Nat) := [(0, 0), (1, 2), (2, 0), (3, 0), (4, 0), (5, 1), (6, 0), (7, 0), (8, 0), (9, 0), (10, 0), (11, 1), (12, 0), (13, 0)]
def sl3_29 : List Stp := [⟨some 94, .load 42 (.tmp 14), 42, none, 0⟩, ⟨some 95, .load 42 (.tmp 6), 42, none, 0⟩, ⟨some 96, .call { callee := .value (.func 10), args := #[.tmp 94, .tmp 95], argTypes := #[42, 42] }, 4, none, 1⟩, ⟨some 97, .unOp .not 4 (.tmp 96), 4, none, 0⟩, ⟨some 98, .move (.tmp 97), 4, none, 0⟩, ⟨some 99, .move (.tmp 15), 43, some (98, false), 0⟩, ⟨some 100, .move (.tmp 7), 43, some (98, false), 0⟩, ⟨some 101, .call { callee := .value (.func 11), args := #[.tmp 99, .tmp 100], argTypes := #[43, 43] }, 4, some (98, false), 1⟩, ⟨some 102, .unOp .not 4 (.tmp 101), 4, some (98, false), 0⟩, ⟨some 103, .pick (.tmp 98) (.const (.bool true)) (.tmp 102), 4, none, 0⟩]
def tl3_29 : List (Nat × Nat) := [(0, 0), (1, 0), (2, 1), (3, 0), (4, 0), (5, 0), (6, 0), (7, 1), (8, 0), (9, 0)]
/-- what toNode answers: a copy that can be read, and whose marks stay in what it made -/
def TO (w1 w2 : World) (r : Ending) (n : Nod) : Prop := ∃ L, r = .returned (ndV n L) ∧ NdR w2 n L ∧ LocF n L ∧ Below w1.heap.size w1 w2 ∧ ∀ w3, Below w2.heap.size w2 w3 → Calls Tryz.prog 12 #[ndV n L, .int .i64 1] w3 fun r w4 => (∃ z : Nat, r = .returned (.int .i64 (z : Int))) ∧ Mw (fun x => w1.heap.size ≤ x ∧ x < w2.heap.size) w3 w4
/-- what is answered, spelt out -/
def LitA (n1 : Nod) (ws : List Wo) (w w' : World) (r : Ending) (f : Option Addr → Nat → Option Addr → Nat → Option Addr → Nat → Option Addr → Nat → Option Addr → Nat → Option Addr → Nat → Value) : Prop :=
  ∃ a1 c1 a2 c2 a3 c3 a4 c4 a5 c5 aw cw sD sP sO sW, r = .returned (f a1 c1 a2 c2 a3 c3 a4 c4 a5 c5 aw cw) ∧ NdO w' w.heap.size n1 (.slice a1 n1.T.length c1) (.slice a2 n1.C.length c2) (.slice a3 n1.D.length c3) (.slice a4 n1.P.length c4) (.slice a5 n1.O.length c5) sD sP sO ∧ WdO w' w.heap.size ws (.slice aw ws.length cw) sW ∧ (∀ x, bkN n1 (.slice a1 n1.T.length c1) (.slice a2 n1.C.length c2) (.slice a3 n1.D.length c3) (.slice a4 n1.P.length c4) (.slice a5 n1.O.length c5) sD sP sO x → ¬ bkW (.slice aw ws.length cw) ws.length sW x) ∧ Below w.heap.size w w'
set_option maxRecDepth 20000 in
set_option maxHeartbeats 16000000 in
set_option linter.unusedSimpArgs false in
theorem law3_walk (y0 y1 y2 y3 y4 y5 y6 y7 y8 y9 y10 y11 y12 y13 y14 y15 y16 y17 y18 y19 y20 : Value) (to_ : Int) (n n1 : Nod) (ws : List Wo) (HH : Prop) (w : World)
    (hsz : ∀ w1, Below w.heap.size w w1 → Calls Tryz.prog 6 #[.agg #[y0, y1, y2, y3, y4, y5, y6, y7, y8, y9, y10, y11, y12, y13, y14, y15, y16, y17, y18, y19, y20], .int .i64 1048576] w1 fun r w2 => (∃ z : Int, r = .returned (.int .i64 z) ∧ (z = -1 ∨ (0 ≤ z ∧ HH))) ∧ Below w1.heap.size w1 w2)
    (hto : HH → ∀ w1, Below w.heap.size w w1 → Calls Tryz.prog 8 #[.agg #[y0, y1, y2, y3, y4, y5, y6, y7, y8, y9, y10, y11, y12, y13, y14, y15, y16, y17, y18, y19, y20]] w1 fun r w2 => TO w1 w2 r n)
    (hS : ∀ L w1, NdR w1 n L → LocF n L → Calls Tryz.prog 7 #[ndV n L, .int .i64 to_] w1 fun r w2 => NdWd w1 w2 r n1 ws)
    (hI : ∀ L w1, NdR w1 n L → LocF n L → Calls Tryz.prog 9 #[ndV n L, .int .i64 to_] w1 fun r w2 => NdWd w1 w2 r n1 ws) :
    Calls Tryz.prog 3 #[.agg #[y0, y1, y2, y3, y4, y5, y6, y7, y8, y9, y10, y11, y12, y13, y14, y15, y16, y17, y18, y19, y20], .int .i64 to_] w fun r w' => r = .returned (.bool true) ∧ Below w.heap.size w w' := by
  obtain ⟨me, up, gone, gate, inc, now, sq, turn, T, C, pn, ps, pq, pa, D, cx, cy, ch, ce, P, O⟩ := n
  obtain ⟨me1, up1, gone1, gate1, inc1, now1, sq1, turn1, T1, C1, pn1, ps1, pq1, pa1, D1, cx1, cy1, ch1, ce1, P1, O1⟩ := n1
  obtain ⟨NN, hNN⟩ : ∃ m : Nod, Hid (⟨me, up, gone, gate, inc, now, sq, turn, T, C, pn, ps, pq, pa, D, cx, cy, ch, ce, P, O⟩ = m) := ⟨_, rfl⟩
  obtain ⟨N1, hN1⟩ : ∃ m : Nod, Hid (⟨me1, up1, gone1, gate1, inc1, now1, sq1, turn1, T1, C1, pn1, ps1, pq1, pa1, D1, cx1, cy1, ch1, ce1, P1, O1⟩ = m) := ⟨_, rfl⟩
  rw [hNN.out] at hto hS hI
  rw [hN1.out] at hS hI
  have vN : Hid (∀ L, ndV NN L = ndV ⟨me, up, gone, gate, inc, now, sq, turn, T, C, pn, ps, pq, pa, D, cx, cy, ch, ce, P, O⟩ L) := fun L => by rw [hNN.out]
  have v1N : Hid (∀ u1 u2 u3 u4 u5, ndW N1 u1 u2 u3 u4 u5 = ndW ⟨me1, up1, gone1, gate1, inc1, now1, sq1, turn1, T1, C1, pn1, ps1, pq1, pa1, D1, cx1, cy1, ch1, ce1, P1, O1⟩ u1 u2 u3 u4 u5) := fun _ _ _ _ _ => by rw [hN1.out]
  have lN : Hid (N1.T.length = T1.length ∧ N1.C.length = C1.length ∧ N1.D.length = D1.length ∧ N1.P.length = P1.length ∧ N1.O.length = O1.length) := by rw [Hid, ← hN1.out]; exact ⟨rfl, rfl, rfl, rfl, rfl⟩
  clear hNN hN1
  have b0 := balloc (.cells #[y0, y1, y2, y3, y4, y5, y6, y7, y8, y9, y10, y11, y12, y13, y14, y15, y16, y17, y18, y19, y20] 32) (Below.refl w.heap.size w)
  have X0 := Ws.box (w := w) #[y0, y1, y2, y3, y4, y5, y6, y7, y8, y9, y10, y11, y12, y13, y14, y15, y16, y17, y18, y19, y20] 32
  go_enter Tryz.func3, Tryz.ntmps3
  go_upto_region 1 with fail
  generalize w.alloc (.cells #[y0, y1, y2, y3, y4, y5, y6, y7, y8, y9, y10, y11, y12, y13, y14, y15, y16, y17, y18, y19, y20] 32) = u at *
  obtain ⟨KX, hKX⟩ : ∃ K, Hid (w.heap.size = K) := ⟨_, rfl⟩
  rw [hKX.out] at X0
  rw [hKX.out]
  have x0 : u.rangeAt KX 0 [y0, y1, y2, y3, y4, y5, y6, y7, y8, y9, y10, y11, y12, y13, y14, y15, y16, y17, y18, y19, y20] := X0.range
  have hKl : KX < u.heap.size := X0.lt
  clear X0
  go_wp2_with (refine load32L (by rfl) (.tmp 2) rfl KX rfl [y0, y1, y2, y3, y4, y5, y6, y7, y8, y9, y10, y11, y12, y13, y14, y15, y16, y17, y18, y19, y20] x0 rfl ?_)
  refine (hsz _ b0).mono ?_
  rintro r w1 ⟨⟨z, rfl, hz⟩, k1⟩
  replace b0 := btrans b0 k1
  replace x0 := range_keep x0 k1
  replace hKl := Nat.lt_of_lt_of_le hKl k1.size
  clear k1 hsz
  rcases hz with hz | ⟨hz, hh⟩
  · subst hz
    go_wp2
    go_ret
    exact ⟨rfl, b0⟩
  have hz2 : ¬ z < 0 := by omega
  replace hto := hto hh
  clear hh hz
  go_upto_region 5 with fail
  clear hz2
  refine wp_region_w0 (fun _ => False) sl3_5 tl3_5 (fun hbq => ?_)
  refine mR (hS := id) ?_
  refine mC (fun K hK => ?_)
  go_simp
  refine (hto _ b0).mono ?_
  rintro r w2 ⟨⟨tap, tcp, cap, ccp, dap, dcp, dAp, dCp, plap, plcp, pAp, pCp, oap, ocp, oAp, oCp⟩, rfl, hR, hF, k2, _⟩
  have cS := hS _ _ hR hF
  rw [vN.out] at cS
  rw [vN.out]
  unfold ndV at cS ⊢
  dsimp only at cS ⊢
  clear hR hF
  have cS2 : Calls Tryz.prog 7 #[.agg #[.int .i64 me, .bool up, .bool gone, .bool gate, .int .i64 inc, .int .i64 now, .int .i64 sq, .int .i64 turn, .slice tap T.length tcp, .slice cap C.length ccp, .int .i64 pn, .int .i64 ps, .int .i64 pq, .bool pa, .slice dap D.length dcp, .int .i64 cx, .int .i64 cy, .int .i64 ch, .int .i64 ce, .slice plap P.length plcp, .slice oap O.length ocp], .int .i64 to_] w2 fun r w' => LitA N1 ws w2 w' r (fun a1 c1 a2 c2 a3 c3 a4 c4 a5 c5 aw cw => .tuple #[.agg #[.int .i64 me1, .bool up1, .bool gone1, .bool gate1, .int .i64 inc1, .int .i64 now1, .int .i64 sq1, .int .i64 turn1, .slice a1 T1.length c1, .slice a2 C1.length c2, .int .i64 pn1, .int .i64 ps1, .int .i64 pq1, .bool pa1, .slice a3 D1.length c3, .int .i64 cx1, .int .i64 cy1, .int .i64 ch1, .int .i64 ce1, .slice a4 P1.length c4, .slice a5 O1.length c5], .slice aw ws.length cw]) := cS.mono (by
    rintro r w' ⟨v1, v2, v3, v4, v5, vw, sD, sP, sO, sW, rfl, hN, hW, nw, k⟩
    obtain ⟨a1, c1, e1, _⟩ := own_slice hN.t
    rw [lN.out.1] at e1
    subst e1
    obtain ⟨a2, c2, e2, _⟩ := own_slice hN.c
    rw [lN.out.2.1] at e2
    subst e2
    obtain ⟨a3, c3, e3, _⟩ := own_slice hN.d.row
    rw [lN.out.2.2.1] at e3
    subst e3
    obtain ⟨a4, c4, e4, _⟩ := own_slice hN.p.row
    rw [lN.out.2.2.2.1] at e4
    subst e4
    obtain ⟨a5, c5, e5, _⟩ := own_slice hN.o.row
    rw [lN.out.2.2.2.2] at e5
    subst e5
    obtain ⟨aw, cw, rfl, _⟩ := own_slice hW.o.row
    refine ⟨a1, c1, a2, c2, a3, c3, a4, c4, a5, c5, aw, cw, sD, sP, sO, sW, ?_, ?_, hW, ?_, k⟩
    · rw [v1N.out]
      rfl
    · rw [lN.out.1, lN.out.2.1, lN.out.2.2.1, lN.out.2.2.2.1, lN.out.2.2.2.2]
      exact hN
    · rw [lN.out.1, lN.out.2.1, lN.out.2.2.1, lN.out.2.2.2.1, lN.out.2.2.2.2]
      exact nw)
  go_wp2_with fail
  refine hK.out _ _ (hbq.trans (Mw.of_below k2)) (.inl ?_)
  replace hbq := hbq.trans (Mw.of_below k2)
  clear hK K
  try simp only [putQ]
  refine mY ?_
  refine mC (fun K hK => ?_)
  go_simp
  refine cS2.mono ?_
  rintro r w3 ⟨a1s, c1s, a2s, c2s, a3s, c3s, a4s, c4s, a5s, c5s, aws, cws, sD, sP, sO, sW, rfl, hN, hW, _, k3⟩
  rw [lN.out.1, lN.out.2.1, lN.out.2.2.1, lN.out.2.2.2.1, lN.out.2.2.2.2] at hN
  go_wp2_with fail
  refine hK.out _ _ (hbq.trans (Mw.of_below k3)) (.inl ?_)
  replace hbq := hbq.trans (Mw.of_below k3)
  clear hK K
  try simp only [putQ]
  refine mY ?_
  refine mY ?_
  refine mY ?_
  refine mC (fun K hK => ?_)
  go_simp
  refine hK.out _ _ (hbq.alloc _) (.inl ?_)
  clear hK K
  try simp only [putQ]
  have Yw4 := (Ws.box (w := w3) #[.int .i64 0, .bool false, .bool false, .bool false, .int .i64 0, .int .i64 0, .int .i64 0, .int .i64 0, .slice none 0 0, .slice none 0 0, .int .i64 0, .int .i64 0, .int .i64 0, .bool false, .slice none 0 0, .int .i64 0, .int .i64 0, .int .i64 0, .int .i64 0, .slice none 0 0, .slice none 0 0] 42).cells (#[.int .i64 me1, .bool up1, .bool gone1, .bool gate1, .int .i64 inc1, .int .i64 now1, .int .i64 sq1, .int .i64 turn1, .slice a1s T1.length c1s, .slice a2s C1.length c2s, .int .i64 pn1, .int .i64 ps1, .int .i64 pq1, .bool pa1, .slice a3s D1.length c3s, .int .i64 cx1, .int .i64 cy1, .int .i64 ch1, .int .i64 ce1, .slice a4s P1.length c4s, .slice a5s O1.length c5s] : Array Value).toList rfl
  have hthw4 : (w3.alloc (.cells #[.int .i64 0, .bool false, .bool false, .bool false, .int .i64 0, .int .i64 0, .int .i64 0, .int .i64 0, .slice none 0 0, .slice none 0 0, .int .i64 0, .int .i64 0, .int .i64 0, .bool false, .slice none 0 0, .int .i64 0, .int .i64 0, .int .i64 0, .int .i64 0, .slice none 0 0, .slice none 0 0] 42)).there w3.heap.size 0 21 := (Ws.box (w := w3) #[.int .i64 0, .bool false, .bool false, .bool false, .int .i64 0, .int .i64 0, .int .i64 0, .int .i64 0, .slice none 0 0, .slice none 0 0, .int .i64 0, .int .i64 0, .int .i64 0, .bool false, .slice none 0 0, .int .i64 0, .int .i64 0, .int .i64 0, .int .i64 0, .slice none 0 0, .slice none 0 0] 42).there rfl
  have mmw4 := (Mw.of_below (S := fun x => x = w3.heap.size) (balloc (.cells #[.int .i64 0, .bool false, .bool false, .bool false, .int .i64 0, .int .i64 0, .int .i64 0, .int .i64 0, .slice none 0 0, .slice none 0 0, .int .i64 0, .int .i64 0, .int .i64 0, .bool false, .slice none 0 0, .int .i64 0, .int .i64 0, .int .i64 0, .int .i64 0, .slice none 0 0, .slice none 0 0] 42) (Below.refl w3.heap.size w3))).trans (Mw.cells (#[.int .i64 me1, .bool up1, .bool gone1, .bool gate1, .int .i64 inc1, .int .i64 now1, .int .i64 sq1, .int .i64 turn1, .slice a1s T1.length c1s, .slice a2s C1.length c2s, .int .i64 pn1, .int .i64 ps1, .int .i64 pq1, .bool pa1, .slice a3s D1.length c3s, .int .i64 cx1, .int .i64 cy1, .int .i64 ch1, .int .i64 ce1, .slice a4s P1.length c4s, .slice a5s O1.length c5s] : Array Value).toList)
  have kkw4 : Below w3.heap.size w3 ((w3.alloc (.cells #[.int .i64 0, .bool false, .bool false, .bool false, .int .i64 0, .int .i64 0, .int .i64 0, .int .i64 0, .slice none 0 0, .slice none 0 0, .int .i64 0, .int .i64 0, .int .i64 0, .bool false, .slice none 0 0, .int .i64 0, .int .i64 0, .int .i64 0, .int .i64 0, .slice none 0 0, .slice none 0 0] 42)).setCells w3.heap.size 0 (#[.int .i64 me1, .bool up1, .bool gone1, .bool gate1, .int .i64 inc1, .int .i64 now1, .int .i64 sq1, .int .i64 turn1, .slice a1s T1.length c1s, .slice a2s C1.length c2s, .int .i64 pn1, .int .i64 ps1, .int .i64 pq1, .bool pa1, .slice a3s D1.length c3s, .int .i64 cx1, .int .i64 cy1, .int .i64 ch1, .int .i64 ce1, .slice a4s P1.length c4s, .slice a5s O1.length c5s] : Array Value).toList) := mmw4.below (Below.refl _ _) (fun i e => by omega)
  refine mC (fun K hK => ?_)
  refine wp_store_mid 42 _ _ rfl w3.heap.size 0 #[.int .i64 me1, .bool up1, .bool gone1, .bool gate1, .int .i64 inc1, .int .i64 now1, .int .i64 sq1, .int .i64 turn1, .slice a1s T1.length c1s, .slice a2s C1.length c2s, .int .i64 pn1, .int .i64 ps1, .int .i64 pq1, .bool pa1, .slice a3s D1.length c3s, .int .i64 cx1, .int .i64 cy1, .int .i64 ch1, .int .i64 ce1, .slice a4s P1.length c4s, .slice a5s O1.length c5s] rfl rfl hthw4 (by kernel_rfl) (by kernel_rfl) ?_
  refine hK.out _ _ (hbq.trans (Mw.of_below kkw4)) (.inl ?_)
  clear hK K
  try simp only [putQ]
  clear hthw4 mmw4
  generalize (w3.alloc (.cells #[.int .i64 0, .bool false, .bool false, .bool false, .int .i64 0, .int .i64 0, .int .i64 0, .int .i64 0, .slice none 0 0, .slice none 0 0, .int .i64 0, .int .i64 0, .int .i64 0, .bool false, .slice none 0 0, .int .i64 0, .int .i64 0, .int .i64 0, .int .i64 0, .slice none 0 0, .slice none 0 0] 42)).setCells w3.heap.size 0 (#[.int .i64 me1, .bool up1, .bool gone1, .bool gate1, .int .i64 inc1, .int .i64 now1, .int .i64 sq1, .int .i64 turn1, .slice a1s T1.length c1s, .slice a2s C1.length c2s, .int .i64 pn1, .int .i64 ps1, .int .i64 pq1, .bool pa1, .slice a3s D1.length c3s, .int .i64 cx1, .int .i64 cy1, .int .i64 ch1, .int .i64 ce1, .slice a4s P1.length c4s, .slice a5s O1.length c5s] : Array Value).toList = w4 at *
  refine mY ?_
  refine mE ?_
  clear hbq
  replace b0 := btrans (btrans b0 k2) k3
  replace x0 := range_keep (range_keep x0 k2) k3
  replace hKl := Nat.lt_of_lt_of_le (Nat.lt_of_lt_of_le hKl k2.size) k3.size
  clear cS cS2 hS k2 k3
  replace b0 := btrans b0 kkw4
  replace x0 := range_keep x0 kkw4
  replace hKl := Nat.lt_of_lt_of_le hKl kkw4.size
  have sN : NdO w4 _ N1 (.slice a1s T1.length c1s) (.slice a2s C1.length c2s) (.slice a3s D1.length c3s) (.slice a4s P1.length c4s) (.slice a5s O1.length c5s) sD sP sO := hN.below kkw4
  have sWd := hW.below kkw4
  obtain ⟨B6, hB6⟩ : ∃ B, Hid (w3.heap.size = B) := ⟨_, rfl⟩
  rw [hB6.out] at Yw4
  rw [hB6.out]
  clear kkw4 hN hW hB6
  have x6 : w4.rangeAt B6 0 [.int .i64 me1, .bool up1, .bool gone1, .bool gate1, .int .i64 inc1, .int .i64 now1, .int .i64 sq1, .int .i64 turn1, .slice a1s T1.length c1s, .slice a2s C1.length c2s, .int .i64 pn1, .int .i64 ps1, .int .i64 pq1, .bool pa1, .slice a3s D1.length c3s, .int .i64 cx1, .int .i64 cy1, .int .i64 ch1, .int .i64 ce1, .slice a4s P1.length c4s, .slice a5s O1.length c5s] := Yw4.range
  have l6 : B6 < w4.heap.size := Yw4.lt
  clear Yw4
  obtain ⟨LO, hLO⟩ : ∃ B, Hid (w4.heap.size = B) := ⟨_, rfl⟩
  have bw : Below w4.heap.size w4 w4 := Below.refl _ _
  have qK : KX < LO := by rw [← hLO.out]; exact hKl
  have q6 : B6 < LO := by rw [← hLO.out]; exact l6
  -- x0
  go_upto_region 6 with fail
  refine wp_region_w0 (fun _ => False) sl3_6 tl3_6 (fun hbq => ?_)
  refine mR (hS := id) ?_
  refine mC (fun K hK => ?_)
  go_simp
  refine (hto _ b0).mono ?_
  rintro r w5 ⟨⟨tax, tcx, cax, ccx, dax, dcx, dAx, dCx, plax, plcx, pAx, pCx, oax, ocx, oAx, oCx⟩, rfl, xR, xF, k5, xM⟩
  rw [vN.out] at xM
  rw [vN.out]
  unfold ndV at xM ⊢
  dsimp only at xM ⊢
  go_wp2_with fail
  refine hK.out _ _ (hbq.trans (Mw.of_below k5)) (.inl ?_)
  replace hbq := hbq.trans (Mw.of_below k5)
  clear hK K
  try simp only [putQ]
  refine mC (fun K hK => ?_)
  go_simp
  refine hK.out _ _ (hbq.alloc _) (.inl ?_)
  clear hK K
  try simp only [putQ]
  have Yw6 := (Ws.box (w := w5) #[.int .i64 0, .bool false, .bool false, .bool false, .int .i64 0, .int .i64 0, .int .i64 0, .int .i64 0, .slice none 0 0, .slice none 0 0, .int .i64 0, .int .i64 0, .int .i64 0, .bool false, .slice none 0 0, .int .i64 0, .int .i64 0, .int .i64 0, .int .i64 0, .slice none 0 0, .slice none 0 0] 42).cells (#[.int .i64 me, .bool up, .bool gone, .bool gate, .int .i64 inc, .int .i64 now, .int .i64 sq, .int .i64 turn, .slice tax T.length tcx, .slice cax C.length ccx, .int .i64 pn, .int .i64 ps, .int .i64 pq, .bool pa, .slice dax D.length dcx, .int .i64 cx, .int .i64 cy, .int .i64 ch, .int .i64 ce, .slice plax P.length plcx, .slice oax O.length ocx] : Array Value).toList rfl
  have hthw6 : (w5.alloc (.cells #[.int .i64 0, .bool false, .bool false, .bool false, .int .i64 0, .int .i64 0, .int .i64 0, .int .i64 0, .slice none 0 0, .slice none 0 0, .int .i64 0, .int .i64 0, .int .i64 0, .bool false, .slice none 0 0, .int .i64 0, .int .i64 0, .int .i64 0, .int .i64 0, .slice none 0 0, .slice none 0 0] 42)).there w5.heap.size 0 21 := (Ws.box (w := w5) #[.int .i64 0, .bool false, .bool false, .bool false, .int .i64 0, .int .i64 0, .int .i64 0, .int .i64 0, .slice none 0 0, .slice none 0 0, .int .i64 0, .int .i64 0, .int .i64 0, .bool false, .slice none 0 0, .int .i64 0, .int .i64 0, .int .i64 0, .int .i64 0, .slice none 0 0, .slice none 0 0] 42).there rfl
  have mmw6 := (Mw.of_below (S := fun x => x = w5.heap.size) (balloc (.cells #[.int .i64 0, .bool false, .bool false, .bool false, .int .i64 0, .int .i64 0, .int .i64 0, .int .i64 0, .slice none 0 0, .slice none 0 0, .int .i64 0, .int .i64 0, .int .i64 0, .bool false, .slice none 0 0, .int .i64 0, .int .i64 0, .int .i64 0, .int .i64 0, .slice none 0 0, .slice none 0 0] 42) (Below.refl w5.heap.size w5))).trans (Mw.cells (#[.int .i64 me, .bool up, .bool gone, .bool gate, .int .i64 inc, .int .i64 now, .int .i64 sq, .int .i64 turn, .slice tax T.length tcx, .slice cax C.length ccx, .int .i64 pn, .int .i64 ps, .int .i64 pq, .bool pa, .slice dax D.length dcx, .int .i64 cx, .int .i64 cy, .int .i64 ch, .int .i64 ce, .slice plax P.length plcx, .slice oax O.length ocx] : Array Value).toList)
  have kkw6 : Below w5.heap.size w5 ((w5.alloc (.cells #[.int .i64 0, .bool false, .bool false, .bool false, .int .i64 0, .int .i64 0, .int .i64 0, .int .i64 0, .slice none 0 0, .slice none 0 0, .int .i64 0, .int .i64 0, .int .i64 0, .bool false, .slice none 0 0, .int .i64 0, .int .i64 0, .int .i64 0, .int .i64 0, .slice none 0 0, .slice none 0 0] 42)).setCells w5.heap.size 0 (#[.int .i64 me, .bool up, .bool gone, .bool gate, .int .i64 inc, .int .i64 now, .int .i64 sq, .int .i64 turn, .slice tax T.length tcx, .slice cax C.length ccx, .int .i64 pn, .int .i64 ps, .int .i64 pq, .bool pa, .slice dax D.length dcx, .int .i64 cx, .int .i64 cy, .int .i64 ch, .int .i64 ce, .slice plax P.length plcx, .slice oax O.length ocx] : Array Value).toList) := mmw6.below (Below.refl _ _) (fun i e => by omega)
  refine mC (fun K hK => ?_)
  refine wp_store_mid 42 _ _ rfl w5.heap.size 0 #[.int .i64 me, .bool up, .bool gone, .bool gate, .int .i64 inc, .int .i64 now, .int .i64 sq, .int .i64 turn, .slice tax T.length tcx, .slice cax C.length ccx, .int .i64 pn, .int .i64 ps, .int .i64 pq, .bool pa, .slice dax D.length dcx, .int .i64 cx, .int .i64 cy, .int .i64 ch, .int .i64 ce, .slice plax P.length plcx, .slice oax O.length ocx] rfl rfl hthw6 (by kernel_rfl) (by kernel_rfl) ?_
  refine hK.out _ _ (hbq.trans (Mw.of_below kkw6)) (.inl ?_)
  clear hK K
  try simp only [putQ]
  clear hthw6 mmw6
  generalize (w5.alloc (.cells #[.int .i64 0, .bool false, .bool false, .bool false, .int .i64 0, .int .i64 0, .int .i64 0, .int .i64 0, .slice none 0 0, .slice none 0 0, .int .i64 0, .int .i64 0, .int .i64 0, .bool false, .slice none 0 0, .int .i64 0, .int .i64 0, .int .i64 0, .int .i64 0, .slice none 0 0, .slice none 0 0] 42)).setCells w5.heap.size 0 (#[.int .i64 me, .bool up, .bool gone, .bool gate, .int .i64 inc, .int .i64 now, .int .i64 sq, .int .i64 turn, .slice tax T.length tcx, .slice cax C.length ccx, .int .i64 pn, .int .i64 ps, .int .i64 pq, .bool pa, .slice dax D.length dcx, .int .i64 cx, .int .i64 cy, .int .i64 ch, .int .i64 ce, .slice plax P.length plcx, .slice oax O.length ocx] : Array Value).toList = w6 at *
  refine mE ?_
  clear hbq
  replace b0 := btrans b0 k5
  replace x0 := range_keep x0 k5
  replace x6 := range_keep x6 k5
  replace bw := btrans bw k5
  have hi5 : LO ≤ w5.heap.size := by rw [← hLO.out]; exact k5.size
  clear k5
  replace b0 := btrans b0 kkw6
  replace x0 := range_keep x0 kkw6
  replace x6 := range_keep x6 kkw6
  replace bw := btrans bw kkw6
  have k56 := kkw6
  obtain ⟨HI, hHI⟩ : ∃ B, Hid (w5.heap.size = B) := ⟨_, rfl⟩
  rw [hHI.out] at Yw6 hi5 xM
  rw [hLO.out] at xM
  rw [hHI.out]
  have x8 : w6.rangeAt HI 0 [.int .i64 me, .bool up, .bool gone, .bool gate, .int .i64 inc, .int .i64 now, .int .i64 sq, .int .i64 turn, .slice tax T.length tcx, .slice cax C.length ccx, .int .i64 pn, .int .i64 ps, .int .i64 pq, .bool pa, .slice dax D.length dcx, .int .i64 cx, .int .i64 cy, .int .i64 ch, .int .i64 ce, .slice plax P.length plcx, .slice oax O.length ocx] := Yw6.range
  have l8 : HI < w6.heap.size := Yw6.lt
  have xR6 := xR.below kkw6
  clear Yw6 kkw6 xR
  have cI := hI _ _ xR6 xF
  rw [vN.out] at cI
  unfold ndV at cI
  dsimp only at cI
  have eR : Hid (NdR w6 NN ⟨tax, tcx, cax, ccx, dax, dcx, dAx, dCx, plax, plcx, pAx, pCx, oax, ocx, oAx, oCx⟩) := xR6
  clear xR6
  have cI2 : Calls Tryz.prog 9 #[.agg #[.int .i64 me, .bool up, .bool gone, .bool gate, .int .i64 inc, .int .i64 now, .int .i64 sq, .int .i64 turn, .slice tax T.length tcx, .slice cax C.length ccx, .int .i64 pn, .int .i64 ps, .int .i64 pq, .bool pa, .slice dax D.length dcx, .int .i64 cx, .int .i64 cy, .int .i64 ch, .int .i64 ce, .slice plax P.length plcx, .slice oax O.length ocx], .int .i64 to_] w6 fun r w' => LitA N1 ws w6 w' r (fun a1 c1 a2 c2 a3 c3 a4 c4 a5 c5 aw cw => .tuple #[.agg #[.int .i64 me1, .bool up1, .bool gone1, .bool gate1, .int .i64 inc1, .int .i64 now1, .int .i64 sq1, .int .i64 turn1, .slice a1 T1.length c1, .slice a2 C1.length c2, .int .i64 pn1, .int .i64 ps1, .int .i64 pq1, .bool pa1, .slice a3 D1.length c3, .int .i64 cx1, .int .i64 cy1, .int .i64 ch1, .int .i64 ce1, .slice a4 P1.length c4, .slice a5 O1.length c5], .slice aw ws.length cw]) := cI.mono (by
    rintro r w' ⟨v1, v2, v3, v4, v5, vw, sD, sP, sO, sW, rfl, hN, hW, nw, k⟩
    obtain ⟨a1, c1, e1, _⟩ := own_slice hN.t
    rw [lN.out.1] at e1
    subst e1
    obtain ⟨a2, c2, e2, _⟩ := own_slice hN.c
    rw [lN.out.2.1] at e2
    subst e2
    obtain ⟨a3, c3, e3, _⟩ := own_slice hN.d.row
    rw [lN.out.2.2.1] at e3
    subst e3
    obtain ⟨a4, c4, e4, _⟩ := own_slice hN.p.row
    rw [lN.out.2.2.2.1] at e4
    subst e4
    obtain ⟨a5, c5, e5, _⟩ := own_slice hN.o.row
    rw [lN.out.2.2.2.2] at e5
    subst e5
    obtain ⟨aw, cw, rfl, _⟩ := own_slice hW.o.row
    refine ⟨a1, c1, a2, c2, a3, c3, a4, c4, a5, c5, aw, cw, sD, sP, sO, sW, ?_, ?_, hW, ?_, k⟩
    · rw [v1N.out]
      rfl
    · rw [lN.out.1, lN.out.2.1, lN.out.2.2.1, lN.out.2.2.2.1, lN.out.2.2.2.2]
      exact hN
    · rw [lN.out.1, lN.out.2.1, lN.out.2.2.1, lN.out.2.2.2.1, lN.out.2.2.2.2]
      exact nw)
  go_upto_region 7 with fail
  refine wp_region_w0 (fun _ => False) sl3_7 tl3_7 (fun hbq => ?_)
  refine mR (hS := id) ?_
  refine mY ?_
  refine mC (fun K hK => ?_)
  go_simp
  refine cI2.mono ?_
  rintro r w7 ⟨a1g, c1g, a2g, c2g, a3g, c3g, a4g, c4g, a5g, c5g, awg, cwg, gD, gP, gO, gW, rfl, gN, gWd, gnw, k7⟩
  rw [lN.out.1, lN.out.2.1, lN.out.2.2.1, lN.out.2.2.2.1, lN.out.2.2.2.2] at gN gnw
  go_wp2_with fail
  refine hK.out _ _ (hbq.trans (Mw.of_below k7)) (.inl ?_)
  replace hbq := hbq.trans (Mw.of_below k7)
  clear hK K
  try simp only [putQ]
  refine mY ?_
  refine mY ?_
  refine mY ?_
  refine mC (fun K hK => ?_)
  go_simp
  refine hK.out _ _ (hbq.alloc _) (.inl ?_)
  clear hK K
  try simp only [putQ]
  have Yw8 := (Ws.box (w := w7) #[.int .i64 0, .bool false, .bool false, .bool false, .int .i64 0, .int .i64 0, .int .i64 0, .int .i64 0, .slice none 0 0, .slice none 0 0, .int .i64 0, .int .i64 0, .int .i64 0, .bool false, .slice none 0 0, .int .i64 0, .int .i64 0, .int .i64 0, .int .i64 0, .slice none 0 0, .slice none 0 0] 42).cells (#[.int .i64 me1, .bool up1, .bool gone1, .bool gate1, .int .i64 inc1, .int .i64 now1, .int .i64 sq1, .int .i64 turn1, .slice a1g T1.length c1g, .slice a2g C1.length c2g, .int .i64 pn1, .int .i64 ps1, .int .i64 pq1, .bool pa1, .slice a3g D1.length c3g, .int .i64 cx1, .int .i64 cy1, .int .i64 ch1, .int .i64 ce1, .slice a4g P1.length c4g, .slice a5g O1.length c5g] : Array Value).toList rfl
  have hthw8 : (w7.alloc (.cells #[.int .i64 0, .bool false, .bool false, .bool false, .int .i64 0, .int .i64 0, .int .i64 0, .int .i64 0, .slice none 0 0, .slice none 0 0, .int .i64 0, .int .i64 0, .int .i64 0, .bool false, .slice none 0 0, .int .i64 0, .int .i64 0, .int .i64 0, .int .i64 0, .slice none 0 0, .slice none 0 0] 42)).there w7.heap.size 0 21 := (Ws.box (w := w7) #[.int .i64 0, .bool false, .bool false, .bool false, .int .i64 0, .int .i64 0, .int .i64 0, .int .i64 0, .slice none 0 0, .slice none 0 0, .int .i64 0, .int .i64 0, .int .i64 0, .bool false, .slice none 0 0, .int .i64 0, .int .i64 0, .int .i64 0, .int .i64 0, .slice none 0 0, .slice none 0 0] 42).there rfl
  have mmw8 := (Mw.of_below (S := fun x => x = w7.heap.size) (balloc (.cells #[.int .i64 0, .bool false, .bool false, .bool false, .int .i64 0, .int .i64 0, .int .i64 0, .int .i64 0, .slice none 0 0, .slice none 0 0, .int .i64 0, .int .i64 0, .int .i64 0, .bool false, .slice none 0 0, .int .i64 0, .int .i64 0, .int .i64 0, .int .i64 0, .slice none 0 0, .slice none 0 0] 42) (Below.refl w7.heap.size w7))).trans (Mw.cells (#[.int .i64 me1, .bool up1, .bool gone1, .bool gate1, .int .i64 inc1, .int .i64 now1, .int .i64 sq1, .int .i64 turn1, .slice a1g T1.length c1g, .slice a2g C1.length c2g, .int .i64 pn1, .int .i64 ps1, .int .i64 pq1, .bool pa1, .slice a3g D1.length c3g, .int .i64 cx1, .int .i64 cy1, .int .i64 ch1, .int .i64 ce1, .slice a4g P1.length c4g, .slice a5g O1.length c5g] : Array Value).toList)
  have kkw8 : Below w7.heap.size w7 ((w7.alloc (.cells #[.int .i64 0, .bool false, .bool false, .bool false, .int .i64 0, .int .i64 0, .int .i64 0, .int .i64 0, .slice none 0 0, .slice none 0 0, .int .i64 0, .int .i64 0, .int .i64 0, .bool false, .slice none 0 0, .int .i64 0, .int .i64 0, .int .i64 0, .int .i64 0, .slice none 0 0, .slice none 0 0] 42)).setCells w7.heap.size 0 (#[.int .i64 me1, .bool up1, .bool gone1, .bool gate1, .int .i64 inc1, .int .i64 now1, .int .i64 sq1, .int .i64 turn1, .slice a1g T1.length c1g, .slice a2g C1.length c2g, .int .i64 pn1, .int .i64 ps1, .int .i64 pq1, .bool pa1, .slice a3g D1.length c3g, .int .i64 cx1, .int .i64 cy1, .int .i64 ch1, .int .i64 ce1, .slice a4g P1.length c4g, .slice a5g O1.length c5g] : Array Value).toList) := mmw8.below (Below.refl _ _) (fun i e => by omega)
  refine mC (fun K hK => ?_)
  refine wp_store_mid 42 _ _ rfl w7.heap.size 0 #[.int .i64 me1, .bool up1, .bool gone1, .bool gate1, .int .i64 inc1, .int .i64 now1, .int .i64 sq1, .int .i64 turn1, .slice a1g T1.length c1g, .slice a2g C1.length c2g, .int .i64 pn1, .int .i64 ps1, .int .i64 pq1, .bool pa1, .slice a3g D1.length c3g, .int .i64 cx1, .int .i64 cy1, .int .i64 ch1, .int .i64 ce1, .slice a4g P1.length c4g, .slice a5g O1.length c5g] rfl rfl hthw8 (by kernel_rfl) (by kernel_rfl) ?_
  refine hK.out _ _ (hbq.trans (Mw.of_below kkw8)) (.inl ?_)
  clear hK K
  try simp only [putQ]
  clear hthw8 mmw8
  generalize (w7.alloc (.cells #[.int .i64 0, .bool false, .bool false, .bool false, .int .i64 0, .int .i64 0, .int .i64 0, .int .i64 0, .slice none 0 0, .slice none 0 0, .int .i64 0, .int .i64 0, .int .i64 0, .bool false, .slice none 0 0, .int .i64 0, .int .i64 0, .int .i64 0, .int .i64 0, .slice none 0 0, .slice none 0 0] 42)).setCells w7.heap.size 0 (#[.int .i64 me1, .bool up1, .bool gone1, .bool gate1, .int .i64 inc1, .int .i64 now1, .int .i64 sq1, .int .i64 turn1, .slice a1g T1.length c1g, .slice a2g C1.length c2g, .int .i64 pn1, .int .i64 ps1, .int .i64 pq1, .bool pa1, .slice a3g D1.length c3g, .int .i64 cx1, .int .i64 cy1, .int .i64 ch1, .int .i64 ce1, .slice a4g P1.length c4g, .slice a5g O1.length c5g] : Array Value).toList = w8 at *
  refine mY ?_
  refine mE ?_
  clear hbq
  clear cI cI2
  replace b0 := btrans b0 k7
  replace x0 := range_keep x0 k7
  replace x6 := range_keep x6 k7
  replace x8 := range_keep x8 k7
  replace bw := btrans bw k7
  have k67 := k7
  have h67 : w6.heap.size ≤ w7.heap.size := k7.size
  have h67 : w6.heap.size ≤ w7.heap.size := k7.size
  have g6 : HI + 1 ≤ w6.heap.size := l8
  clear k7
  replace b0 := btrans b0 kkw8
  replace x0 := range_keep x0 kkw8
  replace x6 := range_keep x6 kkw8
  replace x8 := range_keep x8 kkw8
  replace bw := btrans bw kkw8
  replace k67 := btrans k67 kkw8
  have gN8 := gN.below kkw8
  have gW8 := gWd.below kkw8
  have gB9 : ∀ x, bkN N1 (.slice a1g T1.length c1g) (.slice a2g C1.length c2g) (.slice a3g D1.length c3g) (.slice a4g P1.length c4g) (.slice a5g O1.length c5g) gD gP gO x → x < w7.heap.size := fun x e => (gN.lo x e).2
  have wB9 : ∀ x, bkW (.slice awg ws.length cwg) ws.length gW x → x < w7.heap.size := fun x e => (gWd.o.lo x e).2
  obtain ⟨B9, hB9⟩ : ∃ B, Hid (w7.heap.size = B) := ⟨_, rfl⟩
  rw [hB9.out] at gB9 wB9
  rw [hB9.out] at Yw8
  rw [hB9.out]
  have x9 : w8.rangeAt B9 0 [.int .i64 me1, .bool up1, .bool gone1, .bool gate1, .int .i64 inc1, .int .i64 now1, .int .i64 sq1, .int .i64 turn1, .slice a1g T1.length c1g, .slice a2g C1.length c2g, .int .i64 pn1, .int .i64 ps1, .int .i64 pq1, .bool pa1, .slice a3g D1.length c3g, .int .i64 cx1, .int .i64 cy1, .int .i64 ch1, .int .i64 ce1, .slice a4g P1.length c4g, .slice a5g O1.length c5g] := Yw8.range
  have l9 : B9 < w8.heap.size := Yw8.lt
  clear Yw8 gN gWd kkw8
  have n9 : HI < B9 := by rw [← hB9.out]; omega
  have gn9 : Hid (∀ x, bkN N1 (.slice a1g T1.length c1g) (.slice a2g C1.length c2g) (.slice a3g D1.length c3g) (.slice a4g P1.length c4g) (.slice a5g O1.length c5g) gD gP gO x → x ≠ B9) := fun x e => by have := gB9 x e; omega
  have wn9 : Hid (∀ x, bkW (.slice awg ws.length cwg) ws.length gW x → x ≠ B9) := fun x e => by have := wB9 x e; omega
  clear gB9 wB9
  -- the same
  have eN : NdO w8 _ N1 (.slice a1s T1.length c1s) (.slice a2s C1.length c2s) (.slice a3s D1.length c3s) (.slice a4s P1.length c4s) (.slice a5s O1.length c5s) sD sP sO := sN.below bw
  have eW := sWd.below bw
  have c10 : Hid (∀ wv, Below w8.heap.size w8 wv → Calls Tryz.prog 10 #[.agg #[.int .i64 me1, .bool up1, .bool gone1, .bool gate1, .int .i64 inc1, .int .i64 now1, .int .i64 sq1, .int .i64 turn1, .slice a1g T1.length c1g, .slice a2g C1.length c2g, .int .i64 pn1, .int .i64 ps1, .int .i64 pq1, .bool pa1, .slice a3g D1.length c3g, .int .i64 cx1, .int .i64 cy1, .int .i64 ch1, .int .i64 ce1, .slice a4g P1.length c4g, .slice a5g O1.length c5g], .agg #[.int .i64 me1, .bool up1, .bool gone1, .bool gate1, .int .i64 inc1, .int .i64 now1, .int .i64 sq1, .int .i64 turn1, .slice a1s T1.length c1s, .slice a2s C1.length c2s, .int .i64 pn1, .int .i64 ps1, .int .i64 pq1, .bool pa1, .slice a3s D1.length c3s, .int .i64 cx1, .int .i64 cy1, .int .i64 ch1, .int .i64 ce1, .slice a4s P1.length c4s, .slice a5s O1.length c5s]] wv fun r w' => r = .returned (.bool true) ∧ Below wv.heap.size wv w') := fun wv hb => by
    have q := eqNod N1 _ _ wv (gN8.below hb).toR (eN.below hb).toR
    rw [← (gN8.below hb).val, ← (eN.below hb).val, v1N.out, v1N.out] at q
    exact q
  have c11 : Hid (∀ wv, Below w8.heap.size w8 wv → Calls Tryz.prog 11 #[.slice awg ws.length cwg, .slice aws ws.length cws] wv fun r w' => r = .returned (.bool true) ∧ Below wv.heap.size wv w') := fun wv hb => eqWs_same _ _ ws _ _ _ _ wv (gW8.below hb) (eW.below hb)
  go_upto_region 8 with fail
  refine wp_region_q0 sl3_8 tl3_8 (fun hbq => ?_)
  refine qR ?_
  refine qR ?_
  refine qC (fun K hK => ?_)
  go_simp
  refine (c10.out _ hbq).mono ?_; rintro r w_2 ⟨rfl, k_2⟩
  go_wp2_with fail
  refine hK.out _ _ (btrans hbq k_2) (.inl ?_)
  clear hK K
  replace hbq := btrans hbq k_2
  clear k_2
  try simp only [putQ]
  refine qY ?_
  refine qY ?_
  refine qY ?_
  refine qY ?_
  refine qC (fun K hK => ?_)
  go_simp
  refine (c11.out _ hbq).mono ?_; rintro r w_7 ⟨rfl, k_7⟩
  go_wp2_with fail
  refine hK.out _ _ (btrans hbq k_7) (.inl ?_)
  clear hK K
  replace hbq := btrans hbq k_7
  clear k_7
  try simp only [putQ]
  refine qY ?_
  refine qY ?_
  refine qE ?_
  replace b0 := btrans b0 hbq
  replace bw := btrans bw hbq
  replace x0 := range_keep x0 hbq
  replace x6 := range_keep x6 hbq
  replace x8 := range_keep x8 hbq
  replace x9 := range_keep x9 hbq
  replace gN8 := gN8.below hbq
  replace gW8 := gW8.below hbq
  replace eN := eN.below hbq
  replace eW := eW.below hbq
  have k68 := btrans k67 hbq
  clear hbq c10 c11 k67
  go_upto_region 10 with fail
  have eX := eR.out.below k68
  refine wp_region_q sl3_10 tl3_10 (fun hbq => ?_)
  refine qR ?_
  refine qR ?_
  refine qC (fun K hK => ?_)
  go_simp
  refine (hto _ (btrans b0 hbq)).mono ?_; rintro r wa ⟨⟨taz, tcz, caz, ccz, daz, dcz, dAz, dCz, plaz, plcz, pAz, pCz, oaz, ocz, oAz, oCz⟩, rfl, zR, zF, ka, _⟩
  rw [vN.out]
  unfold ndV
  dsimp only
  go_wp2_with fail
  refine hK.out _ _ (btrans hbq ka) (.inl ?_)
  clear hK K
  replace hbq := btrans hbq ka
  clear ka
  try simp only [putQ]
  have q10 := eqNod NN _ _ wa (eX.below hbq) zR
  rw [vN.out, vN.out] at q10
  unfold ndV at q10
  dsimp only at q10
  refine qC (fun K hK => ?_)
  go_simp
  refine q10.mono ?_; rintro r wb ⟨rfl, kb⟩
  go_wp2_with fail
  refine hK.out _ _ (btrans hbq kb) (.inl ?_)
  clear hK K
  replace hbq := btrans hbq kb
  clear kb
  try simp only [putQ]
  refine qY ?_
  refine qE ?_
  replace b0 := btrans b0 hbq
  replace bw := btrans bw hbq
  replace k68 := btrans k68 hbq
  replace x0 := range_keep x0 hbq
  replace x6 := range_keep x6 hbq
  replace x8 := range_keep x8 hbq
  replace x9 := range_keep x9 hbq
  replace gN8 := gN8.below hbq
  replace gW8 := gW8.below hbq
  replace eN := eN.below hbq
  replace eW := eW.below hbq
  clear hbq q10 zR zF eX eR
  have k58 := btrans k56 k68
  clear k56 k68
  have cM := xM _ (by rw [← hHI.out]; exact k58)
  clear xM k58
  go_upto_region 13 with fail
  go_wp2_with (refine load43L (by rfl) (.tmp 8) rfl HI rfl [.int .i64 me, .bool up, .bool gone, .bool gate, .int .i64 inc, .int .i64 now, .int .i64 sq, .int .i64 turn, .slice tax T.length tcx, .slice cax C.length ccx, .int .i64 pn, .int .i64 ps, .int .i64 pq, .bool pa, .slice dax D.length dcx, .int .i64 cx, .int .i64 cy, .int .i64 ch, .int .i64 ce, .slice plax P.length plcx, .slice oax O.length ocx] x8 rfl ?_)
  refine cM.mono ?_
  rintro r wm ⟨⟨zm, rfl⟩, mk⟩
  clear cM x8
  have gl := gN8.lo
  have glW := gW8.o.lo
  replace b0 := mk.below b0 (fun i s => by have := hKX.out; omega)
  replace bw := mk.below bw (fun i s => by have := hLO.out; omega)
  replace x0 := mk.range x0 (fun s => by omega)
  replace x6 := mk.range x6 (fun s => by omega)
  replace x9 := mk.range x9 (fun s => by omega)
  replace gN8 := gN8.mw mk (fun x e s => by have := (gl x e).1; omega)
  replace gW8 := gW8.mw mk (fun x e s => by have := (glW x e).1; omega)
  clear eN eW
  have eN : NdO wm _ N1 (.slice a1s T1.length c1s) (.slice a2s C1.length c2s) (.slice a3s D1.length c3s) (.slice a4s P1.length c4s) (.slice a5s O1.length c5s) sD sP sO := sN.below bw
  have eW := sWd.below bw
  clear mk gl glW
  have c10 : Hid (∀ wv, Below wm.heap.size wm wv → Calls Tryz.prog 10 #[.agg #[.int .i64 me1, .bool up1, .bool gone1, .bool gate1, .int .i64 inc1, .int .i64 now1, .int .i64 sq1, .int .i64 turn1, .slice a1g T1.length c1g, .slice a2g C1.length c2g, .int .i64 pn1, .int .i64 ps1, .int .i64 pq1, .bool pa1, .slice a3g D1.length c3g, .int .i64 cx1, .int .i64 cy1, .int .i64 ch1, .int .i64 ce1, .slice a4g P1.length c4g, .slice a5g O1.length c5g], .agg #[.int .i64 me1, .bool up1, .bool gone1, .bool gate1, .int .i64 inc1, .int .i64 now1, .int .i64 sq1, .int .i64 turn1, .slice a1s T1.length c1s, .slice a2s C1.length c2s, .int .i64 pn1, .int .i64 ps1, .int .i64 pq1, .bool pa1, .slice a3s D1.length c3s, .int .i64 cx1, .int .i64 cy1, .int .i64 ch1, .int .i64 ce1, .slice a4s P1.length c4s, .slice a5s O1.length c5s]] wv fun r w' => r = .returned (.bool true) ∧ Below wv.heap.size wv w') := fun wv hb => by
    have q := eqNod N1 _ _ wv (gN8.below hb).toR (eN.below hb).toR
    rw [← (gN8.below hb).val, ← (eN.below hb).val, v1N.out, v1N.out] at q
    exact q
  have c11 : Hid (∀ wv, Below wm.heap.size wm wv → Calls Tryz.prog 11 #[.slice awg ws.length cwg, .slice aws ws.length cws] wv fun r w' => r = .returned (.bool true) ∧ Below wv.heap.size wv w') := fun wv hb => eqWs_same _ _ ws _ _ _ _ wv (gW8.below hb) (eW.below hb)
  have hzm : ((zm : Int) < 0) = False := by simp
  go_upto_region 14 with fail
  refine wp_region_q0 sl3_14 tl3_14 (fun hbq => ?_)
  refine qY ?_
  refine qV (.bool false) ?_ (by (intro w; go_simp; all_goals (first | with_reducible rfl | (simp; done) | (simp; omega))))
  refine qY ?_
  refine qR ?_
  refine qR ?_
  refine qC (fun K hK => ?_)
  go_simp
  refine (c10.out _ hbq).mono ?_; rintro r w_5 ⟨rfl, k_5⟩
  go_wp2_with fail
  refine hK.out _ _ (btrans hbq k_5) (.inl ?_)
  clear hK K
  replace hbq := btrans hbq k_5
  clear k_5
  try simp only [putQ]
  refine qY ?_
  refine qY ?_
  refine qY ?_
  refine qY ?_
  refine qY ?_
  refine qC (fun K hK => ?_)
  go_simp
  refine (c11.out _ hbq).mono ?_; rintro r w_11 ⟨rfl, k_11⟩
  go_wp2_with fail
  refine hK.out _ _ (btrans hbq k_11) (.inl ?_)
  clear hK K
  replace hbq := btrans hbq k_11
  clear k_11
  try simp only [putQ]
  refine qY ?_
  refine qY ?_
  refine qE ?_
  replace b0 := btrans b0 hbq
  replace bw := btrans bw hbq
  replace x0 := range_keep x0 hbq
  replace x6 := range_keep x6 hbq
  replace x9 := range_keep x9 hbq
  replace gN8 := gN8.below hbq
  replace gW8 := gW8.below hbq
  clear hbq c10 c11 eN eW hzm
  go_upto_region 17 with fail
  -- marks
  have cM := markN_any _ N1 _ _ _ _ _ gD gP gO 1 _ gN8 (by omega)
  rw [v1N.out] at cM
  unfold ndW at cM
  dsimp only at cM
  go_wp2_with (refine load43L (by rfl) (.tmp 9) rfl B9 rfl [.int .i64 me1, .bool up1, .bool gone1, .bool gate1, .int .i64 inc1, .int .i64 now1, .int .i64 sq1, .int .i64 turn1, .slice a1g T1.length c1g, .slice a2g C1.length c2g, .int .i64 pn1, .int .i64 ps1, .int .i64 pq1, .bool pa1, .slice a3g D1.length c3g, .int .i64 cx1, .int .i64 cy1, .int .i64 ch1, .int .i64 ce1, .slice a4g P1.length c4g, .slice a5g O1.length c5g] x9 rfl ?_)
  refine cM.mono ?_
  rintro r wn ⟨rfl, hdN, mk⟩
  clear cM
  have gl := gN8.lo
  have glW := gW8.o.lo
  have bdE := (bnd 1 gN8 (by omega)).2.2.2.2
  have gN0 := gN8
  replace b0 := mk.below b0 (fun i s => by have := (gl i s).1; have := hKX.out; omega)
  replace bw := mk.below bw (fun i s => by have := (gl i s).1; have := hLO.out; omega)
  replace x0 := mk.range x0 (fun s => by have := (gl _ s).1; omega)
  replace x6 := mk.range x6 (fun s => by have := (gl _ s).1; omega)
  replace x9 := mk.range x9 (fun s => gn9.out _ s rfl)
  replace gW8 := gW8.mw mk (fun x e s => gnw x s e)
  obtain ⟨KN, hKN⟩ : ∃ K, Hid (kE N1 1 = K) := ⟨_, rfl⟩
  rw [hKN.out] at bdE
  rw [hKN.out]
  clear mk gN8
  go_wp2_with fail
  refine (markW_own _ ws.length _ _ gW _ _ KN _ gW8.o gW8.h gW8.hn (by omega)).mono ?_
  rintro r wo ⟨rfl, hdW, mk⟩
  have bdW := stoW_le (nl := wN ws) (k0 := KN) ws.length gW8.hn
  have hws := gW8.h
  replace b0 := mk.below b0 (fun i s => by have := (glW i s).1; have := hKX.out; omega)
  replace bw := mk.below bw (fun i s => by have := (glW i s).1; have := hLO.out; omega)
  replace x0 := mk.range x0 (fun s => by have := (glW _ s).1; omega)
  replace x6 := mk.range x6 (fun s => by have := (glW _ s).1; omega)
  replace x9 := mk.range x9 (fun s => wn9.out _ s rfl)
  replace hdN := hdN.mw mk (fun x e s => gnw x e s)
  obtain ⟨KM, hKM⟩ : ∃ K, Hid (stoW (wN ws) KN ws.length = K) := ⟨_, rfl⟩
  rw [hKM.out] at bdW
  rw [hKM.out]
  have hwn := gW8.hn
  clear mk gW8 gl glW
  have i1 : ¬ ((KN : Int) < 0) := by omega
  have i2 : ¬ ((KM : Int) < 0) := by omega
  -- held
  have cH := heldN_any _ N1 _ _ _ _ _ gD gP gO 1 _ _ gN0 hdN (by omega)
  rw [v1N.out, hKN.out] at cH
  unfold ndW at cH
  dsimp only at cH
  go_wp2_with (refine load43L (by rfl) (.tmp 9) rfl B9 rfl [.int .i64 me1, .bool up1, .bool gone1, .bool gate1, .int .i64 inc1, .int .i64 now1, .int .i64 sq1, .int .i64 turn1, .slice a1g T1.length c1g, .slice a2g C1.length c2g, .int .i64 pn1, .int .i64 ps1, .int .i64 pq1, .bool pa1, .slice a3g D1.length c3g, .int .i64 cx1, .int .i64 cy1, .int .i64 ch1, .int .i64 ce1, .slice a4g P1.length c4g, .slice a5g O1.length c5g] x9 rfl ?_)
  refine cH.mono ?_
  rintro r wp ⟨rfl, kp⟩
  clear cH
  replace b0 := btrans b0 kp
  replace bw := btrans bw kp
  replace x0 := range_keep x0 kp
  replace x6 := range_keep x6 kp
  replace x9 := range_keep x9 kp
  replace hdN := hdN.below kp
  replace hdW := hdW.below kp
  clear kp
  go_wp2_with fail
  refine (heldW_own _ ws.length _ gW _ KN _ hdW hws hwn (by omega)).mono ?_
  rintro r wq ⟨rfl, hw⟩
  obtain rfl := hw.symm
  clear hw
  rw [hKM.out]
  have i3 : ((KM : Int) != (KM : Int)) = false := by simp
  go_upto_region 28 with fail
  -- once more
  refine wp_region_w0 (fun _ => False) sl3_28 tl3_28 (fun hbq => ?_)
  refine mR (hS := id) ?_
  refine mC (fun K hK => ?_)
  go_simp
  refine (hto _ b0).mono ?_
  rintro r wr ⟨⟨tat, tct, cat, cct, dat, dct, dAt, dCt, plat, plct, pAt, pCt, oat, oct, oAt, oCt⟩, rfl, tR, tF_, kt, _⟩
  have cI := hI _ _ tR tF_
  rw [vN.out] at cI
  rw [vN.out]
  unfold ndV at cI ⊢
  dsimp only at cI ⊢
  clear tR tF_
  have cI2 : Calls Tryz.prog 9 #[.agg #[.int .i64 me, .bool up, .bool gone, .bool gate, .int .i64 inc, .int .i64 now, .int .i64 sq, .int .i64 turn, .slice tat T.length tct, .slice cat C.length cct, .int .i64 pn, .int .i64 ps, .int .i64 pq, .bool pa, .slice dat D.length dct, .int .i64 cx, .int .i64 cy, .int .i64 ch, .int .i64 ce, .slice plat P.length plct, .slice oat O.length oct], .int .i64 to_] wr fun r w' => LitA N1 ws wr w' r (fun a1 c1 a2 c2 a3 c3 a4 c4 a5 c5 aw cw => .tuple #[.agg #[.int .i64 me1, .bool up1, .bool gone1, .bool gate1, .int .i64 inc1, .int .i64 now1, .int .i64 sq1, .int .i64 turn1, .slice a1 T1.length c1, .slice a2 C1.length c2, .int .i64 pn1, .int .i64 ps1, .int .i64 pq1, .bool pa1, .slice a3 D1.length c3, .int .i64 cx1, .int .i64 cy1, .int .i64 ch1, .int .i64 ce1, .slice a4 P1.length c4, .slice a5 O1.length c5], .slice aw ws.length cw]) := cI.mono (by
    rintro r w' ⟨v1, v2, v3, v4, v5, vw, sD, sP, sO, sW, rfl, hN, hW, nw, k⟩
    obtain ⟨a1, c1, e1, _⟩ := own_slice hN.t
    rw [lN.out.1] at e1
    subst e1
    obtain ⟨a2, c2, e2, _⟩ := own_slice hN.c
    rw [lN.out.2.1] at e2
    subst e2
    obtain ⟨a3, c3, e3, _⟩ := own_slice hN.d.row
    rw [lN.out.2.2.1] at e3
    subst e3
    obtain ⟨a4, c4, e4, _⟩ := own_slice hN.p.row
    rw [lN.out.2.2.2.1] at e4
    subst e4
    obtain ⟨a5, c5, e5, _⟩ := own_slice hN.o.row
    rw [lN.out.2.2.2.2] at e5
    subst e5
    obtain ⟨aw, cw, rfl, _⟩ := own_slice hW.o.row
    refine ⟨a1, c1, a2, c2, a3, c3, a4, c4, a5, c5, aw, cw, sD, sP, sO, sW, ?_, ?_, hW, ?_, k⟩
    · rw [v1N.out]
      rfl
    · rw [lN.out.1, lN.out.2.1, lN.out.2.2.1, lN.out.2.2.2.1, lN.out.2.2.2.2]
      exact hN
    · rw [lN.out.1, lN.out.2.1, lN.out.2.2.1, lN.out.2.2.2.1, lN.out.2.2.2.2]
      exact nw)
  go_wp2_with fail
  refine hK.out _ _ (hbq.trans (Mw.of_below kt)) (.inl ?_)
  replace hbq := hbq.trans (Mw.of_below kt)
  clear hK K
  try simp only [putQ]
  refine mY ?_
  refine mC (fun K hK => ?_)
  go_simp
  refine cI2.mono ?_
  rintro r ws_ ⟨a1h, c1h, a2h, c2h, a3h, c3h, a4h, c4h, a5h, c5h, awh, cwh, hD, hP, hO, hW, rfl, tN, tW, _, ku⟩
  rw [lN.out.1, lN.out.2.1, lN.out.2.2.1, lN.out.2.2.2.1, lN.out.2.2.2.2] at tN
  go_wp2_with fail
  refine hK.out _ _ (hbq.trans (Mw.of_below ku)) (.inl ?_)
  replace hbq := hbq.trans (Mw.of_below ku)
  clear hK K
  try simp only [putQ]
  refine mY ?_
  refine mY ?_
  refine mY ?_
  refine mC (fun K hK => ?_)
  go_simp
  refine hK.out _ _ (hbq.alloc _) (.inl ?_)
  clear hK K
  try simp only [putQ]
  have Ywt := (Ws.box (w := ws_) #[.int .i64 0, .bool false, .bool false, .bool false, .int .i64 0, .int .i64 0, .int .i64 0, .int .i64 0, .slice none 0 0, .slice none 0 0, .int .i64 0, .int .i64 0, .int .i64 0, .bool false, .slice none 0 0, .int .i64 0, .int .i64 0, .int .i64 0, .int .i64 0, .slice none 0 0, .slice none 0 0] 42).cells (#[.int .i64 me1, .bool up1, .bool gone1, .bool gate1, .int .i64 inc1, .int .i64 now1, .int .i64 sq1, .int .i64 turn1, .slice a1h T1.length c1h, .slice a2h C1.length c2h, .int .i64 pn1, .int .i64 ps1, .int .i64 pq1, .bool pa1, .slice a3h D1.length c3h, .int .i64 cx1, .int .i64 cy1, .int .i64 ch1, .int .i64 ce1, .slice a4h P1.length c4h, .slice a5h O1.length c5h] : Array Value).toList rfl
  have hthwt : (ws_.alloc (.cells #[.int .i64 0, .bool false, .bool false, .bool false, .int .i64 0, .int .i64 0, .int .i64 0, .int .i64 0, .slice none 0 0, .slice none 0 0, .int .i64 0, .int .i64 0, .int .i64 0, .bool false, .slice none 0 0, .int .i64 0, .int .i64 0, .int .i64 0, .int .i64 0, .slice none 0 0, .slice none 0 0] 42)).there ws_.heap.size 0 21 := (Ws.box (w := ws_) #[.int .i64 0, .bool false, .bool false, .bool false, .int .i64 0, .int .i64 0, .int .i64 0, .int .i64 0, .slice none 0 0, .slice none 0 0, .int .i64 0, .int .i64 0, .int .i64 0, .bool false, .slice none 0 0, .int .i64 0, .int .i64 0, .int .i64 0, .int .i64 0, .slice none 0 0, .slice none 0 0] 42).there rfl
  have mmwt := (Mw.of_below (S := fun x => x = ws_.heap.size) (balloc (.cells #[.int .i64 0, .bool false, .bool false, .bool false, .int .i64 0, .int .i64 0, .int .i64 0, .int .i64 0, .slice none 0 0, .slice none 0 0, .int .i64 0, .int .i64 0, .int .i64 0, .bool false, .slice none 0 0, .int .i64 0, .int .i64 0, .int .i64 0, .int .i64 0, .slice none 0 0, .slice none 0 0] 42) (Below.refl ws_.heap.size ws_))).trans (Mw.cells (#[.int .i64 me1, .bool up1, .bool gone1, .bool gate1, .int .i64 inc1, .int .i64 now1, .int .i64 sq1, .int .i64 turn1, .slice a1h T1.length c1h, .slice a2h C1.length c2h, .int .i64 pn1, .int .i64 ps1, .int .i64 pq1, .bool pa1, .slice a3h D1.length c3h, .int .i64 cx1, .int .i64 cy1, .int .i64 ch1, .int .i64 ce1, .slice a4h P1.length c4h, .slice a5h O1.length c5h] : Array Value).toList)
  have kkwt : Below ws_.heap.size ws_ ((ws_.alloc (.cells #[.int .i64 0, .bool false, .bool false, .bool false, .int .i64 0, .int .i64 0, .int .i64 0, .int .i64 0, .slice none 0 0, .slice none 0 0, .int .i64 0, .int .i64 0, .int .i64 0, .bool false, .slice none 0 0, .int .i64 0, .int .i64 0, .int .i64 0, .int .i64 0, .slice none 0 0, .slice none 0 0] 42)).setCells ws_.heap.size 0 (#[.int .i64 me1, .bool up1, .bool gone1, .bool gate1, .int .i64 inc1, .int .i64 now1, .int .i64 sq1, .int .i64 turn1, .slice a1h T1.length c1h, .slice a2h C1.length c2h, .int .i64 pn1, .int .i64 ps1, .int .i64 pq1, .bool pa1, .slice a3h D1.length c3h, .int .i64 cx1, .int .i64 cy1, .int .i64 ch1, .int .i64 ce1, .slice a4h P1.length c4h, .slice a5h O1.length c5h] : Array Value).toList) := mmwt.below (Below.refl _ _) (fun i e => by omega)
  refine mC (fun K hK => ?_)
  refine wp_store_mid 42 _ _ rfl ws_.heap.size 0 #[.int .i64 me1, .bool up1, .bool gone1, .bool gate1, .int .i64 inc1, .int .i64 now1, .int .i64 sq1, .int .i64 turn1, .slice a1h T1.length c1h, .slice a2h C1.length c2h, .int .i64 pn1, .int .i64 ps1, .int .i64 pq1, .bool pa1, .slice a3h D1.length c3h, .int .i64 cx1, .int .i64 cy1, .int .i64 ch1, .int .i64 ce1, .slice a4h P1.length c4h, .slice a5h O1.length c5h] rfl rfl hthwt (by kernel_rfl) (by kernel_rfl) ?_
  refine hK.out _ _ (hbq.trans (Mw.of_below kkwt)) (.inl ?_)
  clear hK K
  try simp only [putQ]
  clear hthwt mmwt
  generalize (ws_.alloc (.cells #[.int .i64 0, .bool false, .bool false, .bool false, .int .i64 0, .int .i64 0, .int .i64 0, .int .i64 0, .slice none 0 0, .slice none 0 0, .int .i64 0, .int .i64 0, .int .i64 0, .bool false, .slice none 0 0, .int .i64 0, .int .i64 0, .int .i64 0, .int .i64 0, .slice none 0 0, .slice none 0 0] 42)).setCells ws_.heap.size 0 (#[.int .i64 me1, .bool up1, .bool gone1, .bool gate1, .int .i64 inc1, .int .i64 now1, .int .i64 sq1, .int .i64 turn1, .slice a1h T1.length c1h, .slice a2h C1.length c2h, .int .i64 pn1, .int .i64 ps1, .int .i64 pq1, .bool pa1, .slice a3h D1.length c3h, .int .i64 cx1, .int .i64 cy1, .int .i64 ch1, .int .i64 ce1, .slice a4h P1.length c4h, .slice a5h O1.length c5h] : Array Value).toList = wt at *
  refine mY ?_
  refine mE ?_
  clear hbq
  clear cI cI2 hI hto x0
  replace b0 := btrans b0 kt
  replace bw := btrans bw kt
  replace x6 := range_keep x6 kt
  replace x9 := range_keep x9 kt
  replace hdN := hdN.below kt
  replace hdW := hdW.below kt
  replace b0 := btrans b0 ku
  replace bw := btrans bw ku
  replace x6 := range_keep x6 ku
  replace x9 := range_keep x9 ku
  replace hdN := hdN.below ku
  replace hdW := hdW.below ku
  clear kt ku
  replace b0 := btrans b0 kkwt
  replace bw := btrans bw kkwt
  replace x6 := range_keep x6 kkwt
  replace x9 := range_keep x9 kkwt
  replace hdN := hdN.below kkwt
  replace hdW := hdW.below kkwt
  replace tN := tN.below kkwt
  replace tW := tW.below kkwt
  go_upto_region 29 with fail
  obtain ⟨BT, hBT⟩ : ∃ B, Hid (ws_.heap.size = B) := ⟨_, rfl⟩
  rw [hBT.out] at Ywt
  rw [hBT.out]
  have x14 : wt.rangeAt BT 0 [.int .i64 me1, .bool up1, .bool gone1, .bool gate1, .int .i64 inc1, .int .i64 now1, .int .i64 sq1, .int .i64 turn1, .slice a1h T1.length c1h, .slice a2h C1.length c2h, .int .i64 pn1, .int .i64 ps1, .int .i64 pq1, .bool pa1, .slice a3h D1.length c3h, .int .i64 cx1, .int .i64 cy1, .int .i64 ch1, .int .i64 ce1, .slice a4h P1.length c4h, .slice a5h O1.length c5h] := Ywt.range
  clear Ywt kkwt hBT
  have eN : NdO wt _ N1 (.slice a1s T1.length c1s) (.slice a2s C1.length c2s) (.slice a3s D1.length c3s) (.slice a4s P1.length c4s) (.slice a5s O1.length c5s) sD sP sO := sN.below bw
  have eW := sWd.below bw
  have c10 : Hid (∀ wv, Below wt.heap.size wt wv → Calls Tryz.prog 10 #[.agg #[.int .i64 me1, .bool up1, .bool gone1, .bool gate1, .int .i64 inc1, .int .i64 now1, .int .i64 sq1, .int .i64 turn1, .slice a1h T1.length c1h, .slice a2h C1.length c2h, .int .i64 pn1, .int .i64 ps1, .int .i64 pq1, .bool pa1, .slice a3h D1.length c3h, .int .i64 cx1, .int .i64 cy1, .int .i64 ch1, .int .i64 ce1, .slice a4h P1.length c4h, .slice a5h O1.length c5h], .agg #[.int .i64 me1, .bool up1, .bool gone1, .bool gate1, .int .i64 inc1, .int .i64 now1, .int .i64 sq1, .int .i64 turn1, .slice a1s T1.length c1s, .slice a2s C1.length c2s, .int .i64 pn1, .int .i64 ps1, .int .i64 pq1, .bool pa1, .slice a3s D1.length c3s, .int .i64 cx1, .int .i64 cy1, .int .i64 ch1, .int .i64 ce1, .slice a4s P1.length c4s, .slice a5s O1.length c5s]] wv fun r w' => r = .returned (.bool true) ∧ Below wv.heap.size wv w') := fun wv hb => by
    have q := eqNod N1 _ _ wv (tN.below hb).toR (eN.below hb).toR
    rw [← (tN.below hb).val, ← (eN.below hb).val, v1N.out, v1N.out] at q
    exact q
  have c11 : Hid (∀ wv, Below wt.heap.size wt wv → Calls Tryz.prog 11 #[.slice awh ws.length cwh, .slice aws ws.length cws] wv fun r w' => r = .returned (.bool true) ∧ Below wv.heap.size wv w') := fun wv hb => eqWs_same _ _ ws _ _ _ _ wv (tW.below hb) (eW.below hb)
  refine wp_region_q0 sl3_29 tl3_29 (fun hbq => ?_)
  refine qR ?_
  refine qR ?_
  refine qC (fun K hK => ?_)
  go_simp
  refine (c10.out _ hbq).mono ?_; rintro r w_2 ⟨rfl, k_2⟩
  go_wp2_with fail
  refine hK.out _ _ (btrans hbq k_2) (.inl ?_)
  clear hK K
  replace hbq := btrans hbq k_2
  clear k_2
  try simp only [putQ]
  refine qY ?_
  refine qY ?_
  refine qY ?_
  refine qY ?_
  refine qC (fun K hK => ?_)
  go_simp
  refine (c11.out _ hbq).mono ?_; rintro r w_7 ⟨rfl, k_7⟩
  go_wp2_with fail
  refine hK.out _ _ (btrans hbq k_7) (.inl ?_)
  clear hK K
  replace hbq := btrans hbq k_7
  clear k_7
  try simp only [putQ]
  refine qY ?_
  refine qY ?_
  refine qE ?_
  replace b0 := btrans b0 hbq
  replace x9 := range_keep x9 hbq
  replace hdN := hdN.below hbq
  replace hdW := hdW.below hbq
  clear hbq c10 c11 tN tW eN eW x14 x6 bw sN sWd
  go_upto_region 32 with fail
  have cH := heldN_any _ N1 _ _ _ _ _ gD gP gO 1 _ _ gN0 hdN (by omega)
  rw [v1N.out, hKN.out] at cH
  unfold ndW at cH
  dsimp only at cH
  go_wp2_with (refine load43L (by rfl) (.tmp 9) rfl B9 rfl [.int .i64 me1, .bool up1, .bool gone1, .bool gate1, .int .i64 inc1, .int .i64 now1, .int .i64 sq1, .int .i64 turn1, .slice a1g T1.length c1g, .slice a2g C1.length c2g, .int .i64 pn1, .int .i64 ps1, .int .i64 pq1, .bool pa1, .slice a3g D1.length c3g, .int .i64 cx1, .int .i64 cy1, .int .i64 ch1, .int .i64 ce1, .slice a4g P1.length c4g, .slice a5g O1.length c5g] x9 rfl ?_)
  refine cH.mono ?_
  rintro r wp ⟨rfl, kp⟩
  clear cH
  replace b0 := btrans b0 kp
  replace hdW := hdW.below kp
  clear kp x9 hdN
  go_wp2_with fail
  refine (heldW_own _ ws.length _ gW _ KN _ hdW hws hwn (by omega)).mono ?_
  rintro r wq ⟨rfl, hw⟩
  obtain rfl := hw.symm
  clear hw hdW
  rw [hKM.out]
  go_wp2
  go_ret
  exact ⟨rfl, b0⟩
end Go.Proofs.YtdlaenbiamknlaaGreat
/- Nodes: a node that came in, as data; exact NodeJoin, walked. -/
namespace Go.Proofs.YtdlaenbiamknlaaGreat
open Go.ChangeShapes Go.WideShapes Go.ChangeAt Go.RowKit
theorem dL_congr {n : Nat} {G G' : Nat → Dt} (h : ∀ j, DtEq (G' j) (G j)) : dL n G' = dL n G := by
  unfold dL
  refine List.map_congr_left fun k _ => ?_
  obtain ⟨h1, h2, h3, h4, h5⟩ := h k
  rw [h1, h2, h3, h4, h5]
theorem pL_congr {n : Nat} {G G' : Nat → Pl} (h : ∀ j, PlEq (G' j) (G j)) : pL n G' = pL n G := by
  unfold pL
  refine List.map_congr_left fun k _ => ?_
  obtain ⟨h1, h2, h3, h4, h5, h6, h7⟩ := h k
  rw [h1, h2, h3, h4, h5, h6, h7]
theorem oL_congr {n : Nat} {G G' : Nat → Fg} (h : ∀ j, FgEq (G' j) (G j)) : oL n G' = oL n G := by
  unfold oL
  refine List.map_congr_left fun k _ => ?_
  obtain ⟨h1, h2, h3⟩ := h k
  rw [h1, h2, h3]
theorem to_TO (me : Int) (up gone gate : Bool) (inc now sq turn : Int) (ta : Option Addr) (tl tc : Nat) (ca : Option Addr) (cl cc : Nat) (pn ps pq : Int) (pa : Bool) (da : Option Addr) (dl dc : Nat) (cx cy ch ce : Int) (pla : Option Addr) (pll plc : Nat) (oa : Option Addr) (ol oc : Nat) (F : Nat → Fc) (GI : Nat → It) (GD : Nat → Dt) (GP : Nat → Pl) (GO : Nat → Fg) (w : World) (h : NdRaw w ta tl tc F ca cl cc GI da dl GD pla pll GP oa ol GO) (m : NdMax tl cl dl GD pll GP ol GO) :
    Calls Tryz.prog 8 #[.agg #[.int .i64 me, .bool up, .bool gone, .bool gate, .int .i64 inc, .int .i64 now, .int .i64 sq, .int .i64 turn, .slice ta tl tc, .slice ca cl cc, .int .i64 pn, .int .i64 ps, .int .i64 pq, .bool pa, .slice da dl dc, .int .i64 cx, .int .i64 cy, .int .i64 ch, .int .i64 ce, .slice pla pll plc, .slice oa ol oc]] w fun r w' => TO w w' r (nodOf me up gone gate inc now sq turn tl F cl GI pn ps pq pa dl GD cx cy ch ce pll GP ol GO) := by
  have mi := h.toIn m
  refine (toNodeM_any me up gone gate inc now sq turn ta tl tc ca cl cc pn ps pq pa da dl dc cx cy ch ce pla pll plc oa ol oc F GI GD GP GO w mi h.cf h.ci (fun j hj => (h.db j hj).2.2) (fun j hj => (h.pb j hj).2.2) (fun j hj => (h.ob j hj).2.2)).mono ?_
  rintro r w2 ⟨f1, f2, f3, f4, f5, fD, fP, fO, rfl, fN, fd, fp, fo, k⟩
  have fI := fN.toIn fd fp fo (fun j hj => (mi.db j hj).2) (fun j hj => (mi.pb j hj).2) (fun j hj => (mi.ob j hj).2) mi.hf mi.hi mi.hd mi.hp mi.ho
  have en : nodOf me up gone gate inc now sq turn tl F cl GI pn ps pq pa dl fD cx cy ch ce pll fP ol fO = nodOf me up gone gate inc now sq turn tl F cl GI pn ps pq pa dl GD cx cy ch ce pll GP ol GO := by
    unfold nodOf
    rw [dL_congr fd, pL_congr fp, oL_congr fo]
  have cn := canon me up gone gate inc now sq turn _ tl tl _ cl cl pn ps pq pa _ dl dl cx cy ch ce _ pll pll _ ol ol F GI fD fP fO fI
  have ev : ndV (nodOf me up gone gate inc now sq turn tl F cl GI pn ps pq pa dl GD cx cy ch ce pll GP ol GO) (locOf (some ⟨f1, 0, none⟩) tl (some ⟨f2, 0, none⟩) cl (some ⟨f3, 0, none⟩) dl fD (some ⟨f4, 0, none⟩) pll fP (some ⟨f5, 0, none⟩) ol fO) = .agg #[.int .i64 me, .bool up, .bool gone, .bool gate, .int .i64 inc, .int .i64 now, .int .i64 sq, .int .i64 turn, .slice (some ⟨f1, 0, none⟩) tl tl, .slice (some ⟨f2, 0, none⟩) cl cl, .int .i64 pn, .int .i64 ps, .int .i64 pq, .bool pa, .slice (some ⟨f3, 0, none⟩) dl dl, .int .i64 cx, .int .i64 cy, .int .i64 ch, .int .i64 ce, .slice (some ⟨f4, 0, none⟩) pll pll, .slice (some ⟨f5, 0, none⟩) ol ol] := by
    unfold ndV nodOf locOf
    dsimp only
    have l1 : (seqF F tl).length = tl := seqF_len F tl
    have l2 : (cL cl GI).length = cl := by simp [cL]
    have l3 : (dL dl GD).length = dl := by simp [dL]
    have l4 : (pL pll GP).length = pll := by simp [pL]
    have l5 : (oL ol GO).length = ol := by simp [oL]
    rw [l1, l2, l3, l4, l5]
  refine ⟨_, by rw [ev], by rw [← en]; exact cn, ?_, k, fun w3 hb => ?_⟩
  · refine ⟨.inr ⟨_, _, rfl⟩, .inr ⟨_, _, rfl⟩, .inr ⟨_, _, rfl⟩, fun j hj => ?_, .inr ⟨_, _, rfl⟩, fun j hj => ?_, .inr ⟨_, _, rfl⟩, fun j hj => ?_⟩
    · have hj2 : j < dl := by simpa [nodOf, dL] using hj
      obtain ⟨bb, e, _⟩ := fN.dO j hj2
      exact .inr ⟨bb, 0, e⟩
    · have hj2 : j < pll := by simpa [nodOf, pL] using hj
      obtain ⟨bb, e, _⟩ := fN.pO j hj2
      exact .inr ⟨bb, 0, e⟩
    · have hj2 : j < ol := by simpa [nodOf, oL] using hj
      obtain ⟨bb, e, _⟩ := fN.oO j hj2
      exact .inr ⟨bb, 0, e⟩
  · rw [ev]
    refine (markNode_any me up gone gate inc now sq turn pn ps pq pa cx cy ch ce tl F cl GI dl fD pll fP ol fO w.heap.size w2.heap.size f1 f2 f3 f4 f5 w3 (fN.below hb) fN.o.lt fN.oO.lt hb.size fI.hf fI.hi fI.hd fI.hp fI.ho (fun j hj => (fI.db j hj).2) (fun j hj => (fI.pb j hj).2) (fun j hj => (fI.ob j hj).2)).mono ?_
    rintro r w4 ⟨hz, M⟩
    exact ⟨hz, M.os, M.tape, M.output, M.size, fun x hx q => M.block x hx (by omega)⟩
theorem sz_HH (me : Int) (up gone gate : Bool) (inc now sq turn : Int) (ta : Option Addr) (tl tc : Nat) (ca : Option Addr) (cl cc : Nat) (pn ps pq : Int) (pa : Bool) (da : Option Addr) (dl dc : Nat) (cx cy ch ce : Int) (pla : Option Addr) (pll plc : Nat) (oa : Option Addr) (ol oc : Nat) (F : Nat → Fc) (GI : Nat → It) (GD : Nat → Dt) (GP : Nat → Pl) (GO : Nat → Fg) (w : World) (h : NdRaw w ta tl tc F ca cl cc GI da dl GD pla pll GP oa ol GO) :
    Calls Tryz.prog 6 #[.agg #[.int .i64 me, .bool up, .bool gone, .bool gate, .int .i64 inc, .int .i64 now, .int .i64 sq, .int .i64 turn, .slice ta tl tc, .slice ca cl cc, .int .i64 pn, .int .i64 ps, .int .i64 pq, .bool pa, .slice da dl dc, .int .i64 cx, .int .i64 cy, .int .i64 ch, .int .i64 ce, .slice pla pll plc, .slice oa ol oc], .int .i64 1048576] w fun r w2 => (∃ z : Int, r = .returned (.int .i64 z) ∧ (z = -1 ∨ (0 ≤ z ∧ NdMax tl cl dl GD pll GP ol GO))) ∧ Below w.heap.size w w2 :=
  (szNode_any me up gone gate inc now sq turn ta tl tc ca cl cc pn ps pq pa da dl dc cx cy ch ce pla pll plc oa ol oc F GI GD GP GO w h).mono (by
    rintro r w2 ⟨⟨z, rfl, hz⟩, k⟩
    refine ⟨⟨z, rfl, hz.imp id fun q => ⟨q.1.1, q.2⟩⟩, k⟩)
theorem exNodeJoin_walk (me : Int) (up gone gate : Bool) (inc now sq turn : Int) (ta : Option Addr) (tl tc : Nat) (ca : Option Addr) (cl cc : Nat) (pn ps pq : Int) (pa : Bool) (da : Option Addr) (dl dc : Nat) (cx cy ch ce : Int) (pla : Option Addr) (pll plc : Nat) (oa : Option Addr) (ol oc : Nat) (F : Nat → Fc) (GI : Nat → It) (GD : Nat → Dt) (GP : Nat → Pl) (GO : Nat → Fg) (to_ : Int) (w : World) (h : NdRaw w ta tl tc F ca cl cc GI da dl GD pla pll GP oa ol GO) :
    Calls Tryz.prog 3 #[.agg #[.int .i64 me, .bool up, .bool gone, .bool gate, .int .i64 inc, .int .i64 now, .int .i64 sq, .int .i64 turn, .slice ta tl tc, .slice ca cl cc, .int .i64 pn, .int .i64 ps, .int .i64 pq, .bool pa, .slice da dl dc, .int .i64 cx, .int .i64 cy, .int .i64 ch, .int .i64 ce, .slice pla pll plc, .slice oa ol oc], .int .i64 to_] w fun r w' => r = .returned (.bool true) ∧ Below w.heap.size w w' :=
  law3_walk _ _ _ _ _ _ _ _ _ _ _ _ _ _ _ _ _ _ _ _ _ to_ (nodOf me up gone gate inc now sq turn tl F cl GI pn ps pq pa dl GD cx cy ch ce pll GP ol GO) (jnN (nodOf me up gone gate inc now sq turn tl F cl GI pn ps pq pa dl GD cx cy ch ce pll GP ol GO)) (jnW (nodOf me up gone gate inc now sq turn tl F cl GI pn ps pq pa dl GD cx cy ch ce pll GP ol GO) to_) (NdMax tl cl dl GD pll GP ol GO) w
    (fun w1 hb => sz_HH me up gone gate inc now sq turn ta tl tc ca cl cc pn ps pq pa da dl dc cx cy ch ce pla pll plc oa ol oc F GI GD GP GO w1 (h.below hb)) (fun m w1 hb => to_TO me up gone gate inc now sq turn ta tl tc ca cl cc pn ps pq pa da dl dc cx cy ch ce pla pll plc oa ol oc F GI GD GP GO w1 (h.below hb) m) (fun L w1 hR hF => joinS_any _ L to_ w1 hR hF) (fun L w1 hR hF => joinI_any _ L to_ w1 hR hF)
end Go.Proofs.YtdlaenbiamknlaaGreat
