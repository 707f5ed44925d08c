/- Exact WorldOk, walked. -/
import Derived.Test.YthekjfdggfbelaaGreatWw
import Derived.Test.YthekjfdggfbelaaGreatOpn
namespace Go.Proofs.YthekjfdggfbelaaGreat
open Go.ChangeShapes Go.WideShapes Go.ChangeAt Go.RowKit
def s3_10 : List Stp := [⟨some 22, .load 34 (.tmp 5), 34, none, 0⟩, ⟨some 23, .load 27 (.tmp 1), 27, none, 0⟩, ⟨some 24, .call { callee := .value (.func 7), args := #[.tmp 23], argTypes := #[27] }, 34, none, 1⟩, ⟨some 25, .call { callee := .value (.func 9), args := #[.tmp 22, .tmp 24], argTypes := #[34, 34] }, 4, none, 1⟩, ⟨some 26, .unOp .not 4 (.tmp 25), 4, none, 0⟩]
def t3_10 : List (Nat × Nat) := [(0, 0), (1, 0), (2, 1), (3, 1), (4, 0)]
set_option maxRecDepth 20000 in
set_option maxHeartbeats 4000000 in
theorem exWorldOk_walk (na : Option Addr) (nl nc : Nat) (ra : Option Addr) (rl rc : Nat) (sa : Option Addr) (sl sc : Nat) (ba : Option Addr) (bl bc : Nat) (R : Nat → Rn) (FR : Nat → Ft) (SD : Nat → Int) (BF : Nat → Fc) (w : World) (h : WdRaw w na nl ra rl sa sl sc ba bl bc R FR SD BF) :
    Calls Tryz.prog 3 #[.agg #[.slice na nl nc, .slice ra rl rc, .slice sa sl sc, .slice ba bl bc]] w fun e w' => e = .returned (.bool true) ∧ Below w.heap.size w w' := by
  have b0 := balloc (.cells #[.slice na nl nc, .slice ra rl rc, .slice sa sl sc, .slice ba bl bc] 27) (Below.refl w.heap.size w)
  have X := Ws.box (w := w) #[.slice na nl nc, .slice ra rl rc, .slice sa sl sc, .slice ba bl bc] 27
  go_enter Tryz.func3, Tryz.ntmps3
  go_upto_region 2 with fail
  generalize w.alloc (.cells #[.slice na nl nc, .slice ra rl rc, .slice sa sl sc, .slice ba bl bc] 27) = u at *
  have e0 := X.c 0 (.slice na nl nc) rfl
  have e1 := X.c 1 (.slice ra rl rc) rfl
  have e2 := X.c 2 (.slice sa sl sc) rfl
  have e3 := X.c 3 (.slice ba bl bc) rfl
  go_wp2_with fail
  refine (szWld_any na nl nc ra rl rc sa sl sc ba bl bc R FR SD BF _ (h.below b0)).mono ?_
  rintro r u1 ⟨⟨z, rfl, hz⟩, k1⟩
  clear e0 e1 e2 e3
  replace b0 := btrans b0 k1
  replace X := X.below k1
  clear k1
  rcases hz with rfl | ⟨hz, m⟩
  · go_wp2
    go_ret
    exact ⟨rfl, b0⟩
  have n1 : ¬ z < 0 := by omega
  have e0 := X.c 0 (.slice na nl nc) rfl
  have e1 := X.c 1 (.slice ra rl rc) rfl
  have e2 := X.c 2 (.slice sa sl sc) rfl
  have e3 := X.c 3 (.slice ba bl bc) rfl
  go_wp2_with fail
  refine (toWld_any na nl nc ra rl rc sa sl sc ba bl bc R FR SD BF _ (h.below b0) m).mono ?_
  rintro r u2 ⟨b1, b2, b3, b4, rfl, hW, k1⟩
  clear e0 e1 e2 e3
  replace b0 := btrans b0 k1
  replace X := X.below k1
  clear k1
  go_wp2_with fail
  refine (wldS_any (some ⟨b1, 0, none⟩) nl nl (some ⟨b2, 0, none⟩) rl rl (some ⟨b3, 0, none⟩) sl sl (some ⟨b4, 0, none⟩) bl bl (fun k => (R k).nod) FR SD BF _ hW).mono ?_
  rintro r u3 ⟨rfl, k1⟩
  replace b0 := btrans b0 k1
  replace X := X.below k1
  clear k1 hW
  obtain ⟨v, hv⟩ : ∃ v, Hid (wldB nl (fun k => (R k).nod) rl FR sl SD bl BF = v) := ⟨_, rfl⟩
  rw [hv.out]
  have e0 := X.c 0 (.slice na nl nc) rfl
  have e1 := X.c 1 (.slice ra rl rc) rfl
  have e2 := X.c 2 (.slice sa sl sc) rfl
  have e3 := X.c 3 (.slice ba bl bc) rfl
  go_wp2_with fail
  refine (toWld_any na nl nc ra rl rc sa sl sc ba bl bc R FR SD BF _ (h.below b0) m).mono ?_
  rintro r u4 ⟨c1, c2, c3, c4, rfl, hC, k1⟩
  clear e0 e1 e2 e3
  replace b0 := btrans b0 k1
  replace X := X.below k1
  clear k1
  have hB := Ws.box (w := u4) #[.slice none 0 0, .slice none 0 0, .slice none 0 0, .slice none 0 0] 34
  have hth := hB.there (n := 4) rfl
  have k1 : Below u4.heap.size u4 ((u4.alloc (.cells #[.slice none 0 0, .slice none 0 0, .slice none 0 0, .slice none 0 0] 34)).setCells u4.heap.size 0 (#[.slice (some ⟨c1, 0, none⟩) nl nl, .slice (some ⟨c2, 0, none⟩) rl rl, .slice (some ⟨c3, 0, none⟩) sl sl, .slice (some ⟨c4, 0, none⟩) bl bl] : Array Value).toList) := below_cells _ _ _ _ (Nat.le_refl _) (balloc _ (Below.refl _ _))
  have hrg := World.rangeAt_setCells_same (u4.alloc (.cells #[.slice none 0 0, .slice none 0 0, .slice none 0 0, .slice none 0 0] 34)) u4.heap.size 0 (#[.slice (some ⟨c1, 0, none⟩) nl nl, .slice (some ⟨c2, 0, none⟩) rl rl, .slice (some ⟨c3, 0, none⟩) sl sl, .slice (some ⟨c4, 0, none⟩) bl bl] : Array Value).toList hth
  clear hB
  go_upto_region 7 with (refine wpList_store_mid rfl 34 _ _ rfl u4.heap.size 0 #[.slice (some ⟨c1, 0, none⟩) nl nl, .slice (some ⟨c2, 0, none⟩) rl rl, .slice (some ⟨c3, 0, none⟩) sl sl, .slice (some ⟨c4, 0, none⟩) bl bl] rfl rfl hth (by kernel_rfl) (by kernel_rfl) ?_)
  clear hth
  generalize (u4.alloc (.cells #[.slice none 0 0, .slice none 0 0, .slice none 0 0, .slice none 0 0] 34)).setCells u4.heap.size 0 (#[.slice (some ⟨c1, 0, none⟩) nl nl, .slice (some ⟨c2, 0, none⟩) rl rl, .slice (some ⟨c3, 0, none⟩) sl sl, .slice (some ⟨c4, 0, none⟩) bl bl] : Array Value).toList = u5 at *
  replace b0 := btrans b0 k1
  replace X := X.below k1
  replace hC := hC.below k1
  clear k1
  generalize u4.heap.size = KB at *
  have f0 := hrg 0 (.slice (some ⟨c1, 0, none⟩) nl nl) rfl
  have f1 := hrg 1 (.slice (some ⟨c2, 0, none⟩) rl rl) rfl
  have f2 := hrg 2 (.slice (some ⟨c3, 0, none⟩) sl sl) rfl
  have f3 := hrg 3 (.slice (some ⟨c4, 0, none⟩) bl bl) rfl
  simp only [Nat.zero_add] at f0 f1 f2 f3
  go_wp2_with fail
  refine (wldI_any (some ⟨c1, 0, none⟩) nl nl (some ⟨c2, 0, none⟩) rl rl (some ⟨c3, 0, none⟩) sl sl (some ⟨c4, 0, none⟩) bl bl (fun k => (R k).nod) FR SD BF _ hC).mono ?_
  rintro r u6 ⟨rfl, k1⟩
  rw [hv.out]
  clear f0 f1 f2 f3 hv
  replace b0 := btrans b0 k1
  replace X := X.below k1
  replace hC := hC.below k1
  replace hrg := range_below' hrg k1
  clear k1
  have e9 : (v != v) = false := by simp
  go_upto_region 10 with fail
  clear e9
  have hrX := X.range
  clear X
  refine wp_region_q s3_10 t3_10 (fun hbq => ?_)
  iterate 2 refine qR ?_
  refine qC (fun K hK => ?_)
  go_simp
  refine (toWld_any na nl nc ra rl rc sa sl sc ba bl bc R FR SD BF _ (h.below (btrans b0 hbq)) m).mono ?_; rintro r u7 ⟨d1, d2, d3, d4, rfl, hD, k7⟩
  go_wp2_with fail
  refine hK.out _ _ (btrans hbq k7) (.inl ?_)
  clear hK K
  replace hbq := btrans hbq k7
  clear k7
  try simp only [putQ]
  refine qC (fun K hK => ?_)
  go_simp
  refine (eqWld_same (some ⟨c1, 0, none⟩) nl nl (some ⟨c2, 0, none⟩) rl rl (some ⟨c3, 0, none⟩) sl sl (some ⟨c4, 0, none⟩) bl bl (fun k => (R k).nod) FR SD BF (some ⟨d1, 0, none⟩) nl (some ⟨d2, 0, none⟩) rl (some ⟨d3, 0, none⟩) sl (some ⟨d4, 0, none⟩) bl _ (hC.below hbq) hD).mono ?_; rintro r u8 ⟨rfl, k8⟩
  go_wp2_with fail
  refine hK.out _ _ (btrans hbq k8) (.inl ?_)
  clear hK K
  replace hbq := btrans hbq k8
  clear k8
  try simp only [putQ]
  refine qY ?_
  refine qE ?_
  replace b0 := btrans b0 hbq
  go_wp2
  go_ret
  exact ⟨rfl, b0⟩
end Go.Proofs.YthekjfdggfbelaaGreat
/- A world that came in, opened. -/
namespace Go.Proofs.YthekjfdggfbelaaGreat
open Go.ChangeShapes Go.WideShapes Go.ChangeAt Go.RowKit Go.Joins Go.Deep
def Rn.zero : Rn := ⟨0, false, false, false, 0, 0, 0, 0, none, 0, 0, none, 0, 0, 0, 0, 0, false, none, 0, 0, 0, 0, 0, 0, none, 0, 0, none, 0, 0, fun _ => Fc.zero, fun _ => It.zero, fun _ => Dt.zero, fun _ => Pl.zero, fun _ => Fg.zero⟩
theorem cells86 : Tryz.prog.cellsOf 86 = 21 := by kernel_rfl
theorem cells88 : Tryz.prog.cellsOf 88 = 3 := by kernel_rfl
theorem cells9 : Tryz.prog.cellsOf 9 = 1 := by kernel_rfl
theorem cells22 : Tryz.prog.cellsOf 22 = 1 := by kernel_rfl
theorem cells23 : Tryz.prog.cellsOf 23 = 1 := by kernel_rfl
section
variable {H : Type} {enc : TypeId × Value → H} {W : World} {base : Nat} {spare : Nat → Bool} {held : Bool}
theorem list21 {l : List Value} (h : l.length = 21) : ∃ v0 v1 v2 v3 v4 v5 v6 v7 v8 v9 v10 v11 v12 v13 v14 v15 v16 v17 v18 v19 v20, l = [v0, v1, v2, v3, v4, v5, v6, v7, v8, v9, v10, v11, v12, v13, v14, v15, v16, v17, v18, v19, v20] := by
  match l, h with
  | [v0, v1, v2, v3, v4, v5, v6, v7, v8, v9, v10, v11, v12, v13, v14, v15, v16, v17, v18, v19, v20], _ => exact ⟨v0, v1, v2, v3, v4, v5, v6, v7, v8, v9, v10, v11, v12, v13, v14, v15, v16, v17, v18, v19, v20, rfl⟩
set_option maxRecDepth 20000 in
theorem open_nodes {fuel : Nat} {a : Option Addr} {len cap : Nat} {x : DataW H × List MemPlace} (h : DataW.trod enc Tryz.prog W base spare held fuel 22 [.slice a len cap] = some x) :
    ∃ R : Nat → Rn, len ≤ maxLen ∧ NSl W a len R ∧ ∀ j, j < len → (R j).Raw W := by
  rcases open_slice Tryz.underlying22 h with ⟨hcs, _⟩ | ⟨a', len', cap', m, n, D, PLc, hcs, hb, hl, hm, hmm, rfl, hx⟩
  · simp at hcs
    obtain ⟨rfl, rfl, rfl⟩ := hcs
    exact ⟨fun _ => Rn.zero, by omega, fun h => by omega, fun j hj => by omega⟩
  · simp at hcs
    obtain ⟨rfl, rfl, rfl⟩ := hcs
    have hlm : len ≤ m := by rw [hmm]; split <;> omega
    have each : ∀ i, i < m → ∃ q : Rn, (∀ j v, q.cells.toList[j]? = some v → W.cell? (a'.add (i * 21 + j)) = some v) ∧ q.Raw W := by
      intro i hi
      obtain ⟨cs', h1, h2⟩ := hx i hi
      rw [cells86] at h1
      obtain ⟨_, hlen, hcell⟩ := World.cells?_some h1
      obtain ⟨v0, v1, v2, v3, v4, v5, v6, v7, v8, v9, v10, v11, v12, v13, v14, v15, v16, v17, v18, v19, v20, rfl⟩ := list21 hlen
      obtain ⟨me, up, gone, gate, inc, now, sq, turn, ta, tl, tc, ca, cl, cc, pn, ps, pq, pa, da, dl, dc, cx, cy, ch, ce, pla, pll, plc, oa, ol, oc, F, GI, GD, GP, GO, hv, hraw⟩ := open_nodeC h2
      refine ⟨⟨me, up, gone, gate, inc, now, sq, turn, ta, tl, tc, ca, cl, cc, pn, ps, pq, pa, da, dl, dc, cx, cy, ch, ce, pla, pll, plc, oa, ol, oc, F, GI, GD, GP, GO⟩, fun j v hj => ?_, hraw⟩
      have hj' : j < 21 := by
        have := (List.getElem?_eq_some_iff.1 hj).1
        exact this
      have ev : (#[v0, v1, v2, v3, v4, v5, v6, v7, v8, v9, v10, v11, v12, v13, v14, v15, v16, v17, v18, v19, v20] : Array Value) = Rn.cells ⟨me, up, gone, gate, inc, now, sq, turn, ta, tl, tc, ca, cl, cc, pn, ps, pq, pa, da, dl, dc, cx, cy, ch, ce, pla, pll, plc, oa, ol, oc, F, GI, GD, GP, GO⟩ := by
        injection hv
      rw [← ev] at hj
      have := hcell j (by simpa using hj')
      rw [add_add] at this
      rw [this]
      exact hj
    have inh : Inhabited Rn := ⟨Rn.zero⟩
    obtain ⟨F, hF⟩ := choose_lt each
    refine ⟨F, by omega, fun h0 => ?_, fun j hj => (hF j (by omega)).2⟩
    have hp := plain_of_cell ((hF 0 (by omega)).1 0 _ rfl)
    simp [Addr.add] at hp
    obtain ⟨b, off, sp⟩ := a'
    obtain rfl : sp = none := by simpa using hp
    refine ⟨b, off, rfl, ?_, fun k hk j v hj => ?_⟩
    · have := World.block_lt_of_cell? W _ ((hF 0 (by omega)).1 0 _ rfl)
      simpa [Addr.add] using this
    · have := (hF k (by omega)).1 j v hj
      rw [add_plain] at this
      simpa [Nat.add_assoc] using this
set_option maxRecDepth 20000 in
theorem open_flights {fuel : Nat} {a : Option Addr} {len cap : Nat} {x : DataW H × List MemPlace} (h : DataW.trod enc Tryz.prog W base spare held fuel 23 [.slice a len cap] = some x) :
    ∃ F : Nat → Ft, len ≤ maxLen ∧ FtSl W a len F ∧ ∀ j, j < len → (F j).x.size ≤ maxLen := by
  rcases open_slice Tryz.underlying23 h with ⟨hcs, _⟩ | ⟨a', len', cap', m, n, D, PLc, hcs, hb, hl, hm, hmm, rfl, hx⟩
  · simp at hcs
    obtain ⟨rfl, rfl, rfl⟩ := hcs
    exact ⟨fun _ => Ft.zero, by omega, fun h => by omega, fun j hj => by omega⟩
  · simp at hcs
    obtain ⟨rfl, rfl, rfl⟩ := hcs
    have hlm : len ≤ m := by rw [hmm]; split <;> omega
    have each : ∀ i, i < m → ∃ q : Ft, (W.cell? (a'.add (i * 3)) = some (.int .i64 q.t) ∧ W.cell? (a'.add (i * 3 + 1)) = some (.string q.x) ∧ W.cell? (a'.add (i * 3 + 2)) = some (.bool q.s)) ∧ q.x.size ≤ maxLen := by
      intro i hi
      obtain ⟨cs', h1, h2⟩ := hx i hi
      rw [cells88] at h1
      obtain ⟨_, hlen, hcell⟩ := World.cells?_some h1
      match cs', hlen with
      | [v0, v1, v2], _ =>
        obtain ⟨u0, u1, u2, m', _, _, k0, k1, k2⟩ := trod_struct3 Tryz.underlying88 h2
        dsimp only at k0 k1 k2
        rw [cellsOf3] at k0
        rw [cells9] at k1
        rw [cellsOf4] at k2
        simp only [List.drop, List.take] at k0 k1 k2
        obtain ⟨z0, rfl⟩ := int_of k0 rfl
        obtain ⟨s1, e1, _, hs1⟩ := DataW.trod_string Tryz.underlying9 k1
        obtain rfl : v1 = .string s1 := by simpa using e1
        obtain ⟨z2, rfl⟩ := bool_of k2 rfl
        have e0 := hcell 0 (by omega)
        have e1 := hcell 1 (by omega)
        have e2 := hcell 2 (by omega)
        rw [add_add] at e0 e1 e2
        exact ⟨⟨z0, s1, z2⟩, ⟨by simpa using e0, by simpa using e1, by simpa using e2⟩, hs1⟩
    have inh : Inhabited Ft := ⟨Ft.zero⟩
    obtain ⟨F, hF⟩ := choose_lt each
    refine ⟨F, by omega, fun h0 => ?_, fun j hj => (hF j (by omega)).2⟩
    have hp := plain_of_cell (hF 0 (by omega)).1.1
    simp [Addr.add] at hp
    obtain ⟨b, off, sp⟩ := a'
    obtain rfl : sp = none := by simpa using hp
    refine ⟨b, off, rfl, ?_, fun k hk => ?_⟩
    · have := World.block_lt_of_cell? W _ (hF 0 (by omega)).1.1
      simpa [Addr.add] using this
    · have := (hF k (by omega)).1
      rw [add_plain, add_plain, add_plain] at this
      simpa [Nat.add_assoc] using this
/-- a world's value that came in -/
def WdVal (W : World) (v : Value) : Prop := ∃ (na : Option Addr) (nl nc : Nat) (ra : Option Addr) (rl rc : Nat) (sa : Option Addr) (sl sc : Nat) (ba : Option Addr) (bl bc : Nat) (R : Nat → Rn) (FR : Nat → Ft) (SD : Nat → Int) (BF : Nat → Fc), v = .agg #[.slice na nl nc, .slice ra rl rc, .slice sa sl sc, .slice ba bl bc] ∧ WdRaw W na nl ra rl sa sl sc ba bl bc R FR SD BF
set_option maxRecDepth 20000 in
theorem open_world {r : Reach} {b0 : Nat} {v : Value} {d : DataW H} {p : List MemPlace} (hv : Value.okWide Tryz.prog W r b0 27 v) (h : DataW.Trod enc Tryz.prog W base spare held 27 v d p) : WdVal W v := by
  obtain ⟨cs, rfl, hsz⟩ := okWide_struct Tryz.underlying27 hv
  have hs4 : cs.size = 4 := hsz.trans (by kernel_rfl)
  obtain ⟨l⟩ := cs
  match l, hs4 with
  | [c0, c1, c2, c3], _ =>
    obtain ⟨fuel, hf⟩ := h
    obtain ⟨u0, u1, u2, u3, m, _, _, k0, k1, k2, k3⟩ := trod_struct4 Tryz.underlying27 hf
    simp only [Value.cells] at k0 k1 k2 k3
    rw [cells22] at k0
    rw [cells23] at k1
    rw [cellsOf59] at k2
    rw [cellsOf22] at k3
    simp only [List.drop, List.take] at k0 k1 k2 k3
    obtain ⟨na, nl, nc, rfl⟩ := slice_of Tryz.underlying22 k0
    obtain ⟨ra, rl, rc, rfl⟩ := slice_of Tryz.underlying23 k1
    obtain ⟨sa, sl, sc, rfl⟩ := slice_of Tryz.underlying24 k2
    obtain ⟨ba, bl, bc, rfl⟩ := slice_of Tryz.underlying25 k3
    obtain ⟨R, n1, n2, n3⟩ := open_nodes k0
    obtain ⟨FR, r1, r2, r3⟩ := open_flights k1
    obtain ⟨SD, s1, s2, s3⟩ := open_ints k2
    obtain ⟨BF, f1, f2, f3⟩ := open_facts22 k3
    exact ⟨na, nl, nc, ra, rl, rc, sa, sl, sc, ba, bl, bc, R, FR, SD, BF, rfl, ⟨n2, n3, r2, r3, s3, f3, n1, r1, s2, f2, s1, f1⟩⟩
end
end Go.Proofs.YthekjfdggfbelaaGreat
