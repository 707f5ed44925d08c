/- Lists of nodes that came in: whether they are not too great. -/
import Derived.Test.YthekjfdggfbelaaGreatNd24
import Derived.Test.YthekjfdggfbelaaGreatWk
import Derived.Test.YthekjfdggfbelaaGreatNodS
import Derived.Test.YthekjfdggfbelaaGreatNd7
import Derived.Test.YthekjfdggfbelaaGreatNd20
import Derived.Test.YthekjfdggfbelaaGreatTable
namespace Go.Proofs.YthekjfdggfbelaaGreat
open Go.ChangeShapes Go.WideShapes Go.ChangeAt Go.RowKit
attribute [local go_sem ↓] Go.wp_at_zero Go.wp_at_succ
/-- a node in memory: its cells, and what its lists hold -/
structure Rn where
  me : Int
  up : Bool
  gone : Bool
  gate : Bool
  inc : Int
  now : Int
  sq : Int
  turn : Int
  ta : Option Addr
  tl : Nat
  tc : Nat
  ca : Option Addr
  cl : Nat
  cc : Nat
  pn : Int
  ps : Int
  pq : Int
  pa : Bool
  da : Option Addr
  dl : Nat
  dc : Nat
  cx : Int
  cy : Int
  ch : Int
  ce : Int
  pla : Option Addr
  pll : Nat
  plc : Nat
  oa : Option Addr
  ol : Nat
  oc : Nat
  F : Nat → Fc
  GI : Nat → It
  GD : Nat → Dt
  GP : Nat → Pl
  GO : Nat → Fg
/-- its cells -/
def Rn.cells (r : Rn) : Array Value := #[.int .i64 r.me, .bool r.up, .bool r.gone, .bool r.gate, .int .i64 r.inc, .int .i64 r.now, .int .i64 r.sq, .int .i64 r.turn, .slice r.ta r.tl r.tc, .slice r.ca r.cl r.cc, .int .i64 r.pn, .int .i64 r.ps, .int .i64 r.pq, .bool r.pa, .slice r.da r.dl r.dc, .int .i64 r.cx, .int .i64 r.cy, .int .i64 r.ch, .int .i64 r.ce, .slice r.pla r.pll r.plc, .slice r.oa r.ol r.oc]
def Rn.Raw (w : World) (r : Rn) : Prop := NdRaw w r.ta r.tl r.tc r.F r.ca r.cl r.cc r.GI r.da r.dl r.GD r.pla r.pll r.GP r.oa r.ol r.GO
def Rn.Max (r : Rn) : Prop := NdMax r.tl r.cl r.dl r.GD r.pll r.GP r.ol r.GO
/-- nodes lie in a row -/
def NSl (w : World) (a : Option Addr) (len : Nat) (R : Nat → Rn) : Prop :=
  0 < len → ∃ b off, a = some ⟨b, off, none⟩ ∧ b < w.heap.size ∧ ∀ k, k < len → w.rangeAt b (off + k * 21) (R k).cells.toList
theorem NSl.below {w w' : World} {a : Option Addr} {len : Nat} {R : Nat → Rn} (h : NSl w a len R) (hb : Below w.heap.size w w') : NSl w' a len R := fun hl => by
  obtain ⟨b, off, e, hlt, hr⟩ := h hl
  exact ⟨b, off, e, by have := hb.size; omega, fun k hk j x hx => keep_below hb (hr k hk j x hx)⟩
theorem sub_lit (a b : Int) (h0 : 0 ≤ a) (h1 : a ≤ 1048576) (h2 : 0 ≤ b) (h3 : b ≤ 9223372036854775807) : IntKind.i64.wrap (a - b) = a - b := by rw [IntKind.wrap_i64]; omega
theorem szNode_lit (r : Rn) (z0 : Int) (hz0 : 0 ≤ z0) (hz1 : z0 ≤ 1048576) (w : World) (h : r.Raw w) :
    Calls Tryz.prog 39 #[.agg r.cells, .int .i64 z0] w fun e w' => (∃ z : Int, e = .returned (.int .i64 z) ∧ (z = -1 ∨ ((0 ≤ z ∧ z ≤ 1048576) ∧ r.Max))) ∧ Below w.heap.size w w' :=
  szNode_any r.me r.up r.gone r.gate r.inc r.now r.sq r.turn r.ta r.tl r.tc r.ca r.cl r.cc r.pn r.ps r.pq r.pa r.da r.dl r.dc r.cx r.cy r.ch r.ce r.pla r.pll r.plc r.oa r.ol r.oc r.F r.GI r.GD r.GP r.GO z0 hz0 hz1 w h
def s12_7 : List Stp := [⟨some 18, .move (.tmp 0), 22, none, 0⟩, ⟨some 19, .move (.tmp 5), 3, none, 0⟩, ⟨some 20, .indexAddr 22 (.tmp 18) (.tmp 19), 0, none, 0⟩, ⟨some 21, .load 86 (.tmp 20), 86, none, 0⟩, ⟨some 22, .move (.tmp 1), 3, none, 0⟩, ⟨some 23, .call { callee := .value (.func 39), args := #[.tmp 21, .tmp 22], argTypes := #[86, 3] }, 3, none, 1⟩, ⟨some 1, .assign (.tmp 23), 3, none, 0⟩]
def t12_7 : List (Nat × Nat) := [(0, 0), (1, 0), (2, 0), (3, 0), (4, 0), (5, 1), (6, 0)]
set_option maxRecDepth 20000 in
set_option maxHeartbeats 4000000 in
theorem szNodeS_any (a : Option Addr) (len cap : Nat) (R : Nat → Rn) (z0 : Int) (hz0 : 0 ≤ z0) (hz1 : z0 ≤ 1048576) (w : World) (h : NSl w a len R) (hr : ∀ k, k < len → (R k).Raw w) (hm : len ≤ maxLen) :
    Calls Tryz.prog 12 #[.slice a len cap, .int .i64 z0] w fun e w' => (∃ z : Int, e = .returned (.int .i64 z) ∧ (z = -1 ∨ ((0 ≤ z ∧ z ≤ 1048576) ∧ len ≤ 1048576 ∧ ∀ k, k < len → (R k).Max))) ∧ Below w.heap.size w w' := by
  have hm' := hm
  unfold maxLen at hm'
  go_enter Tryz.func12, Tryz.ntmps12
  by_cases hlt0 : z0 < (len : Int)
  · have e1 : z0 - (len : Int) < 0 := by omega
    go_wp2
    all_goals (go_ret; exact ⟨⟨-1, rfl, .inl rfl⟩, Below.refl _ _⟩)
  have e1 : ¬ z0 - (len : Int) < 0 := by omega
  have e9 : IntKind.i64.wrap (z0 - (len : Int)) = z0 - (len : Int) := by rw [IntKind.wrap_i64]; omega
  have hl : len ≤ 1048576 := by omega
  have e2 : Hid (0 ≤ z0 - (len : Int) ∧ z0 - (len : Int) ≤ 1048576) := ⟨by omega, by omega⟩
  go_wp2
  generalize z0 - (len : Int) = z1 at *
  go_loopw [1, 5] (fun l i wr => ∃ (k : Nat) (yl : Int), k ≤ len ∧ i = .int .i64 k ∧ l = .int .i64 yl ∧ 0 ≤ yl ∧ yl ≤ 1048576 ∧ Below w.heap.size w wr ∧ (∀ j, j < k → (R j).Max)) (fun _ i _ => len - (intOf i).toNat)
  case atStart => exact ⟨0, z1, by omega, rfl, rfl, e2.out.1, e2.out.2, Below.refl _ _, fun j hj => by omega⟩
  case round =>
    obtain ⟨k, yl, hk, rfl, rfl, hy0, hy1, hbb, hall⟩ := hrel
    by_cases hlt : k < len
    · obtain ⟨b, off, rfl, hbl, hf⟩ := (h.below hbb) (by omega)
      have hcc := hf k hlt
      have hraw := (hr k hlt).below hbb
      have i0 : (0 : Int) ≤ (k : Int) := by omega
      have i1 : (k : Int) < (len : Int) := by omega
      have hyes : Hid ((R k).Max → ∀ j, j < k + 1 → (R j).Max) := fun e j hj => by
        by_cases ej : j = k
        · subst ej; exact e
        · exact hall j (by omega)
      clear hall hlt
      obtain ⟨x, hx⟩ : ∃ x, Hid (R k = x) := ⟨_, rfl⟩
      rw [hx.out] at hcc hraw hyes
      clear hx
      have ct := fun w h => szNode_lit x yl hy0 hy1 w h
      obtain ⟨me, up, gone, gate, inc, now, sq, turn, ta, tl, tc, ca, cl, cc, pn, ps, pq, pa, da, dl, dc, cx, cy, ch, ce, pla, pll, plc, oa, ol, oc, F, GI, GD, GP, GO⟩ := x
      dsimp only [Rn.cells, Rn.Raw, Rn.Max] at hcc hraw hyes ct
      go_upto_region 7 with fail
      refine wp_region_q0 s12_7 t12_7 (fun hbq => ?_)
      iterate 3 refine qY ?_
      refine qR ?_
      refine qY ?_
      refine qC (fun K hK => ?_)
      go_simp
      refine (ct _ (NdRaw.below hraw hbq)).mono ?_; rintro r w1 ⟨⟨z2, rfl, hz⟩, k1⟩
      go_wp2_with fail
      refine hK.out _ _ (btrans hbq k1) (.inl ?_)
      clear hK K
      replace hbq := btrans hbq k1
      clear k1
      try simp only [putQ]
      refine qY ?_
      refine qE ?_
      have hbb1 := btrans hbb hbq
      rcases hz with rfl | ⟨⟨q0, q1⟩, q2⟩
      · go_wp2
        go_ret
        exact ⟨⟨-1, rfl, .inl rfl⟩, hbb1⟩
      · have e4 := hyes.out q2
        have e3 : ¬ z2 < 0 := by omega
        clear hyes q2 hraw
        go_wp2
        go_roundw
        case rel => exact ⟨k + 1, z2, by omega, by go_num, rfl, q0, q1, hbb1, e4⟩
        case measure => simp [intOf]; omega
    · go_wp2
      go_ret
      exact ⟨⟨yl, rfl, .inr ⟨⟨hy0, hy1⟩, hl, fun j hj => hall j (by omega)⟩⟩, hbb⟩
end Go.Proofs.YthekjfdggfbelaaGreat
/- Lists of nodes, copied. -/
namespace Go.Proofs.YthekjfdggfbelaaGreat
open Go.ChangeShapes Go.WideShapes Go.ChangeAt Go.RowKit
theorem dL_congr {n : Nat} {G G' : Nat → Dt} (h : ∀ j, DtEq (G' j) (G j)) : dL n G' = dL n G := by
  unfold dL
  refine List.map_congr_left fun k _ => ?_
  obtain ⟨h1, h2, h3, h4, h5⟩ := h k
  rw [h1, h2, h3, h4, h5]
theorem pL_congr {n : Nat} {G G' : Nat → Pl} (h : ∀ j, PlEq (G' j) (G j)) : pL n G' = pL n G := by
  unfold pL
  refine List.map_congr_left fun k _ => ?_
  obtain ⟨h1, h2, h3, h4, h5, h6, h7⟩ := h k
  rw [h1, h2, h3, h4, h5, h6, h7]
theorem oL_congr {n : Nat} {G G' : Nat → Fg} (h : ∀ j, FgEq (G' j) (G j)) : oL n G' = oL n G := by
  unfold oL
  refine List.map_congr_left fun k _ => ?_
  obtain ⟨h1, h2, h3⟩ := h k
  rw [h1, h2, h3]
theorem NdRows.but {w w' : World} {lo b1 b2 b3 b4 b5 : Nat} {tl : Nat} {F : Nat → Fc} {cl : Nat} {GI : Nat → It} {dl : Nat} {GD : Nat → Dt} {pll : Nat} {GP : Nat → Pl} {ol : Nat} {GO : Nat → Fg} {B : Nat} (h : NdRows w lo b1 b2 b3 b4 b5 tl F cl GI dl GD pll GP ol GO) (k : But2 B B w w') (hB : B < lo) : NdRows w' lo b1 b2 b3 b4 b5 tl F cl GI dl GD pll GP ol GO := by
  have q1 := h.lo1
  have q2 := h.o12
  have q3 := h.o23
  have q4 := h.o34
  have q5 := h.o45
  exact ⟨row_but h.f k (by omega) (by omega), row_but h.i k (by omega) (by omega), row_but h.d k (by omega) (by omega), h.dO.but k (by omega) (by omega), row_but h.p k (by omega) (by omega), h.pO.but k (by omega) (by omega), row_but h.o k (by omega) (by omega), h.oO.but k (by omega) (by omega), h.lo1, h.o12, h.o23, h.o34, h.m34, h.o45, h.m45⟩
/-- cells of a copy of a node -/
def Cn (w : World) (lo : Nat) (r : Rn) (C : Array Value) : Prop :=
  ∃ b1 b2 b3 b4 b5 GD GP GO, C = #[.int .i64 r.me, .bool r.up, .bool r.gone, .bool r.gate, .int .i64 r.inc, .int .i64 r.now, .int .i64 r.sq, .int .i64 r.turn, .slice (some ⟨b1, 0, none⟩) r.tl r.tl, .slice (some ⟨b2, 0, none⟩) r.cl r.cl, .int .i64 r.pn, .int .i64 r.ps, .int .i64 r.pq, .bool r.pa, .slice (some ⟨b3, 0, none⟩) r.dl r.dl, .int .i64 r.cx, .int .i64 r.cy, .int .i64 r.ch, .int .i64 r.ce, .slice (some ⟨b4, 0, none⟩) r.pll r.pll, .slice (some ⟨b5, 0, none⟩) r.ol r.ol] ∧ NdRows w lo b1 b2 b3 b4 b5 r.tl r.F r.cl r.GI r.dl GD r.pll GP r.ol GO ∧ (∀ j, DtEq (GD j) (r.GD j)) ∧ (∀ j, PlEq (GP j) (r.GP j)) ∧ (∀ j, FgEq (GO j) (r.GO j))
theorem Cn.below {w w' : World} {lo : Nat} {r : Rn} {C : Array Value} (h : Cn w lo r C) (hb : Below w.heap.size w w') : Cn w' lo r C := by
  obtain ⟨b1, b2, b3, b4, b5, GD, GP, GO, e, hR, h1, h2, h3⟩ := h
  exact ⟨b1, b2, b3, b4, b5, GD, GP, GO, e, hR.below hb, h1, h2, h3⟩
theorem Cn.but {w w' : World} {lo B : Nat} {r : Rn} {C : Array Value} (h : Cn w lo r C) (k : But2 B B w w') (hB : B < lo) : Cn w' lo r C := by
  obtain ⟨b1, b2, b3, b4, b5, GD, GP, GO, e, hR, h1, h2, h3⟩ := h
  exact ⟨b1, b2, b3, b4, b5, GD, GP, GO, e, hR.but k hB, h1, h2, h3⟩
theorem Cn.size {w : World} {lo : Nat} {r : Rn} {C : Array Value} (h : Cn w lo r C) : C.size = 21 := by
  obtain ⟨b1, b2, b3, b4, b5, GD, GP, GO, rfl, _⟩ := h
  rfl
theorem Cn.one {w : World} {lo : Nat} {r : Rn} {C : Array Value} (h : Cn w lo r C) : C.all (·.oneCell') = true := by
  obtain ⟨b1, b2, b3, b4, b5, GD, GP, GO, rfl, _⟩ := h
  kernel_rfl
theorem Cn.mono {w : World} {lo lo' : Nat} {r : Rn} {C : Array Value} (h : Cn w lo r C) (hl : lo' ≤ lo) : Cn w lo' r C := by
  obtain ⟨b1, b2, b3, b4, b5, GD, GP, GO, e, hR, h1, h2, h3⟩ := h
  exact ⟨b1, b2, b3, b4, b5, GD, GP, GO, e, ⟨hR.f, hR.i, hR.d, hR.dO, hR.p, hR.pO, hR.o, hR.oO, Nat.le_trans hl hR.lo1, hR.o12, hR.o23, hR.o34, hR.m34, hR.o45, hR.m45⟩, h1, h2, h3⟩
theorem toNode_lit (r : Rn) (w : World) (h : r.Raw w) (m : r.Max) :
    Calls Tryz.prog 52 #[.agg r.cells] w fun e w' => ∃ C, e = .returned (.agg C) ∧ Cn w' w.heap.size r C ∧ Below w.heap.size w w' := by
  have mi := NdRaw.toIn h m
  refine (toNodeM_any r.me r.up r.gone r.gate r.inc r.now r.sq r.turn r.ta r.tl r.tc r.ca r.cl r.cc r.pn r.ps r.pq r.pa r.da r.dl r.dc r.cx r.cy r.ch r.ce r.pla r.pll r.plc r.oa r.ol r.oc r.F r.GI r.GD r.GP r.GO w mi h.cf h.ci (fun j hj => (h.db j hj).2.2) (fun j hj => (h.pb j hj).2.2) (fun j hj => (h.ob j hj).2.2)).mono ?_
  rintro e w2 ⟨f1, f2, f3, f4, f5, fD, fP, fO, rfl, fN, fd, fp, fo, k⟩
  exact ⟨_, rfl, ⟨f1, f2, f3, f4, f5, fD, fP, fO, rfl, fN, fd, fp, fo⟩, k⟩
/-- as data -/
def Rn.nod (r : Rn) : Nod := nodOf r.me r.up r.gone r.gate r.inc r.now r.sq r.turn r.tl r.F r.cl r.GI r.pn r.ps r.pq r.pa r.dl r.GD r.cx r.cy r.ch r.ce r.pll r.GP r.ol r.GO
/-- a node's cells -/
def ndC (n : Nod) (L : Loc) : Array Value := #[.int .i64 n.me, .bool n.up, .bool n.gone, .bool n.gate, .int .i64 n.inc, .int .i64 n.now, .int .i64 n.sq, .int .i64 n.turn, .slice L.ta n.T.length L.tc, .slice L.ca n.C.length L.cc, .int .i64 n.pn, .int .i64 n.ps, .int .i64 n.pq, .bool n.pa, .slice L.da n.D.length L.dc, .int .i64 n.cx, .int .i64 n.cy, .int .i64 n.ch, .int .i64 n.ce, .slice L.pla n.P.length L.plc, .slice L.oa n.O.length L.oc]
/-- nodes in a row, as data -/
def NdL (w : World) (a : Option Addr) (len : Nat) (nd : Nat → Nod) : Prop :=
  0 < len → ∃ b off, a = some ⟨b, off, none⟩ ∧ b < w.heap.size ∧ ∀ k, k < len → ∃ L, w.rangeAt b (off + k * 21) (ndC (nd k) L).toList ∧ NdR w (nd k) L
theorem NdL.below {w w' : World} {a : Option Addr} {len : Nat} {nd : Nat → Nod} (h : NdL w a len nd) (hb : Below w.heap.size w w') : NdL w' a len nd := fun hl => by
  obtain ⟨b, off, e, hlt, hr⟩ := h hl
  refine ⟨b, off, e, by have := hb.size; omega, fun k hk => ?_⟩
  obtain ⟨L, h1, h2⟩ := hr k hk
  exact ⟨L, fun j x hx => keep_below hb (h1 j x hx), h2.below hb⟩
theorem Cn.nod {w : World} {lo : Nat} {r : Rn} {C : Array Value} (h : Cn w lo r C) (m : r.Max) : ∃ L, C = ndC r.nod L ∧ NdR w r.nod L := by
  obtain ⟨b1, b2, b3, b4, b5, GD, GP, GO, rfl, hR, h1, h2, h3⟩ := h
  have fI := hR.toIn h1 h2 h3 (fun j hj => m.db j hj) (fun j hj => m.pb j hj) (fun j hj => m.ob j hj) m.f m.i m.d m.p m.o
  have cn := canon r.me r.up r.gone r.gate r.inc r.now r.sq r.turn _ r.tl r.tl _ r.cl r.cl r.pn r.ps r.pq r.pa _ r.dl r.dl r.cx r.cy r.ch r.ce _ r.pll r.pll _ r.ol r.ol r.F r.GI GD GP GO fI
  have en : nodOf r.me r.up r.gone r.gate r.inc r.now r.sq r.turn r.tl r.F r.cl r.GI r.pn r.ps r.pq r.pa r.dl GD r.cx r.cy r.ch r.ce r.pll GP r.ol GO = r.nod := by
    unfold Rn.nod nodOf
    rw [dL_congr h1, pL_congr h2, oL_congr h3]
  rw [en] at cn
  refine ⟨_, ?_, cn⟩
  unfold ndC Rn.nod nodOf locOf
  dsimp only
  have l1 : (seqF r.F r.tl).length = r.tl := seqF_len r.F r.tl
  have l2 : (cL r.cl r.GI).length = r.cl := by simp [cL]
  have l3 : (dL r.dl r.GD).length = r.dl := by simp [dL]
  have l4 : (pL r.pll r.GP).length = r.pll := by simp [pL]
  have l5 : (oL r.ol r.GO).length = r.ol := by simp [oL]
  rw [l1, l2, l3, l4, l5]
/-- nodes of one's own in a row -/
def NdO (w : World) (lo b len : Nat) (R : Nat → Rn) (C : Nat → Array Value) : Prop :=
  lo ≤ b ∧ b < w.heap.size ∧ ∀ k, k < len → w.rangeAt b (k * 21) (C k).toList ∧ Cn w lo (R k) (C k)
theorem NdO.below {w w' : World} {lo b len : Nat} {R : Nat → Rn} {C : Nat → Array Value} (h : NdO w lo b len R C) (hb : Below w.heap.size w w') : NdO w' lo b len R C :=
  ⟨h.1, by have := hb.size; have := h.2.1; omega, fun k hk => ⟨fun i v hv => keep_below hb ((h.2.2 k hk).1 i v hv), (h.2.2 k hk).2.below hb⟩⟩
theorem NdO.but {w w' : World} {lo b len B : Nat} {R : Nat → Rn} {C : Nat → Array Value} (h : NdO w lo b len R C) (k : But2 B B w w') (hB : B < lo) : NdO w' lo b len R C := by
  have h1 := h.1
  have h2 := h.2.1
  have h3 := k.size
  exact ⟨h1, by omega, fun j hj => ⟨fun i v hv => k.cell h2 (by omega) (by omega) ((h.2.2 j hj).1 i v hv), (h.2.2 j hj).2.but k hB⟩⟩
theorem NdO.toL {w : World} {lo b len : Nat} {R : Nat → Rn} {C : Nat → Array Value} (h : NdO w lo b len R C) (m : ∀ k, k < len → (R k).Max) : NdL w (some ⟨b, 0, none⟩) len (fun k => (R k).nod) := fun _ => by
  refine ⟨b, 0, rfl, h.2.1, fun j hj => ?_⟩
  obtain ⟨L, e, hL⟩ := (h.2.2 j hj).2.nod (m j hj)
  refine ⟨L, ?_, hL⟩
  rw [← e, Nat.zero_add]
  exact (h.2.2 j hj).1
theorem size86 : (Tryz.prog.info? 86).map (·.size) = some 21 := by kernel_rfl
theorem size51 : (Tryz.prog.info? 51).map (·.size) = some 21 := by kernel_rfl
theorem nrun_make (n : Nat) (hn : n ≤ 1048576) (w : World) :
    (Instr.makeSlice 30 (.int .i64 (n : Int)) (.int .i64 (n : Int))).run Tryz.prog w = .ok (.slice (some ⟨w.heap.size, 0, none⟩) n n) (w.alloc (.cells (madeCells #[.int .i64 0, .bool false, .bool false, .bool false, .int .i64 0, .int .i64 0, .int .i64 0, .int .i64 0, .slice none 0 0, .slice none 0 0, .int .i64 0, .int .i64 0, .int .i64 0, .bool false, .slice none 0 0, .int .i64 0, .int .i64 0, .int .i64 0, .int .i64 0, .slice none 0 0, .slice none 0 0] (n * 21)) 51)) := by
  have hinf : (Tryz.prog.info? 51).map (fun i => (i.zero, i.size, i.bytes)) = some (some (.agg #[.int .i64 0, .bool false, .bool false, .bool false, .int .i64 0, .int .i64 0, .int .i64 0, .int .i64 0, .slice none 0 0, .slice none 0 0, .int .i64 0, .int .i64 0, .int .i64 0, .bool false, .slice none 0 0, .int .i64 0, .int .i64 0, .int .i64 0, .int .i64 0, .slice none 0 0, .slice none 0 0]), 21, 232) := by kernel_rfl
  obtain ⟨i, hi, hzz⟩ := Option.map_eq_some_iff.1 hinf
  simp only [Prod.mk.injEq] at hzz
  obtain ⟨hz, hs, hb⟩ := hzz
  have hr := run_make (P := Tryz.prog) w 30 51 i _ Tryz.underlying30 hi hz .i64 .i64 n n (by omega) (Int.le_refl _) (by rw [hb]; omega) (by omega)
  rw [hr, hs, Int.toNat_natCast]
  rfl
theorem made_there (n m : Nat) (C : Array Value) (t : TypeId) (w : World) : (w.alloc (.cells (madeCells C (n * m)) t)).there w.heap.size 0 (n * m) := fun j hj => by
  have hh := heap_alloc_new w (.cells (madeCells C (n * m)) t)
  refine ⟨?_, ?_⟩
  · rw [cell_of_row _ _ _ _ _ _ hh]
    simp [madeCells, hj]
  · unfold World.frozen?
    dsimp only
    rw [hh]
    simp
theorem there_part {w : World} {b n m k : Nat} (h : w.there b 0 (n * m)) (hk : k < n) : w.there b (k * m) m := fun j hj => by
  have h1 : k * m + j < n * m := by
    have : (k + 1) * m ≤ n * m := Nat.mul_le_mul_right m hk
    rw [Nat.add_mul, Nat.one_mul] at this
    omega
  have := h (k * m + j) h1
  rwa [Nat.zero_add] at this
theorem there_below {w w' : World} {b o n : Nat} (h : w.there b o n) (hb : Below w.heap.size w w') (hlt : b < w.heap.size) : w'.there b o n := fun j hj => by
  obtain ⟨h1, h2⟩ := h j hj
  have e := hb.block b hlt
  refine ⟨?_, ?_⟩
  · rw [World.cell?_of_block (a := ⟨b, o + j, none⟩) e]; exact h1
  · rw [← h2]
    unfold World.frozen?
    simp only [e]
set_option maxRecDepth 20000 in
set_option maxHeartbeats 4000000 in
theorem toNodeS_any (a : Option Addr) (len cap : Nat) (R : Nat → Rn) (w : World) (h : NSl w a len R) (hr : ∀ k, k < len → (R k).Raw w) (hm : ∀ k, k < len → (R k).Max) (hl : len ≤ 1048576) :
    Calls Tryz.prog 21 #[.slice a len cap] w fun e w' => ∃ b C, e = .returned (.slice (some ⟨b, 0, none⟩) len len) ∧ NdO w' w.heap.size b len R C ∧ Below w.heap.size w w' := by
  have hmk := nrun_make len hl
  have hth0 := made_there len 21 #[.int .i64 0, .bool false, .bool false, .bool false, .int .i64 0, .int .i64 0, .int .i64 0, .int .i64 0, .slice none 0 0, .slice none 0 0, .int .i64 0, .int .i64 0, .int .i64 0, .bool false, .slice none 0 0, .int .i64 0, .int .i64 0, .int .i64 0, .int .i64 0, .slice none 0 0, .slice none 0 0] 51 w
  go_enter Tryz.func21, Tryz.ntmps21
  go_wp2
  go_loopw [4] (fun i wr => ∃ (k : Nat) (C : Nat → Array Value), k ≤ len ∧ i = .int .i64 k ∧ Below w.heap.size w wr ∧ w.heap.size < wr.heap.size ∧ wr.there w.heap.size 0 (len * 21) ∧ (∀ j, j < k → wr.rangeAt w.heap.size (j * 21) (C j).toList ∧ Cn wr (w.heap.size + 1) (R j) (C j))) (fun i _ => len - (intOf i).toNat)
  case atStart => exact ⟨0, fun _ => #[], Nat.zero_le _, rfl, balloc _ (Below.refl _ _), by simp [go_sem], hth0, fun j hj => by omega⟩
  case round =>
    obtain ⟨k, C, hk, rfl, hb, hKr, hth, hall⟩ := hrel
    clear hmk hth0
    by_cases hlt : k < len
    · obtain ⟨b, off, rfl, hbl, hf⟩ := (h.below hb) (by omega)
      have hcc := hf k hlt
      have hraw := NdRaw.below (hr k hlt) hb
      have ct := fun w h => toNode_lit (R k) w h (hm k hlt)
      have hsz : (R k).cells.toList.length = 21 := rfl
      obtain ⟨x, hx⟩ : ∃ x, Hid ((R k).cells = x) := ⟨_, rfl⟩
      rw [hx.out] at hcc ct hsz
      have i0 : (0 : Int) ≤ (k : Int) := by omega
      have i1 : (k : Int) < (len : Int) := by omega
      go_upto_region 5 with fail
      go_wp2_with (first | (refine wpList_load_mid rfl 86 _ rfl b (off + k * 21) rfl x.toList _ hcc Tryz.underlying86 rfl (by rw [hsz]; exact size86) ?_))
      try simp only [Array.toArray_toList]
      refine (ct _ hraw).mono ?_
      rintro e w1 ⟨D, rfl, hD, b1⟩
      have hth1 := there_below hth b1 hKr
      have hthk := there_part hth1 hlt
      have hb1 := btrans hb b1
      have hK1 : w.heap.size < w1.heap.size := by have := b1.size; omega
      have hlo : w.heap.size + 1 ≤ wr.heap.size := hKr
      have hD1 := hD.mono hlo
      have hs1 := hD.size
      have ho1 := hD.one
      have hall1 : ∀ j, j < k → w1.rangeAt w.heap.size (j * 21) (C j).toList ∧ Cn w1 (w.heap.size + 1) (R j) (C j) := fun j hj => ⟨fun i v hv => keep_below b1 ((hall j hj).1 i v hv), (hall j hj).2.below b1⟩
      clear hall hcc ct hraw hD b1 hth hb
      go_wp2_with (first | (refine wpList_store_mid rfl 51 _ _ rfl w.heap.size (k * 21) D rfl rfl (by rw [hs1]; exact hthk) (by rw [hs1]; exact size51) ho1 ?_))
      have hbut : But2 w.heap.size w.heap.size w1 (w1.setCells w.heap.size (k * 21) D.toList) := But2.cells _
      have hbe : Below w.heap.size w (w1.setCells w.heap.size (k * 21) D.toList) := below_cells _ _ _ _ (Nat.le_refl _) hb1
      have hsame := World.rangeAt_setCells_same w1 w.heap.size (k * 21) D.toList (by rw [Array.length_toList, hs1]; exact hthk)
      have hth2 := World.there_setCells hth1 w.heap.size (k * 21) D.toList
      have hap : ∀ j, j < k → (w1.setCells w.heap.size (k * 21) D.toList).rangeAt w.heap.size (j * 21) (C j).toList := fun j hj => World.rangeAt_setCells_apart (hall1 j hj).1 _ _ _ (.inr (.inl (by
        rw [Array.length_toList, (hall1 j hj).2.size]; omega)))
      have hKs : w.heap.size < (w1.setCells w.heap.size (k * 21) D.toList).heap.size := Nat.lt_of_lt_of_le hK1 hbut.size
      have hcn : ∀ j, j < k → Cn (w1.setCells w.heap.size (k * 21) D.toList) (w.heap.size + 1) (R j) (C j) := fun j hj => (hall1 j hj).2.but hbut (by omega)
      have hcD := hD1.but hbut (by omega)
      clear hall1 hbut hD1 hb1 hth1 hthk
      generalize w1.setCells w.heap.size (k * 21) D.toList = w2 at *
      go_wp2
      go_roundw
      case rel =>
        refine ⟨k + 1, fun j => if j = k then D else C j, by omega, by go_num, hbe, hKs, hth2, fun j hj => ?_⟩
        by_cases e : j = k
        · subst e
          simp only [if_true]
          exact ⟨hsame, hcD⟩
        · simp only [e, if_false]
          exact ⟨hap j (by omega), hcn j (by omega)⟩
      case measure => simp [intOf]; omega
    · go_wp2
      go_ret
      have e : k = len := by omega
      subst e
      exact ⟨w.heap.size, C, rfl, ⟨Nat.le_refl _, hKr, fun j hj => ⟨(hall j hj).1, (hall j hj).2.mono (by omega)⟩⟩, hb⟩
end Go.Proofs.YthekjfdggfbelaaGreat
/- Lists of nodes: whether they are equal, whether they are ok. -/
namespace Go.Proofs.YthekjfdggfbelaaGreat
open Go.ChangeShapes Go.WideShapes Go.ChangeAt Go.RowKit
def s29_6 : List Stp := [⟨some 17, .move (.tmp 0), 30, none, 0⟩, ⟨some 18, .move (.tmp 5), 3, none, 0⟩, ⟨some 19, .indexAddr 30 (.tmp 17) (.tmp 18), 0, none, 0⟩, ⟨some 20, .load 51 (.tmp 19), 51, none, 0⟩, ⟨some 21, .move (.tmp 1), 30, none, 0⟩, ⟨some 22, .move (.tmp 5), 3, none, 0⟩, ⟨some 23, .indexAddr 30 (.tmp 21) (.tmp 22), 0, none, 0⟩, ⟨some 24, .load 51 (.tmp 23), 51, none, 0⟩, ⟨some 25, .call { callee := .value (.func 65), args := #[.tmp 20, .tmp 24], argTypes := #[51, 51] }, 4, none, 1⟩, ⟨some 26, .unOp .not 4 (.tmp 25), 4, none, 0⟩]
def t29_6 : List (Nat × Nat) := [(0, 0), (1, 0), (2, 0), (3, 0), (4, 0), (5, 0), (6, 0), (7, 0), (8, 1), (9, 0)]
set_option maxRecDepth 20000 in
set_option maxHeartbeats 4000000 in
theorem eqNodeS_same (a a' : Option Addr) (len cap cap' : Nat) (nd : Nat → Nod) (w : World) (h : NdL w a len nd) (h' : NdL w a' len nd) (hl : len ≤ 1048576) :
    Calls Tryz.prog 29 #[.slice a len cap, .slice a' len cap'] w fun e w' => e = .returned (.bool true) ∧ Below w.heap.size w w' := by
  go_enter Tryz.func29, Tryz.ntmps29
  go_wp2
  go_loopw [5] (fun i wr => ∃ k : Nat, k ≤ len ∧ i = .int .i64 k ∧ Below w.heap.size w wr) (fun i _ => len - (intOf i).toNat)
  case atStart => exact ⟨0, Nat.zero_le _, rfl, Below.refl _ _⟩
  case round =>
    obtain ⟨k, hk, rfl, hb⟩ := hrel
    by_cases hlt : k < len
    · obtain ⟨b, off, rfl, _, hf⟩ := (h.below hb) (by omega)
      obtain ⟨L, c1, c2⟩ := hf k hlt
      obtain ⟨b', off', rfl, _, hf'⟩ := (h'.below hb) (by omega)
      obtain ⟨L', d1, d2⟩ := hf' k hlt
      have i0 : (0 : Int) ≤ (k : Int) := by omega
      have i1 : (k : Int) < (len : Int) := by omega
      generalize nd k = n at *
      have ct : ∀ w1, Below wr.heap.size wr w1 → Calls Tryz.prog 65 #[.agg (ndC n L), .agg (ndC n L')] w1 fun r w' => r = .returned (.bool true) ∧ Below w1.heap.size w1 w' := fun w1 q => eqNod n L L' w1 (c2.below q) (d2.below q)
      clear c2 d2 hf hf'
      go_upto_region 6 with fail
      refine wp_region_q s29_6 t29_6 (fun hbq => ?_)
      iterate 3 refine qY ?_
      refine qR ?_
      iterate 3 refine qY ?_
      refine qR ?_
      refine qC (fun K hK => ?_)
      go_simp
      refine (ct _ hbq).mono ?_; rintro r w1 ⟨rfl, k1⟩
      go_wp2_with fail
      refine hK.out _ _ (btrans hbq k1) (.inl ?_)
      clear hK K
      replace hbq := btrans hbq k1
      clear k1
      try simp only [putQ]
      refine qY ?_
      refine qE ?_
      have hb1 := btrans hb hbq
      clear ct c1 d1
      go_wp2
      go_roundw
      case rel => exact ⟨k + 1, by omega, by go_num, hb1⟩
      case measure => simp [intOf]; omega
    · go_wp2
      go_ret
      exact ⟨rfl, hb⟩
/-- where a gate may be -/
def gtB (k : Nat) : Bool := decide (k % 4 ≠ 3)
theorem rem4 (k : Nat) : (k : Int).tmod 4 = ((k % 4 : Nat) : Int) := by
  rw [Int.tmod_eq_emod_of_nonneg (by omega)]
  omega
theorem gateI_any (k : Nat) (w : World) : Calls Tryz.prog 55 #[.int .i64 (k : Int)] w fun r w' => r = .returned (.bool (gtB k)) ∧ w' = w := by
  have e := rem4 k
  have hw : IntKind.i64.wrap ((k : Int).tmod 4) = (k : Int).tmod 4 := by rw [e, IntKind.wrap_i64]; omega
  go_enter Tryz.func55, Tryz.ntmps55
  go_wp2
  go_ret
  refine ⟨ret_bool ?_, rfl⟩
  unfold gtB
  by_cases h : k % 4 = 3
  · simp [h]; omega
  · simp [h]; omega
theorem gateS_any (k : Nat) (w : World) : Calls Tryz.prog 16 #[.int .i64 (k : Int)] w fun r w' => r = .returned (.bool (gtB k)) ∧ w' = w := by
  have e := rem4 k
  have hw : IntKind.i64.wrap ((k : Int).tmod 4) = (k : Int).tmod 4 := by rw [e, IntKind.wrap_i64]; omega
  go_enter Tryz.func16, Tryz.ntmps16
  go_wp2
  go_ret
  refine ⟨ret_bool ?_, rfl⟩
  unfold gtB
  by_cases h : k % 4 = 3
  · simp [h]; omega
  · simp [h]; omega
/-- a node in its place -/
def nokB (k : Nat) (n : Nod) : Bool := decide (n.me = (k : Int)) && decide (n.gate = gtB k) && nodQ n
/-- nodes, each in its place -/
def nodesB (len : Nat) (nd : Nat → Nod) : Bool := decide (∀ k, k < len → nokB k (nd k) = true) && decide (len = 8)
def s25_4 : List Stp := [⟨some 12, .fieldAddr 51 (.tmp 4) 0, 0, none, 0⟩, ⟨some 13, .load 3 (.tmp 12), 3, none, 0⟩, ⟨some 14, .move (.tmp 3), 3, none, 0⟩, ⟨some 15, .binOp .neq 3 (.tmp 13) (.tmp 14) 3, 4, none, 2⟩, ⟨some 16, .move (.tmp 15), 4, none, 0⟩, ⟨some 17, .fieldAddr 51 (.tmp 4) 3, 0, some (16, false), 0⟩, ⟨some 18, .load 4 (.tmp 17), 4, some (16, false), 0⟩, ⟨some 19, .move (.tmp 3), 3, some (16, false), 0⟩, ⟨some 20, .call { callee := .value (.func 55), args := #[.tmp 19], argTypes := #[3] }, 4, some (16, false), 1⟩, ⟨some 21, .binOp .neq 4 (.tmp 18) (.tmp 20) 4, 4, some (16, false), 2⟩, ⟨some 22, .pick (.tmp 16) (.const (.bool true)) (.tmp 21), 4, none, 0⟩, ⟨some 23, .move (.tmp 22), 4, none, 0⟩, ⟨some 24, .load 51 (.tmp 4), 51, some (23, false), 0⟩, ⟨some 25, .call { callee := .value (.func 56), args := #[.tmp 24], argTypes := #[51] }, 4, some (23, false), 1⟩, ⟨some 26, .unOp .not 4 (.tmp 25), 4, some (23, false), 2⟩, ⟨some 27, .pick (.tmp 23) (.const (.bool true)) (.tmp 26), 4, none, 0⟩]
def t25_4 : List (Nat × Nat) := [(0, 0), (1, 0), (2, 0), (3, 2), (4, 0), (5, 0), (6, 0), (7, 0), (8, 1), (9, 2), (10, 0), (11, 0), (12, 0), (13, 1), (14, 2), (15, 0)]
set_option maxRecDepth 20000 in
set_option maxHeartbeats 4000000 in
theorem nodes_any (a : Option Addr) (len cap : Nat) (nd : Nat → Nod) (w : World) (h : NdL w a len nd) (hl : len ≤ 1048576) :
    Calls Tryz.prog 25 #[.slice a len cap] w fun e w' => e = .returned (.bool (nodesB len nd)) ∧ Below w.heap.size w w' := by
  go_enter Tryz.func25, Tryz.ntmps25
  go_wp2
  go_loopw [3, 4, 7] (fun _ _ i wr => ∃ k : Nat, k ≤ len ∧ i = .int .i64 k ∧ Below w.heap.size w wr ∧ ∀ j, j < k → nokB j (nd j) = true) (fun _ _ i _ => len - (intOf i).toNat)
  case atStart => exact ⟨0, Nat.zero_le _, rfl, Below.refl _ _, fun j hj => by omega⟩
  case round =>
    obtain ⟨k, hk, rfl, hb, hall⟩ := hrel
    by_cases hlt : k < len
    · obtain ⟨b, off, rfl, _, hf⟩ := (h.below hb) (by omega)
      obtain ⟨L, c1, c2⟩ := hf k hlt
      have i0 : (0 : Int) ≤ (k : Int) := by omega
      have i1 : (k : Int) < (len : Int) := by omega
      have hno' : Hid (nokB k (nd k) = false → nodesB len nd = false) := fun q => by
        unfold nodesB
        rw [Bool.and_eq_false_iff]
        refine .inl (decide_eq_false fun hh => ?_)
        rw [hh k hlt] at q
        cases q
      have hyes : Hid (nokB k (nd k) = true → ∀ j, j < k + 1 → nokB j (nd j) = true) := fun q j hj => by
        by_cases e : j = k
        · subst e; exact q
        · exact hall j (by omega)
      clear hall hf
      generalize nd k = n at *
      have hB := Ws.box (w := wr) #[.int .i64 0, .bool false, .bool false, .bool false, .int .i64 0, .int .i64 0, .int .i64 0, .int .i64 0, .slice none 0 0, .slice none 0 0, .int .i64 0, .int .i64 0, .int .i64 0, .bool false, .slice none 0 0, .int .i64 0, .int .i64 0, .int .i64 0, .int .i64 0, .slice none 0 0, .slice none 0 0] 51
      have hth := hB.there (n := 21) rfl
      have hu1 : Below wr.heap.size wr ((wr.alloc (.cells #[.int .i64 0, .bool false, .bool false, .bool false, .int .i64 0, .int .i64 0, .int .i64 0, .int .i64 0, .slice none 0 0, .slice none 0 0, .int .i64 0, .int .i64 0, .int .i64 0, .bool false, .slice none 0 0, .int .i64 0, .int .i64 0, .int .i64 0, .int .i64 0, .slice none 0 0, .slice none 0 0] 51)).setCells wr.heap.size 0 (ndC n L).toList) := below_cells _ _ _ _ (Nat.le_refl _) (balloc _ (Below.refl _ _))
      have hrg := World.rangeAt_setCells_same (wr.alloc (.cells #[.int .i64 0, .bool false, .bool false, .bool false, .int .i64 0, .int .i64 0, .int .i64 0, .int .i64 0, .slice none 0 0, .slice none 0 0, .int .i64 0, .int .i64 0, .int .i64 0, .bool false, .slice none 0 0, .int .i64 0, .int .i64 0, .int .i64 0, .int .i64 0, .slice none 0 0, .slice none 0 0] 51)) wr.heap.size 0 (ndC n L).toList hth
      clear hB
      go_upto_region 4 with (first | (refine wpList_load_mid rfl 51 _ rfl b (off + k * 21) rfl (ndC n L).toList _ c1 Tryz.underlying51 rfl size51 ?_) | (refine wpList_store_mid rfl 51 _ _ rfl wr.heap.size 0 (ndC n L) rfl rfl hth size51 (by kernel_rfl) ?_))
      clear hth c1
      generalize (wr.alloc (.cells #[.int .i64 0, .bool false, .bool false, .bool false, .int .i64 0, .int .i64 0, .int .i64 0, .int .i64 0, .slice none 0 0, .slice none 0 0, .int .i64 0, .int .i64 0, .int .i64 0, .bool false, .slice none 0 0, .int .i64 0, .int .i64 0, .int .i64 0, .int .i64 0, .slice none 0 0, .slice none 0 0] 51)).setCells wr.heap.size 0 (ndC n L).toList = u at *
      have hb3 := btrans hb hu1
      have hN := c2.below hu1
      clear c2 hu1
      have c0 := hrg 0 (.int .i64 n.me) rfl
      have c3 := hrg 3 (.bool n.gate) rfl
      simp only [Nat.add_zero, Nat.zero_add] at c0 c3
      obtain ⟨gv, hgv⟩ : ∃ g, Hid (gtB k = g) := ⟨_, rfl⟩
      have gI : ∀ w1, Calls Tryz.prog 55 #[.int .i64 (k : Int)] w1 fun r w' => r = .returned (.bool gv) ∧ Below w1.heap.size w1 w' := fun w1 => (gateI_any k w1).mono (by rintro r w' ⟨rfl, rfl⟩; exact ⟨by rw [hgv.out], Below.refl _ _⟩)
      obtain ⟨qv, hqv⟩ : ∃ g, Hid (nodQ n = g) := ⟨_, rfl⟩
      have ct : ∀ w1, Below u.heap.size u w1 → Calls Tryz.prog 56 #[.agg (ndC n L)] w1 fun r w' => r = .returned (.bool qv) ∧ Below w1.heap.size w1 w' := fun w1 q => by
        rw [← hqv.out]
        exact okI_nod n L w1 (hN.below q)
      have hnok : Hid (nokB k n = (decide (n.me = (k : Int)) && decide (n.gate = gv) && qv)) := by
        unfold Hid nokB
        rw [hgv.out, hqv.out]
      clear hgv hqv hN
      by_cases e1 : n.me = (k : Int)
      · have y1 : Hid (n.me = (k : Int)) := e1
        clear e1
        by_cases e2 : n.gate = gv
        · have y2 : Hid (n.gate = gv) := e2
          clear e2
          cases qv
          · have hno : Hid (nodesB len nd = false) := hno'.out (by rw [hnok.out]; simp)
            clear hno' hyes hnok
            refine wp_region_q s25_4 t25_4 (fun hbq => ?_)
            refine qY ?_
            refine qL ?_
            refine qY ?_
            refine qV (.bool false) ?_ (by (intro w; go_simp; all_goals (first | with_reducible rfl | (simp [y1.out]; done) | assumption | (simp; done) | (simp; omega))))
            iterate 2 refine qY ?_
            refine qL ?_
            refine qY ?_
            refine qC (fun K hK => ?_)
            go_simp
            refine (gI _).mono ?_; rintro r w1 ⟨rfl, k1⟩
            go_wp2_with fail
            refine hK.out _ _ (btrans hbq k1) (.inl ?_)
            clear hK K
            replace hbq := btrans hbq k1
            clear k1
            try simp only [putQ]
            refine qV (.bool false) ?_ (by (intro w; go_simp; all_goals (first | with_reducible rfl | (simp [y2.out]; done) | assumption | (simp; done) | (simp; omega))))
            iterate 2 refine qY ?_
            refine qR ?_
            refine qC (fun K hK => ?_)
            go_simp
            refine (ct _ hbq).mono ?_; rintro r w2 ⟨rfl, k2⟩
            go_wp2_with fail
            refine hK.out _ _ (btrans hbq k2) (.inl ?_)
            clear hK K
            replace hbq := btrans hbq k2
            clear k2
            try simp only [putQ]
            refine qV (.bool true) ?_
            refine qY ?_
            refine qE ?_
            have hb1 := btrans hb3 hbq
            clear ct gI c0 c3 hrg
            go_wp2
            go_ret
            exact ⟨ret_bool hno.out.symm, hb1⟩
          · have hya := hyes.out (by rw [hnok.out, y1.out, y2.out]; simp)
            clear hno' hyes hnok
            refine wp_region_q s25_4 t25_4 (fun hbq => ?_)
            refine qY ?_
            refine qL ?_
            refine qY ?_
            refine qV (.bool false) ?_ (by (intro w; go_simp; all_goals (first | with_reducible rfl | (simp [y1.out]; done) | assumption | (simp; done) | (simp; omega))))
            iterate 2 refine qY ?_
            refine qL ?_
            refine qY ?_
            refine qC (fun K hK => ?_)
            go_simp
            refine (gI _).mono ?_; rintro r w1 ⟨rfl, k1⟩
            go_wp2_with fail
            refine hK.out _ _ (btrans hbq k1) (.inl ?_)
            clear hK K
            replace hbq := btrans hbq k1
            clear k1
            try simp only [putQ]
            refine qV (.bool false) ?_ (by (intro w; go_simp; all_goals (first | with_reducible rfl | (simp [y2.out]; done) | assumption | (simp; done) | (simp; omega))))
            iterate 2 refine qY ?_
            refine qR ?_
            refine qC (fun K hK => ?_)
            go_simp
            refine (ct _ hbq).mono ?_; rintro r w2 ⟨rfl, k2⟩
            go_wp2_with fail
            refine hK.out _ _ (btrans hbq k2) (.inl ?_)
            clear hK K
            replace hbq := btrans hbq k2
            clear k2
            try simp only [putQ]
            refine qV (.bool false) ?_
            refine qY ?_
            refine qE ?_
            have hb1 := btrans hb3 hbq
            clear ct gI c0 c3 hrg
            go_wp2
            go_roundw
            case rel => exact ⟨k + 1, by omega, by go_num, hb1, hya⟩
            case measure => simp [intOf]; omega
        · have hno : Hid (nodesB len nd = false) := hno'.out (by rw [hnok.out]; simp [e2])
          clear hno' hyes hnok
          refine wp_region_q s25_4 t25_4 (fun hbq => ?_)
          refine qY ?_
          refine qL ?_
          refine qY ?_
          refine qV (.bool false) ?_ (by (intro w; go_simp; all_goals (first | with_reducible rfl | (simp [y1.out]; done) | assumption | (simp; done) | (simp; omega))))
          iterate 2 refine qY ?_
          refine qL ?_
          refine qY ?_
          refine qC (fun K hK => ?_)
          go_simp
          refine (gI _).mono ?_; rintro r w1 ⟨rfl, k1⟩
          go_wp2_with fail
          refine hK.out _ _ (btrans hbq k1) (.inl ?_)
          clear hK K
          replace hbq := btrans hbq k1
          clear k1
          try simp only [putQ]
          refine qV (.bool true) ?_ (by (intro w; go_simp; all_goals (first | with_reducible rfl | (simp [e2]; done) | assumption | (simp; done) | (simp; omega))))
          iterate 2 refine qY ?_
          iterate 3 refine qN ?_
          refine qY ?_
          refine qE ?_
          have hb1 := btrans hb3 hbq
          clear ct gI c0 c3 hrg
          go_wp2
          go_ret
          exact ⟨ret_bool hno.out.symm, hb1⟩
      · have hno : Hid (nodesB len nd = false) := hno'.out (by rw [hnok.out]; simp [e1])
        clear hno' hyes hnok
        refine wp_region_q s25_4 t25_4 (fun hbq => ?_)
        refine qY ?_
        refine qL ?_
        refine qY ?_
        refine qV (.bool true) ?_ (by (intro w; go_simp; all_goals (first | with_reducible rfl | (simp [e1]; done) | assumption | (simp; done) | (simp; omega))))
        refine qY ?_
        iterate 5 refine qN ?_
        iterate 2 refine qY ?_
        iterate 3 refine qN ?_
        refine qY ?_
        refine qE ?_
        have hb1 := btrans hb3 hbq
        clear ct gI c0 c3 hrg
        go_wp2
        go_ret
        exact ⟨ret_bool hno.out.symm, hb1⟩
    · have e : k = len := by omega
      subst e
      by_cases e8 : k = 8
      · subst e8
        go_wp2
        go_ret
        refine ⟨ret_bool ?_, hb⟩
        unfold nodesB
        rw [decide_eq_true hall]
        rfl
      · have e9 : ¬ (k : Int) = 8 := by omega
        have e10 : Hid (nodesB k nd = false) := by
          unfold Hid nodesB
          rw [decide_eq_false e8, Bool.and_false]
        clear e8
        go_wp2
        go_ret
        exact ⟨ret_bool (by rw [e10.out]; first | (simp; omega) | simp [e9]), hb⟩
end Go.Proofs.YthekjfdggfbelaaGreat
/- Words under way: lists of flights; sides. -/
namespace Go.Proofs.YthekjfdggfbelaaGreat
open Go.ChangeShapes Go.WideShapes Go.ChangeAt Go.RowKit
/-- a word under way -/
structure Ft where
  t : Int
  x : ByteArray
  s : Bool
def Ft.zero : Ft := ⟨0, ByteArray.empty, false⟩
def FtIn (w : World) (b off len : Nat) (F : Nat → Ft) : Prop :=
  ∀ k, k < len → w.cell? ⟨b, off + k * 3, none⟩ = some (.int .i64 (F k).t) ∧ w.cell? ⟨b, off + k * 3 + 1, none⟩ = some (.string (F k).x) ∧ w.cell? ⟨b, off + k * 3 + 2, none⟩ = some (.bool (F k).s)
def FtSl (w : World) (a : Option Addr) (len : Nat) (F : Nat → Ft) : Prop :=
  0 < len → ∃ b off, a = some ⟨b, off, none⟩ ∧ b < w.heap.size ∧ FtIn w b off len F
theorem FtIn.below {B : Nat} {w w' : World} {b off len : Nat} {F : Nat → Ft} (h : FtIn w b off len F) (hb : Below B w w') (hl : b < B) : FtIn w' b off len F := fun k hk => by
  obtain ⟨h0, h1, h2⟩ := h k hk
  exact ⟨(hb.cell (p := ⟨b, _, none⟩) hl).trans h0, (hb.cell (p := ⟨b, _, none⟩) hl).trans h1, (hb.cell (p := ⟨b, _, none⟩) hl).trans h2⟩
theorem FtSl.below {w w' : World} {a : Option Addr} {len : Nat} {F : Nat → Ft} (h : FtSl w a len F) (hb : Below w.heap.size w w') : FtSl w' a len F := fun hl => by
  obtain ⟨b, off, e, hlt, hf⟩ := h hl
  exact ⟨b, off, e, by have := hb.size; omega, hf.below hb hlt⟩
theorem szFt_any (t : Int) (x : ByteArray) (s : Bool) (z : Int) (w : World) (h0 : 0 ≤ z) (h1 : z ≤ 1048576) (hx : x.size ≤ maxLen) :
    Calls Tryz.prog 40 #[.agg #[.int .i64 t, .string x, .bool s], .int .i64 z] w fun r w' => (∃ z' : Int, r = .returned (.int .i64 z') ∧ (z' = -1 ∨ (0 ≤ z' ∧ z' ≤ z ∧ x.size ≤ 1048576))) ∧ Below w.heap.size w w' := by
  have hx' := hx
  unfold maxLen at hx'
  have e9 : IntKind.i64.wrap (z - (x.size : Int)) = z - (x.size : Int) := by rw [IntKind.wrap_i64]; omega
  by_cases hlt : z < (x.size : Int)
  · have e1 : z - (x.size : Int) < 0 := by omega
    go_enter Tryz.func40, Tryz.ntmps40
    go_wp2
    all_goals (go_ret; exact ⟨⟨-1, rfl, .inl rfl⟩, balloc _ (Below.refl _ _)⟩)
  · have e1 : ¬ z - (x.size : Int) < 0 := by omega
    go_enter Tryz.func40, Tryz.ntmps40
    go_wp2
    all_goals (go_ret; exact ⟨⟨_, rfl, .inr ⟨by omega, by omega, by omega⟩⟩, balloc _ (Below.refl _ _)⟩)
set_option maxRecDepth 20000 in
set_option maxHeartbeats 4000000 in
theorem szFts_any (a : Option Addr) (len cap : Nat) (F : Nat → Ft) (left : Int) (w : World) (hSl : FtSl w a len F) (h0 : 0 ≤ left) (h1 : left ≤ 1048576) (hl : len ≤ maxLen) (hb : ∀ j, j < len → (F j).x.size ≤ maxLen) :
    Calls Tryz.prog 13 #[.slice a len cap, .int .i64 left] w fun e w' => (∃ r : Int, e = .returned (.int .i64 r) ∧ (r = -1 ∨ (0 ≤ r ∧ r ≤ left ∧ len ≤ 1048576 ∧ ∀ j, j < len → (F j).x.size ≤ 1048576))) ∧ Below w.heap.size w w' := by
  have hl' := hl
  unfold maxLen at hl'
  go_enter Tryz.func13, Tryz.ntmps13
  by_cases hlt0 : left < (len : Int)
  · have e1 : left - (len : Int) < 0 := by omega
    go_wp2
    all_goals (go_ret; exact ⟨⟨-1, rfl, .inl rfl⟩, Below.refl _ _⟩)
  have e1 : ¬ left - (len : Int) < 0 := by omega
  have e9 : IntKind.i64.wrap (left - (len : Int)) = left - (len : Int) := by rw [IntKind.wrap_i64]; omega
  have hlen : len ≤ 1048576 := by omega
  have e2 : Hid (0 ≤ left - (len : Int) ∧ left - (len : Int) ≤ left) := ⟨by omega, by omega⟩
  go_wp2
  generalize left - (len : Int) = z at *
  go_loopw [1, 5] (fun l i wr => ∃ (k : Nat) (yl : Int), k ≤ len ∧ i = .int .i64 k ∧ l = .int .i64 yl ∧ 0 ≤ yl ∧ yl ≤ left ∧ Below w.heap.size w wr ∧ (∀ j, j < k → (F j).x.size ≤ 1048576)) (fun _ i _ => len - (intOf i).toNat)
  case atStart => exact ⟨0, z, by omega, rfl, rfl, e2.out.1, e2.out.2, Below.refl _ _, fun j hj => by omega⟩
  case round =>
    obtain ⟨k, yl, hk, rfl, rfl, hy0, hy1, hbb, hall⟩ := hrel
    by_cases hlt : k < len
    · obtain ⟨b, off, rfl, hbl, hf⟩ := hSl (by omega)
      obtain ⟨c0, c1, c2⟩ := (hf.below hbb hbl) k hlt
      have i0 : (0 : Int) ≤ (k : Int) := by omega
      have i1 : (k : Int) < (len : Int) := by omega
      have hbk := hb k hlt
      have hyes : Hid ((F k).x.size ≤ 1048576 → ∀ j, j < k + 1 → (F j).x.size ≤ 1048576) := fun e j hj => by
        by_cases ej : j = k
        · subst ej; exact e
        · exact hall j (by omega)
      clear hall
      generalize F k = x at *
      obtain ⟨t, x, s⟩ := x
      dsimp only at c0 c1 c2 hbk hyes
      go_wp2_with fail
      refine (szFt_any t x s yl _ hy0 (by omega) hbk).mono ?_
      rintro r w1 ⟨⟨z2, rfl, hz⟩, k1⟩
      clear c0 c1 c2
      rcases hz with rfl | ⟨q0, q1, q2⟩
      · go_wp2
        go_ret
        exact ⟨⟨-1, rfl, .inl rfl⟩, btrans hbb k1⟩
      · have e2 : Hid (z2 ≤ left) := by unfold Hid; omega
        have e4 := hyes.out q2
        have e3 : ¬ z2 < 0 := by omega
        clear hyes q1 q2
        go_wp2
        go_roundw
        case rel => exact ⟨k + 1, z2, by omega, by go_num, rfl, q0, e2.out, btrans hbb k1, e4⟩
        case measure => simp [intOf]; omega
    · go_wp2
      go_ret
      exact ⟨⟨yl, rfl, .inr ⟨hy0, hy1, hlen, fun j hj => hall j (by omega)⟩⟩, hbb⟩
theorem toFt_any (t : Int) (x : ByteArray) (s : Bool) (w : World) :
    Calls Tryz.prog 53 #[.agg #[.int .i64 t, .string x, .bool s]] w fun r w' => r = .returned (.agg #[.int .i64 t, .string x, .bool s]) ∧ Below w.heap.size w w' := by
  go_enter Tryz.func53, Tryz.ntmps53
  go_wp2
  exact bodyPost_ret (v := .agg #[.int .i64 t, .string x, .bool s]) (by simp [results, Tryz.results53, go_sem]) rfl ⟨rfl, balloc _ (balloc _ (balloc _ (Below.refl _ _)))⟩
def ftv (F : Nat → Ft) (k : Nat) : Value := if k % 3 = 0 then .int .i64 (F (k / 3)).t else if k % 3 = 1 then .string (F (k / 3)).x else .bool (F (k / 3)).s
theorem ftrow_in {w : World} {b t n : Nat} {F : Nat → Ft} (h : w.rowIs b t (n * 3) (ftv F)) : FtIn w b 0 n F := fun k hk => by
  have e0 := h.cell (i := k * 3) (by omega)
  have e1 := h.cell (i := k * 3 + 1) (by omega)
  have e2 := h.cell (i := k * 3 + 2) (by omega)
  have a0 : k * 3 % 3 = 0 := by omega
  have a1 : (k * 3 + 1) % 3 = 1 := by omega
  have a2 : (k * 3 + 2) % 3 = 2 := by omega
  have d0 : k * 3 / 3 = k := by omega
  have d1 : (k * 3 + 1) / 3 = k := by omega
  have d2 : (k * 3 + 2) / 3 = k := by omega
  simp only [ftv, a0, a1, a2, d0, d1, d2] at e0 e1 e2
  exact ⟨by simpa using e0, by simpa using e1, by simpa using e2⟩
theorem ftrun_make (n : Nat) (hn : n ≤ 1048576) (w : World) :
    (Instr.makeSlice 31 (.int .i64 (n : Int)) (.int .i64 (n : Int))).run Tryz.prog w = .ok (.slice (some ⟨w.heap.size, 0, none⟩) n n) (w.alloc (.cells (madeCells #[.int .i64 0, .string ByteArray.empty, .bool false] (n * 3)) 56)) := by
  have hinf : (Tryz.prog.info? 56).map (fun i => (i.zero, i.size, i.bytes)) = some (some (.agg #[.int .i64 0, .string ByteArray.empty, .bool false]), 3, 32) := by kernel_rfl
  obtain ⟨i, hi, hzz⟩ := Option.map_eq_some_iff.1 hinf
  simp only [Prod.mk.injEq] at hzz
  obtain ⟨hz, hs, hb⟩ := hzz
  have hr := run_make (P := Tryz.prog) w 31 56 i _ Tryz.underlying31 hi hz .i64 .i64 n n (by omega) (Int.le_refl _) (by rw [hb]; omega) (by omega)
  rw [hr, hs, Int.toNat_natCast]
  rfl
theorem ftrow_made (n : Nat) (w : World) : (w.alloc (.cells (madeCells #[.int .i64 0, .string ByteArray.empty, .bool false] (n * 3)) 56)).rowIs w.heap.size 56 (n * 3) (ftv fun _ => Ft.zero) :=
  ⟨_, heap_alloc_new _ _, size_madeCells _ _, fun i hi => by
    have : i % 3 = 0 ∨ i % 3 = 1 ∨ i % 3 = 2 := by omega
    rcases this with h | h | h <;> simp [madeCells, hi, ftv, h, Ft.zero]⟩
theorem ftrow_put {w : World} {b n k : Nat} {F : Nat → Ft} (h : w.rowIs b 56 (n * 3) (ftv F)) (x : Ft) :
    (((w.setCell ⟨b, k * 3, none⟩ (.int .i64 x.t)).setCell ⟨b, k * 3 + 1, none⟩ (.string x.x)).setCell ⟨b, k * 3 + 2, none⟩ (.bool x.s)).rowIs b 56 (n * 3) (ftv fun j => if j = k then x else F j) :=
  (((h.set (k * 3) _).set (k * 3 + 1) _).set (k * 3 + 2) _).congr fun j hj => by
    by_cases e : j / 3 = k
    · have : j = k * 3 ∨ j = k * 3 + 1 ∨ j = k * 3 + 2 := by omega
      have a0 : k * 3 % 3 = 0 := by omega
      have a1 : (k * 3 + 1) % 3 = 1 := by omega
      have a2 : (k * 3 + 2) % 3 = 2 := by omega
      rcases this with h | h | h <;> (subst h; simp [ftv, e, a0, a1, a2])
    · have n0 : j ≠ k * 3 := by omega
      have n1 : j ≠ k * 3 + 1 := by omega
      have n2 : j ≠ k * 3 + 2 := by omega
      simp [n0, n1, n2, ftv, e]
theorem ftrow_sl {w : World} {b t n : Nat} {F : Nat → Ft} (h : w.rowIs b t (n * 3) (ftv F)) : FtSl w (some ⟨b, 0, none⟩) n F := fun _ => ⟨b, 0, rfl, h.lt, ftrow_in h⟩
set_option maxRecDepth 20000 in
set_option maxHeartbeats 4000000 in
theorem toFts_any (a : Option Addr) (len cap : Nat) (F : Nat → Ft) (w : World) (h : FtSl w a len F) (hl : len ≤ 1048576) :
    Calls Tryz.prog 22 #[.slice a len cap] w fun e w' => ∃ b, e = .returned (.slice (some ⟨b, 0, none⟩) len len) ∧ w'.rowIs b 56 (len * 3) (ftv F) ∧ w.heap.size ≤ b ∧ Below w.heap.size w w' := by
  have hmk := ftrun_make len hl
  go_enter Tryz.func22, Tryz.ntmps22
  go_wp2
  go_loopw [4] (fun i wr => ∃ (k : Nat), k ≤ len ∧ i = .int .i64 k ∧ Below w.heap.size w wr ∧ wr.rowIs w.heap.size 56 (len * 3) (ftv fun j => if j < k then F j else Ft.zero)) (fun i _ => len - (intOf i).toNat)
  case atStart => exact ⟨0, Nat.zero_le _, rfl, balloc _ (Below.refl _ _), by simpa using ftrow_made len w⟩
  case round =>
    obtain ⟨k, hk, rfl, hb, hr⟩ := hrel
    clear hmk
    by_cases hlt : k < len
    · obtain ⟨b, off, rfl, hbl, hf⟩ := h (by omega)
      obtain ⟨c0, c1, c2⟩ := (hf.below hb hbl) k hlt
      obtain ⟨x, hx⟩ : ∃ x, Hid (F k = x) := ⟨_, rfl⟩
      rw [hx.out] at c0 c1 c2
      obtain ⟨t, x, s⟩ := x
      dsimp only at c0 c1 c2
      go_wp2_with fail
      refine (toFt_any t x s _).mono ?_
      rintro e w1 ⟨rfl, b1⟩
      have hr1 := row_below hr b1
      have hb1 := btrans hb b1
      have d0 := hr1.cell (i := k * 3) (by omega)
      have d1 := hr1.cell (i := k * 3 + 1) (by omega)
      have d2 := hr1.cell (i := k * 3 + 2) (by omega)
      have f0 := hr1.frozen (k * 3)
      have f1 := hr1.frozen (k * 3 + 1)
      have f2 := hr1.frozen (k * 3 + 2)
      clear hr b1 c0 c1 c2 hb
      go_wp2
      go_roundw
      case rel =>
        refine ⟨k + 1, by omega, by go_num, ((hb1.setCell (p := ⟨w.heap.size, _, none⟩) (Nat.le_refl _) _).setCell (p := ⟨w.heap.size, _, none⟩) (Nat.le_refl _) _).setCell (p := ⟨w.heap.size, _, none⟩) (Nat.le_refl _) _, (ftrow_put hr1 ⟨t, x, s⟩).congr fun j _ => ?_⟩
        congr 1
        funext j
        by_cases e : j = k
        · subst e; simp [hx.out]
        · have : j < k + 1 ↔ j < k := by omega
          simp [e, this]
      case measure => simp [intOf]; omega
    · go_wp2
      go_ret
      have e : k = len := by omega
      subst e
      exact ⟨w.heap.size, rfl, hr.congr fun j hj => by
        have h9 : j / 3 < k := by omega
        simp [ftv, h9], Nat.le_refl _, hb⟩
theorem eqFt_same (t : Int) (x : ByteArray) (s : Bool) (w : World) :
    Calls Tryz.prog 66 #[.agg #[.int .i64 t, .string x, .bool s], .agg #[.int .i64 t, .string x, .bool s]] w fun r w' => r = .returned (.bool true) ∧ Below w.heap.size w w' := by
  have e0 : (s != s) = false := by simp
  go_enter Tryz.func66, Tryz.ntmps66
  go_wp2
  go_ret
  exact ⟨rfl, balloc _ (balloc _ (Below.refl _ _))⟩
set_option maxHeartbeats 1000000 in
theorem eqFts_same (a a' : Option Addr) (len cap cap' : Nat) (F : Nat → Ft) (w : World) (h : FtSl w a len F) (h' : FtSl w a' len F) (hl : len ≤ 1048576) :
    Calls Tryz.prog 30 #[.slice a len cap, .slice a' len cap'] w fun e w' => e = .returned (.bool true) ∧ Below w.heap.size w w' := by
  go_enter Tryz.func30, Tryz.ntmps30
  go_wp2
  go_loopw [5] (fun i wr => ∃ k : Nat, k ≤ len ∧ i = .int .i64 k ∧ Below w.heap.size w wr) (fun i _ => len - (intOf i).toNat)
  case atStart => exact ⟨0, Nat.zero_le _, rfl, Below.refl _ _⟩
  case round =>
    obtain ⟨k, hk, rfl, hb⟩ := hrel
    by_cases hlt : k < len
    · obtain ⟨b, off, rfl, hbl, hf⟩ := h (by omega)
      obtain ⟨c0, c1, c2⟩ := (hf.below hb hbl) k hlt
      obtain ⟨b', off', rfl, hbl', hf'⟩ := h' (by omega)
      obtain ⟨d0, d1, d2⟩ := (hf'.below hb hbl') k hlt
      have i0 : (0 : Int) ≤ (k : Int) := by omega
      have i1 : (k : Int) < (len : Int) := by omega
      go_wp2_with fail
      go_region_held3 (fun w' => w'.cell? ⟨b, off + k * 3, none⟩ = some (.int .i64 (F k).t) ∧ w'.cell? ⟨b, off + k * 3 + 1, none⟩ = some (.string (F k).x) ∧ w'.cell? ⟨b, off + k * 3 + 2, none⟩ = some (.bool (F k).s) ∧ w'.cell? ⟨b', off' + k * 3, none⟩ = some (.int .i64 (F k).t) ∧ w'.cell? ⟨b', off' + k * 3 + 1, none⟩ = some (.string (F k).x) ∧ w'.cell? ⟨b', off' + k * 3 + 2, none⟩ = some (.bool (F k).s)) (refine ⟨?_, ?_, ?_, ?_, ?_, ?_⟩ <;> (repeat (first | with_reducible assumption | with_reducible refine keep_drew ?_ | with_reducible refine keep_below (by assumption) ?_))) (first | (go_at_call 66; refine (eqFt_same _ _ _ _).mono ?_; rintro e w1 ⟨rfl, b1⟩))
      go_wp2
      go_roundw
      case rel => exact ⟨k + 1, by omega, by go_num, btrans hb.drew b1⟩
      case measure => simp [intOf]; omega
    · go_wp2
      go_ret
      exact ⟨rfl, hb⟩
/-- a word under way is ok -/
def ftB (t : Int) (x : ByteArray) : Bool := inb t 0 7 && decide (x.size ≤ 300)
theorem ftok_any (t : Int) (x : ByteArray) (s : Bool) (w : World) :
    Calls Tryz.prog 58 #[.agg #[.int .i64 t, .string x, .bool s]] w fun r w' => r = .returned (.bool (ftB t x)) ∧ Below w.heap.size w w' := by
  go_enter Tryz.func58, Tryz.ntmps58
  go_wp2_with fail
  refine (nodeOk_any t _).mono ?_
  rintro r w2 ⟨rfl, rfl⟩
  have e : (decide ((x.size : Int) ≤ 300)) = decide (x.size ≤ 300) := by congr 1; apply propext; omega
  cases hi : inb t 0 7
  · have hi' : Hid (inb t 0 7 = false) := hi
    clear hi
    go_wp2
    go_ret
    exact ⟨ret_bool (by simp [ftB, hi'.out]), balloc _ (Below.refl _ _)⟩
  · have hi' : Hid (inb t 0 7 = true) := hi
    clear hi
    go_wp2
    go_ret
    exact ⟨ret_bool (by simp [ftB, hi'.out]), balloc _ (Below.refl _ _)⟩
set_option maxRecDepth 20000 in
theorem ftClo_any (t : Int) (x : ByteArray) (s : Bool)  (pb : Nat) (w : World) (hp : w.cell? ⟨pb, 0, none⟩ = some (.func (.func 58) #[] #[]))   (b : Bool) (hb : ftB t x = b) :
    Calls Tryz.prog 97 #[.agg #[.int .i64 t, .string x, .bool s], .pointer (some ⟨pb, 0, none⟩)] w fun r w' => r = .returned (.bool (!b)) ∧ Below w.heap.size w w' := by
  have hb' : Hid (ftB t x = b) := hb
  clear hb
  have b0 := balloc (.cells #[.int .i64 t, .string x, .bool s] 56) (Below.refl w.heap.size w)
  have X := Ws.box (w := w) #[.int .i64 t, .string x, .bool s] 56
  have dp := keep_alloc (.cells #[.int .i64 t, .string x, .bool s] 56) hp
  go_enter Tryz.func97, Tryz.ntmps97
  go_upto_region 1 with fail
  generalize w.alloc (.cells #[.int .i64 t, .string x, .bool s] 56) = u at *
  have ee0 := X.c 0 (.int .i64 t) rfl
  have ee1 := X.c 1 (.string x) rfl
  have ee2 := X.c 2 (.bool s) rfl
  clear X
  go_wp2_with fail
  refine (ftok_any t x s _).mono ?_
  rintro r w2 ⟨rfl, k2⟩
  rw [hb'.out]
  clear dp hp ee0 ee1 ee2
  go_wp2
  go_ret
  exact ⟨rfl, btrans b0 k2⟩
/-- all words under way are ok -/
def ftA  (len : Nat) (G : Nat → Ft) : Bool := decide (∀ k, k < len → ftB (G k).t (G k).x = true)
set_option maxRecDepth 20000 in
set_option maxHeartbeats 1000000 in
theorem ftIdx_any (a : Option Addr) (len cap : Nat) (G : Nat → Ft)  (pb : Nat) (w : World) (hG : FtSl w a len G) (hm : len ≤ 1048576)  (hp : w.cell? ⟨pb, 0, none⟩ = some (.func (.func 58) #[] #[]))  :
    Calls Tryz.prog 148 #[.slice a len cap, .func (.func 97) #[] #[.pointer (some ⟨pb, 0, none⟩)]] w fun e w' => ∃ r : Int, e = .returned (.int .i64 r) ∧ ((ftA  len G = true ∧ r = -1) ∨ (ftA  len G = false ∧ 0 ≤ r)) ∧ Below w.heap.size w w' := by
  go_enter Tryz.func148, Tryz.ntmps148
  go_wp2
  go_loopw [5, 8] (fun _ i wr => ∃ k : Nat, k ≤ len ∧ i = .int .i64 k ∧ Below w.heap.size w wr ∧ (∀ j, j < k → ftB (G j).t (G j).x = true)) (fun _ i _ => len - (intOf i).toNat)
  case atStart => exact ⟨0, by omega, rfl, Below.refl _ _, fun j h1 => by omega⟩
  case round =>
    obtain ⟨k, hk, rfl, hb, hall⟩ := hrel
    by_cases hlt : k < len
    · obtain ⟨b, off, rfl, hbl, hf⟩ := hG (by omega)
      obtain ⟨c0, c1, c2⟩ := (hf.below hb hbl) k hlt
      have i0 : (0 : Int) ≤ (k : Int) := by omega
      have i1 : (k : Int) < (len : Int) := by omega
      have hpr := keep_below hb hp
      cases ho : ftB (G k).t (G k).x
      · have ho' : Hid (ftB (G k).t (G k).x = false) := ho
        clear ho
        go_wp2_with (go_at_call 97; refine (ftClo_any _ _ _  pb _ hpr   false ho'.out).mono ?_; rintro e w1 ⟨rfl, b1⟩)
        go_ret
        refine ⟨k, rfl, .inr ⟨?_, by omega⟩, btrans hb b1⟩
        unfold ftA
        refine decide_eq_false fun h => ?_
        have h1 := h k hlt
        rw [ho'.out] at h1
        cases h1
      · have ho' : Hid (ftB (G k).t (G k).x = true) := ho
        clear ho
        go_wp2_with (go_at_call 97; refine (ftClo_any _ _ _  pb _ hpr   true ho'.out).mono ?_; rintro e w1 ⟨rfl, b1⟩)
        go_roundw
        case rel => exact ⟨k + 1, by omega, by go_num, btrans hb b1, fun j hj => by
          by_cases e : j = k
          · subst e; exact ho'.out
          · exact hall j (by omega)⟩
        case measure => simp [intOf]; omega
    · go_wp2
      go_ret
      refine ⟨-1, rfl, .inl ⟨?_, rfl⟩, hb⟩
      unfold ftA
      rw [decide_eq_true_iff]
      exact fun j hj => hall j (by omega)
theorem ftCont_any (a : Option Addr) (len cap : Nat) (G : Nat → Ft)  (pb : Nat) (w : World) (hG : FtSl w a len G) (hm : len ≤ 1048576)  (hp : w.cell? ⟨pb, 0, none⟩ = some (.func (.func 58) #[] #[]))  :
    Calls Tryz.prog 96 #[.slice a len cap, .func (.func 97) #[] #[.pointer (some ⟨pb, 0, none⟩)]] w fun e w' => e = .returned (.bool (!ftA  len G)) ∧ Below w.heap.size w w' := by
  go_enter Tryz.func96, Tryz.ntmps96
  go_wp2_with fail
  refine (ftIdx_any a len cap G  pb _ hG hm  hp ).mono ?_
  rintro e w1 ⟨r, rfl, hr, b1⟩
  rcases hr with ⟨hs, rfl⟩ | ⟨hs, hr⟩
  · have hs' : Hid (ftA  len G = true) := hs
    clear hs
    go_wp2
    go_ret
    exact ⟨ret_bool (by rw [hs'.out]; rfl), b1⟩
  · have hs' : Hid (ftA  len G = false) := hs
    clear hs
    go_wp2
    go_ret
    exact ⟨ret_bool (by rw [hs'.out]; simp <;> omega), b1⟩
theorem ftAll_any (a : Option Addr) (len cap : Nat) (G : Nat → Ft)  (w : World) (hG : FtSl w a len G) (hm : len ≤ 1048576)   :
    Calls Tryz.prog 57 #[.slice a len cap, (.func (.func 58) #[] #[])] w fun e w' => e = .returned (.bool (ftA  len G)) ∧ Below w.heap.size w w' := by
  have b0 := balloc (.cells #[(.func (.func 58) #[] #[])] 97) (Below.refl w.heap.size w)
  have X := Ws.box (w := w) #[(.func (.func 58) #[] #[])] 97
  have dp := X.c 0 (.func (.func 58) #[] #[]) rfl
  go_enter Tryz.func57, Tryz.ntmps57
  go_upto_region 1 with fail
  generalize w.alloc (.cells #[(.func (.func 58) #[] #[])] 97) = u at *
  clear X
  go_wp2_with fail
  refine (ftCont_any a len cap G  _ _ (hG.below b0) hm  dp ).mono ?_
  rintro e w1 ⟨rfl, b1⟩
  clear dp
  go_wp2
  go_ret
  exact ⟨ret_bool (by simp), btrans b0 b1⟩
/-- the words under way are ok -/
def radB (len : Nat) (F : Nat → Ft) : Bool := decide (len ≤ 60) && ftA len F
theorem radio_any (a : Option Addr) (len cap : Nat) (F : Nat → Ft) (w : World) (h : FtSl w a len F) (hl : len ≤ 1048576) :
    Calls Tryz.prog 26 #[.slice a len cap] w fun e w' => e = .returned (.bool (radB len F)) ∧ Below w.heap.size w w' := by
  go_enter Tryz.func26, Tryz.ntmps26
  by_cases hm : len ≤ 60
  · have hm' : (len : Int) ≤ 60 := by omega
    go_wp2_with fail
    refine (ftAll_any a len cap F _ h hl).mono ?_
    rintro e w1 ⟨rfl, b1⟩
    go_wp2
    go_ret
    exact ⟨ret_bool (by simp [radB, hm]), b1⟩
  · have hm' : ¬ (len : Int) ≤ 60 := by omega
    go_wp2
    go_ret
    exact ⟨ret_bool (by simp [radB, hm]), Below.refl _ _⟩
theorem side_any (n : Int) (w : World) : Calls Tryz.prog 61 #[.int .i64 n] w fun r w' => r = .returned (.bool (inb n 0 2)) ∧ Below w.heap.size w w' := by
  go_enter Tryz.func61, Tryz.ntmps61
  go_wp2_with fail
  refine (within_any n 0 2 _).mono ?_
  rintro r w2 ⟨rfl, rfl⟩
  go_wp2
  go_ret
  exact ⟨rfl, Below.refl _ _⟩
set_option maxRecDepth 20000 in
theorem sdClo_any (n : Int)  (pb : Nat) (w : World) (hp : w.cell? ⟨pb, 0, none⟩ = some (.func (.func 61) #[] #[]))   (b : Bool) (hb : inb n 0 2 = b) :
    Calls Tryz.prog 99 #[.int .i64 n, .pointer (some ⟨pb, 0, none⟩)] w fun r w' => r = .returned (.bool (!b)) ∧ Below w.heap.size w w' := by
  have hb' : Hid (inb n 0 2 = b) := hb
  clear hb
  have b0 := Below.refl w.heap.size w
  have dp := hp
  go_enter Tryz.func99, Tryz.ntmps99
  go_wp2_with fail
  refine (side_any n _).mono ?_
  rintro r w2 ⟨rfl, k2⟩
  rw [hb'.out]
  clear dp hp 
  go_wp2
  go_ret
  exact ⟨rfl, btrans b0 k2⟩
/-- all sides are ok -/
def sdA  (len : Nat) (G : Nat → Int) : Bool := decide (∀ k, k < len → inb (G k) 0 2 = true)
set_option maxRecDepth 20000 in
set_option maxHeartbeats 1000000 in
theorem sdIdx_any (a : Option Addr) (len cap : Nat) (G : Nat → Int)  (pb : Nat) (w : World) (hG : ISl w a len G) (hm : len ≤ 1048576)  (hp : w.cell? ⟨pb, 0, none⟩ = some (.func (.func 61) #[] #[]))  :
    Calls Tryz.prog 149 #[.slice a len cap, .func (.func 99) #[] #[.pointer (some ⟨pb, 0, none⟩)]] w fun e w' => ∃ r : Int, e = .returned (.int .i64 r) ∧ ((sdA  len G = true ∧ r = -1) ∨ (sdA  len G = false ∧ 0 ≤ r)) ∧ Below w.heap.size w w' := by
  go_enter Tryz.func149, Tryz.ntmps149
  go_wp2
  go_loopw [5, 8] (fun _ i wr => ∃ k : Nat, k ≤ len ∧ i = .int .i64 k ∧ Below w.heap.size w wr ∧ (∀ j, j < k → inb (G j) 0 2 = true)) (fun _ i _ => len - (intOf i).toNat)
  case atStart => exact ⟨0, by omega, rfl, Below.refl _ _, fun j h1 => by omega⟩
  case round =>
    obtain ⟨k, hk, rfl, hb, hall⟩ := hrel
    by_cases hlt : k < len
    · obtain ⟨b, off, rfl, hbl, hf⟩ := hG (by omega)
      have c0 := (hf.below hb hbl) k hlt
      have i0 : (0 : Int) ≤ (k : Int) := by omega
      have i1 : (k : Int) < (len : Int) := by omega
      have hpr := keep_below hb hp
      cases ho : inb (G k) 0 2
      · have ho' : Hid (inb (G k) 0 2 = false) := ho
        clear ho
        go_wp2_with (go_at_call 99; refine (sdClo_any _  pb _ hpr   false ho'.out).mono ?_; rintro e w1 ⟨rfl, b1⟩)
        go_ret
        refine ⟨k, rfl, .inr ⟨?_, by omega⟩, btrans hb b1⟩
        unfold sdA
        refine decide_eq_false fun h => ?_
        have h1 := h k hlt
        rw [ho'.out] at h1
        cases h1
      · have ho' : Hid (inb (G k) 0 2 = true) := ho
        clear ho
        go_wp2_with (go_at_call 99; refine (sdClo_any _  pb _ hpr   true ho'.out).mono ?_; rintro e w1 ⟨rfl, b1⟩)
        go_roundw
        case rel => exact ⟨k + 1, by omega, by go_num, btrans hb b1, fun j hj => by
          by_cases e : j = k
          · subst e; exact ho'.out
          · exact hall j (by omega)⟩
        case measure => simp [intOf]; omega
    · go_wp2
      go_ret
      refine ⟨-1, rfl, .inl ⟨?_, rfl⟩, hb⟩
      unfold sdA
      rw [decide_eq_true_iff]
      exact fun j hj => hall j (by omega)
theorem sdCont_any (a : Option Addr) (len cap : Nat) (G : Nat → Int)  (pb : Nat) (w : World) (hG : ISl w a len G) (hm : len ≤ 1048576)  (hp : w.cell? ⟨pb, 0, none⟩ = some (.func (.func 61) #[] #[]))  :
    Calls Tryz.prog 98 #[.slice a len cap, .func (.func 99) #[] #[.pointer (some ⟨pb, 0, none⟩)]] w fun e w' => e = .returned (.bool (!sdA  len G)) ∧ Below w.heap.size w w' := by
  go_enter Tryz.func98, Tryz.ntmps98
  go_wp2_with fail
  refine (sdIdx_any a len cap G  pb _ hG hm  hp ).mono ?_
  rintro e w1 ⟨r, rfl, hr, b1⟩
  rcases hr with ⟨hs, rfl⟩ | ⟨hs, hr⟩
  · have hs' : Hid (sdA  len G = true) := hs
    clear hs
    go_wp2
    go_ret
    exact ⟨ret_bool (by rw [hs'.out]; rfl), b1⟩
  · have hs' : Hid (sdA  len G = false) := hs
    clear hs
    go_wp2
    go_ret
    exact ⟨ret_bool (by rw [hs'.out]; simp <;> omega), b1⟩
theorem sdAll_any (a : Option Addr) (len cap : Nat) (G : Nat → Int)  (w : World) (hG : ISl w a len G) (hm : len ≤ 1048576)   :
    Calls Tryz.prog 60 #[.slice a len cap, (.func (.func 61) #[] #[])] w fun e w' => e = .returned (.bool (sdA  len G)) ∧ Below w.heap.size w w' := by
  have b0 := balloc (.cells #[(.func (.func 61) #[] #[])] 52) (Below.refl w.heap.size w)
  have X := Ws.box (w := w) #[(.func (.func 61) #[] #[])] 52
  have dp := X.c 0 (.func (.func 61) #[] #[]) rfl
  go_enter Tryz.func60, Tryz.ntmps60
  go_upto_region 1 with fail
  generalize w.alloc (.cells #[(.func (.func 61) #[] #[])] 52) = u at *
  clear X
  go_wp2_with fail
  refine (sdCont_any a len cap G  _ _ (hG.below b0) hm  dp ).mono ?_
  rintro e w1 ⟨rfl, b1⟩
  clear dp
  go_wp2
  go_ret
  exact ⟨ret_bool (by simp), btrans b0 b1⟩
/-- the sides are ok -/
def sidB (len : Nat) (f : Nat → Int) : Bool := decide (len = 8) && sdA len f
theorem sides_any (a : Option Addr) (len cap : Nat) (f : Nat → Int) (w : World) (h : ISl w a len f) (hl : len ≤ 1048576) :
    Calls Tryz.prog 27 #[.slice a len cap] w fun e w' => e = .returned (.bool (sidB len f)) ∧ Below w.heap.size w w' := by
  go_enter Tryz.func27, Tryz.ntmps27
  by_cases hm : len = 8
  · subst hm
    go_wp2_with fail
    refine (sdAll_any a 8 cap f _ h hl).mono ?_
    rintro e w1 ⟨rfl, b1⟩
    go_wp2
    go_ret
    exact ⟨ret_bool (by simp [sidB]), b1⟩
  · have hm' : ¬ (len : Int) = 8 := by omega
    go_wp2
    go_ret
    exact ⟨ret_bool (by simp [sidB, hm]), Below.refl _ _⟩
end Go.Proofs.YthekjfdggfbelaaGreat
/- Facts that somebody told first, in order. -/
namespace Go.Proofs.YthekjfdggfbelaaGreat
open Go.ChangeShapes Go.WideShapes Go.ChangeAt Go.RowKit
/-- numbers, compared -/
def icmp (a b : Int) : Int := if a < b then -1 else if b < a then 1 else 0
theorem nan_any (a : Int) (w : World) : Calls Tryz.prog 150 #[.int .i64 a] w fun r w' => r = .returned (.bool false) ∧ w' = w := by
  go_enter Tryz.func150, Tryz.ntmps150
  go_wp2
  go_ret
  exact ⟨rfl, rfl⟩
theorem icmp_any (a b : Int) (w : World) : Calls Tryz.prog 101 #[.int .i64 a, .int .i64 b] w fun r w' => r = .returned (.int .i64 (icmp a b)) ∧ w' = w := by
  go_enter Tryz.func101, Tryz.ntmps101
  go_wp2_with fail
  refine (nan_any a _).mono ?_
  rintro r w2 ⟨rfl, rfl⟩
  go_wp2_with fail
  refine (nan_any b _).mono ?_
  rintro r w2 ⟨rfl, rfl⟩
  by_cases h1 : a < b
  · go_wp2
    go_ret
    exact ⟨ret_int (by simp [icmp, h1]), rfl⟩
  · by_cases h2 : b < a
    · go_wp2
      go_ret
      exact ⟨ret_int (by simp [icmp, h1, h2]), rfl⟩
    · go_wp2
      go_ret
      exact ⟨ret_int (by unfold icmp; rw [if_neg (by omega), if_neg (by omega)]), rfl⟩
/-- a fact lies ahead of another one -/
def lessB (n i s : Int) (g : Bool) (n' i' s' : Int) (g' : Bool) : Bool := if n ≠ n' then decide (n < n') else l3B i' s' g' i s g
theorem less_any (n i s : Int) (g : Bool) (n' i' s' : Int) (g' : Bool) (w : World) :
    Calls Tryz.prog 20 #[.agg #[.int .i64 n, .int .i64 i, .int .i64 s, .bool g], .agg #[.int .i64 n', .int .i64 i', .int .i64 s', .bool g']] w fun r w' => r = .returned (.bool (lessB n i s g n' i' s' g')) ∧ Below w.heap.size w w' := by
  go_enter Tryz.func20, Tryz.ntmps20
  by_cases h : n = n'
  · subst h
    go_wp2_with fail
    refine (l3_any n i' s' g' n i s g _).mono ?_
    rintro r w2 ⟨rfl, o1, o2, rfl⟩
    go_wp2
    go_ret
    exact ⟨ret_bool (by simp [lessB]), balloc _ (balloc _ (balloc _ (balloc _ (Below.refl _ _))))⟩
  · go_wp2
    go_ret
    exact ⟨ret_bool (by simp [lessB, h]), balloc _ (balloc _ (Below.refl _ _))⟩
/-- facts, compared -/
def fcmp (n i s : Int) (g : Bool) (n' i' s' : Int) (g' : Bool) : Int := if overB n i s g n' i' s' g' = true then 1 else if overB n' i' s' g' n i s g = true then -1 else icmp n n'
set_option maxHeartbeats 1000000 in
theorem fcmp_any (n i s : Int) (g : Bool) (n' i' s' : Int) (g' : Bool) (w : World) :
    Calls Tryz.prog 63 #[.agg #[.int .i64 n, .int .i64 i, .int .i64 s, .bool g], .agg #[.int .i64 n', .int .i64 i', .int .i64 s', .bool g']] w fun r w' => r = .returned (.int .i64 (fcmp n i s g n' i' s' g')) ∧ Below w.heap.size w w' := by
  obtain ⟨z, hz⟩ : ∃ z, Hid (fcmp n i s g n' i' s' g' = z) := ⟨_, rfl⟩
  rw [hz.out]
  have b0 := balloc (.cells #[.int .i64 n', .int .i64 i', .int .i64 s', .bool g'] 59) (balloc (.cells #[.int .i64 n, .int .i64 i, .int .i64 s, .bool g] 59) (Below.refl w.heap.size w))
  have X := (Ws.box (w := w) #[.int .i64 n, .int .i64 i, .int .i64 s, .bool g] 59).alloc (.cells #[.int .i64 n', .int .i64 i', .int .i64 s', .bool g'] 59)
  have Y := Ws.box (w := w.alloc (.cells #[.int .i64 n, .int .i64 i, .int .i64 s, .bool g] 59)) #[.int .i64 n', .int .i64 i', .int .i64 s', .bool g'] 59
  have hs : (w.alloc (.cells #[.int .i64 n, .int .i64 i, .int .i64 s, .bool g] 59)).heap.size = w.heap.size + 1 := by simp [go_sem]
  rw [hs] at Y
  go_enter Tryz.func63, Tryz.ntmps63
  go_upto_region 1 with fail
  generalize (w.alloc (.cells #[.int .i64 n, .int .i64 i, .int .i64 s, .bool g] 59)).alloc (.cells #[.int .i64 n', .int .i64 i', .int .i64 s', .bool g'] 59) = u at *
  clear hs
  have c0 := X.c 0 (.int .i64 n) rfl
  have c1 := X.c 1 (.int .i64 i) rfl
  have c2 := X.c 2 (.int .i64 s) rfl
  have c3 := X.c 3 (.bool g) rfl
  have d0 := Y.c 0 (.int .i64 n') rfl
  have d1 := Y.c 1 (.int .i64 i') rfl
  have d2 := Y.c 2 (.int .i64 s') rfl
  have d3 := Y.c 3 (.bool g') rfl
  clear X Y
  go_wp2_with fail
  refine (fover_any n i s g n' i' s' g' _).mono ?_
  rintro r u1 ⟨rfl, k1⟩
  have b1 := btrans b0 k1
  cases h1 : overB n i s g n' i' s' g'
  · have h1' : Hid (overB n i s g n' i' s' g' = false) := h1
    clear h1
    replace c0 := keep_below k1 c0
    replace c1 := keep_below k1 c1
    replace c2 := keep_below k1 c2
    replace c3 := keep_below k1 c3
    replace d0 := keep_below k1 d0
    replace d1 := keep_below k1 d1
    replace d2 := keep_below k1 d2
    replace d3 := keep_below k1 d3
    clear b0 k1
    go_wp2_with fail
    refine (fover_any n' i' s' g' n i s g _).mono ?_
    rintro r u2 ⟨rfl, k2⟩
    have b2 := btrans b1 k2
    cases h2 : overB n' i' s' g' n i s g
    · have h2' : Hid (overB n' i' s' g' n i s g = false) := h2
      clear h2
      replace c0 := keep_below k2 c0
      replace d0 := keep_below k2 d0
      clear b1 k2 c1 c2 c3 d1 d2 d3
      go_wp2_with fail
      refine (icmp_any n n' _).mono ?_
      rintro r u3 ⟨rfl, rfl⟩
      clear c0 d0
      go_wp2
      go_ret
      exact ⟨ret_int (by rw [← hz.out]; simp [fcmp, h1'.out, h2'.out]), b2⟩
    · have h2' : Hid (overB n' i' s' g' n i s g = true) := h2
      clear h2 c0 c1 c2 c3 d0 d1 d2 d3
      go_wp2
      go_ret
      exact ⟨ret_int (by rw [← hz.out]; simp [fcmp, h1'.out, h2'.out]), b2⟩
  · have h1' : Hid (overB n i s g n' i' s' g' = true) := h1
    clear h1 c0 c1 c2 c3 d0 d1 d2 d3
    go_wp2
    go_ret
    exact ⟨ret_int (by rw [← hz.out]; simp [fcmp, h1'.out]), b1⟩
set_option maxRecDepth 20000 in
theorem boClo_any (n i s : Int) (g : Bool)  (pb : Nat) (w : World) (hp : w.cell? ⟨pb, 0, none⟩ = some (.func (.func 64) #[] #[]))   (b : Bool) (hb : fokB n i s = b) :
    Calls Tryz.prog 74 #[.agg #[.int .i64 n, .int .i64 i, .int .i64 s, .bool g], .pointer (some ⟨pb, 0, none⟩)] w fun r w' => r = .returned (.bool (!b)) ∧ Below w.heap.size w w' := by
  have hb' : Hid (fokB n i s = b) := hb
  clear hb
  have b0 := balloc (.cells #[.int .i64 n, .int .i64 i, .int .i64 s, .bool g] 59) (Below.refl w.heap.size w)
  have X := Ws.box (w := w) #[.int .i64 n, .int .i64 i, .int .i64 s, .bool g] 59
  have dp := keep_alloc (.cells #[.int .i64 n, .int .i64 i, .int .i64 s, .bool g] 59) hp
  go_enter Tryz.func74, Tryz.ntmps74
  go_upto_region 1 with fail
  generalize w.alloc (.cells #[.int .i64 n, .int .i64 i, .int .i64 s, .bool g] 59) = u at *
  have ee0 := X.c 0 (.int .i64 n) rfl
  have ee1 := X.c 1 (.int .i64 i) rfl
  have ee2 := X.c 2 (.int .i64 s) rfl
  have ee3 := X.c 3 (.bool g) rfl
  clear X
  go_wp2_with fail
  refine (fok_below n i s g _).mono ?_
  rintro r w2 ⟨rfl, k2⟩
  rw [hb'.out]
  clear dp hp ee0 ee1 ee2 ee3
  go_wp2
  go_ret
  exact ⟨rfl, btrans b0 k2⟩
/-- all facts are ok -/
def boA  (len : Nat) (G : Nat → Fc) : Bool := decide (∀ k, k < len → fokB (G k).n (G k).i (G k).s = true)
set_option maxRecDepth 20000 in
set_option maxHeartbeats 1000000 in
theorem boIdx_any (a : Option Addr) (len cap : Nat) (G : Nat → Fc)  (pb : Nat) (w : World) (hG : FSl w a len G) (hm : len ≤ 1048576)  (hp : w.cell? ⟨pb, 0, none⟩ = some (.func (.func 64) #[] #[]))  :
    Calls Tryz.prog 112 #[.slice a len cap, .func (.func 74) #[] #[.pointer (some ⟨pb, 0, none⟩)]] w fun e w' => ∃ r : Int, e = .returned (.int .i64 r) ∧ ((boA  len G = true ∧ r = -1) ∨ (boA  len G = false ∧ 0 ≤ r)) ∧ Below w.heap.size w w' := by
  go_enter Tryz.func112, Tryz.ntmps112
  go_wp2
  go_loopw [5, 8] (fun _ i wr => ∃ k : Nat, k ≤ len ∧ i = .int .i64 k ∧ Below w.heap.size w wr ∧ (∀ j, j < k → fokB (G j).n (G j).i (G j).s = true)) (fun _ i _ => len - (intOf i).toNat)
  case atStart => exact ⟨0, by omega, rfl, Below.refl _ _, fun j h1 => by omega⟩
  case round =>
    obtain ⟨k, hk, rfl, hb, hall⟩ := hrel
    by_cases hlt : k < len
    · obtain ⟨b, off, rfl, hbl, hf⟩ := hG (by omega)
      obtain ⟨c0, c1, c2, c3⟩ := (hf.below hb hbl) k hlt
      have i0 : (0 : Int) ≤ (k : Int) := by omega
      have i1 : (k : Int) < (len : Int) := by omega
      have hpr := keep_below hb hp
      cases ho : fokB (G k).n (G k).i (G k).s
      · have ho' : Hid (fokB (G k).n (G k).i (G k).s = false) := ho
        clear ho
        go_wp2_with (go_at_call 74; refine (boClo_any _ _ _ _  pb _ hpr   false ho'.out).mono ?_; rintro e w1 ⟨rfl, b1⟩)
        go_ret
        refine ⟨k, rfl, .inr ⟨?_, by omega⟩, btrans hb b1⟩
        unfold boA
        refine decide_eq_false fun h => ?_
        have h1 := h k hlt
        rw [ho'.out] at h1
        cases h1
      · have ho' : Hid (fokB (G k).n (G k).i (G k).s = true) := ho
        clear ho
        go_wp2_with (go_at_call 74; refine (boClo_any _ _ _ _  pb _ hpr   true ho'.out).mono ?_; rintro e w1 ⟨rfl, b1⟩)
        go_roundw
        case rel => exact ⟨k + 1, by omega, by go_num, btrans hb b1, fun j hj => by
          by_cases e : j = k
          · subst e; exact ho'.out
          · exact hall j (by omega)⟩
        case measure => simp [intOf]; omega
    · go_wp2
      go_ret
      refine ⟨-1, rfl, .inl ⟨?_, rfl⟩, hb⟩
      unfold boA
      rw [decide_eq_true_iff]
      exact fun j hj => hall j (by omega)
theorem boCont_any (a : Option Addr) (len cap : Nat) (G : Nat → Fc)  (pb : Nat) (w : World) (hG : FSl w a len G) (hm : len ≤ 1048576)  (hp : w.cell? ⟨pb, 0, none⟩ = some (.func (.func 64) #[] #[]))  :
    Calls Tryz.prog 73 #[.slice a len cap, .func (.func 74) #[] #[.pointer (some ⟨pb, 0, none⟩)]] w fun e w' => e = .returned (.bool (!boA  len G)) ∧ Below w.heap.size w w' := by
  go_enter Tryz.func73, Tryz.ntmps73
  go_wp2_with fail
  refine (boIdx_any a len cap G  pb _ hG hm  hp ).mono ?_
  rintro e w1 ⟨r, rfl, hr, b1⟩
  rcases hr with ⟨hs, rfl⟩ | ⟨hs, hr⟩
  · have hs' : Hid (boA  len G = true) := hs
    clear hs
    go_wp2
    go_ret
    exact ⟨ret_bool (by rw [hs'.out]; rfl), b1⟩
  · have hs' : Hid (boA  len G = false) := hs
    clear hs
    go_wp2
    go_ret
    exact ⟨ret_bool (by rw [hs'.out]; simp <;> omega), b1⟩
theorem boAll_any (a : Option Addr) (len cap : Nat) (G : Nat → Fc)  (w : World) (hG : FSl w a len G) (hm : len ≤ 1048576)   :
    Calls Tryz.prog 37 #[.slice a len cap, (.func (.func 64) #[] #[])] w fun e w' => e = .returned (.bool (boA  len G)) ∧ Below w.heap.size w w' := by
  have b0 := balloc (.cells #[(.func (.func 64) #[] #[])] 57) (Below.refl w.heap.size w)
  have X := Ws.box (w := w) #[(.func (.func 64) #[] #[])] 57
  have dp := X.c 0 (.func (.func 64) #[] #[]) rfl
  go_enter Tryz.func37, Tryz.ntmps37
  go_upto_region 1 with fail
  generalize w.alloc (.cells #[(.func (.func 64) #[] #[])] 57) = u at *
  clear X
  go_wp2_with fail
  refine (boCont_any a len cap G  _ _ (hG.below b0) hm  dp ).mono ?_
  rintro e w1 ⟨rfl, b1⟩
  clear dp
  go_wp2
  go_ret
  exact ⟨ret_bool (by simp), btrans b0 b1⟩
/-- two facts, compared -/
def fcm (f g : Fc) : Int := fcmp f.n f.i f.s f.g g.n g.i g.s g.g
def fle (f g : Fc) : Bool := lessB f.n f.i f.s f.g g.n g.i g.s g.g
/-- facts in order, as the program asks -/
def bornB (len : Nat) (F : Nat → Fc) : Bool := decide (∀ k, k < len → 0 < k → fcm (F (k - 1)) (F k) < 0) && boA len F
set_option maxRecDepth 20000 in
set_option maxHeartbeats 2000000 in
theorem born_any (a : Option Addr) (len cap : Nat) (F : Nat → Fc) (w : World) (h : FSl w a len F) (hl : len ≤ 1048576) :
    Calls Tryz.prog 28 #[.slice a len cap] w fun e w' => e = .returned (.bool (bornB len F)) ∧ Below w.heap.size w w' := by
  go_enter Tryz.func28, Tryz.ntmps28
  go_wp2
  go_loopw [3] (fun i wr => ∃ k : Nat, (k = 0 ∨ k < len) ∧ i = .int .i64 ((k : Int) + 1) ∧ Below w.heap.size w wr ∧ (∀ j, j < k + 1 → 0 < j → fcm (F (j - 1)) (F j) < 0)) (fun i _ => len - (intOf i).toNat)
  case atStart => exact ⟨0, .inl rfl, rfl, Below.refl _ _, fun j hj h0 => by omega⟩
  case round =>
    obtain ⟨k, hk, rfl, hb, hall⟩ := hrel
    by_cases hlt : k + 1 < len
    · obtain ⟨b, off, rfl, hbl, hf⟩ := h (by omega)
      obtain ⟨c0, c1, c2, c3⟩ := (hf.below hb hbl) k (by omega)
      obtain ⟨d0, d1, d2, d3⟩ := (hf.below hb hbl) (k + 1) hlt
      have hw1 : IntKind.i64.wrap ((k : Int) + 1 - 1) = (k : Int) := by rw [IntKind.wrap_i64]; omega
      have i0 : (0 : Int) ≤ (k : Int) := by omega
      have i1 : (k : Int) < (len : Int) := by omega
      have i2 : (0 : Int) ≤ (k : Int) + 1 := by omega
      have i3 : (k : Int) + 1 < (len : Int) := by omega
      have i4 : IntKind.i64.wrap (k : Int) = (k : Int) := by rw [IntKind.wrap_i64]; omega
      obtain ⟨z, hz⟩ : ∃ z, Hid (fcm (F k) (F (k + 1)) = z) := ⟨_, rfl⟩
      have ct : ∀ w : World, Calls Tryz.prog 63 #[.agg #[.int .i64 (F k).n, .int .i64 (F k).i, .int .i64 (F k).s, .bool (F k).g], .agg #[.int .i64 (F (k + 1)).n, .int .i64 (F (k + 1)).i, .int .i64 (F (k + 1)).s, .bool (F (k + 1)).g]] w fun r w' => r = .returned (.int .i64 z) ∧ Below w.heap.size w w' := fun w => by
        rw [← hz.out]; exact fcmp_any _ _ _ _ _ _ _ _ w
      have hall' : Hid (z < 0 → ∀ j, j < k + 1 + 1 → 0 < j → fcm (F (j - 1)) (F j) < 0) := fun q j hj h0 => by
        by_cases e : j = k + 1
        · subst e; rw [Nat.add_sub_cancel, hz.out]; exact q
        · exact hall j (by omega) h0
      have hno : Hid (¬ z < 0 → bornB len F = false) := fun q => by
        unfold bornB
        rw [Bool.and_eq_false_iff]
        refine .inl (decide_eq_false fun hh => q ?_)
        have := hh (k + 1) hlt (by omega)
        rw [Nat.add_sub_cancel, hz.out] at this
        exact this
      clear hall
      generalize F k = x at *
      generalize F (k + 1) = y at *
      obtain ⟨n, i, s, g⟩ := x
      obtain ⟨n', i', s', g'⟩ := y
      dsimp only at c0 c1 c2 c3 d0 d1 d2 d3 ct
      clear hz
      go_wp2_with fail
      go_region_held3 (fun w' => w'.cell? ⟨b, off + k * 4, none⟩ = some (.int .i64 n) ∧ w'.cell? ⟨b, off + k * 4 + 1, none⟩ = some (.int .i64 i) ∧ w'.cell? ⟨b, off + k * 4 + 2, none⟩ = some (.int .i64 s) ∧ w'.cell? ⟨b, off + k * 4 + 3, none⟩ = some (.bool g) ∧ w'.cell? ⟨b, off + (k + 1) * 4, none⟩ = some (.int .i64 n') ∧ w'.cell? ⟨b, off + (k + 1) * 4 + 1, none⟩ = some (.int .i64 i') ∧ w'.cell? ⟨b, off + (k + 1) * 4 + 2, none⟩ = some (.int .i64 s') ∧ w'.cell? ⟨b, off + (k + 1) * 4 + 3, none⟩ = some (.bool g')) (refine ⟨?_, ?_, ?_, ?_, ?_, ?_, ?_, ?_⟩ <;> (repeat (first | with_reducible assumption | with_reducible refine keep_drew ?_ | with_reducible refine keep_below (by assumption) ?_))) (first | (go_at_call 63; refine (ct _).mono ?_; rintro e w1 ⟨rfl, b1⟩))
      clear ct c0 c1 c2 c3 d0 d1 d2 d3
      by_cases hzz : z < 0
      · have e4 := hall'.out hzz
        clear hall' hno
        go_wp2
        go_roundw
        case rel => exact ⟨k + 1, .inr hlt, by go_num, btrans hb.drew b1, e4⟩
        case measure => simp [intOf]; omega
      · have hno' : Hid (bornB len F = false) := hno.out (by omega)
        clear hall' hno
        go_wp2
        go_ret
        exact ⟨ret_bool hno'.out.symm, btrans hb.drew b1⟩
    · go_wp2_with fail
      refine (boAll_any a len cap F _ (h.below hb) hl).mono ?_
      rintro e w1 ⟨rfl, b1⟩
      go_wp2
      go_ret
      refine ⟨ret_bool ?_, btrans hb b1⟩
      unfold bornB
      rw [decide_eq_true fun j hj h0 => hall j (by omega) h0, Bool.true_and]
/-- facts in order, as the document asks -/
def bornS (len : Nat) (F : Nat → Fc) : Bool := decide (∀ k, k < len → fokB (F k).n (F k).i (F k).s = true ∧ (0 < k → fle (F (k - 1)) (F k) = true))
theorem l3_anti {i s i' s' : Int} {g g' : Bool} (h : l3B i s g i' s' g' = true) : l3B i' s' g' i s g = false := by
  unfold l3B at *
  by_cases e1 : i = i'
  · subst e1
    by_cases e2 : s = s'
    · subst e2
      revert h
      cases g <;> cases g' <;> simp
    · have e3 : ¬ s' = s := fun q => e2 q.symm
      simp [e2] at h
      simp [e3]
      omega
  · have e3 : ¬ i' = i := fun q => e1 q.symm
    simp [e1] at h
    simp [e3]
    omega
theorem fcm_less {f g : Fc} (hf : fokB f.n f.i f.s = true) (hg : fokB g.n g.i g.s = true) : fcm f g < 0 ↔ fle f g = true := by
  unfold fcm fle fcmp lessB overB
  rw [hf, hg]
  by_cases e : f.n = g.n
  · simp only [e, Bool.true_and, decide_true, ne_eq, not_true, if_false]
    cases h1 : l3B g.i g.s g.g f.i f.s f.g
    · simp [icmp]
      split <;> omega
    · simp [l3_anti h1]
  · have e' : ¬ g.n = f.n := fun h => e h.symm
    simp [e, e', icmp]
    constructor
    · intro h
      split at h
      · assumption
      · split at h <;> omega
    · intro h
      rw [if_pos h]
      omega
theorem born_same (len : Nat) (F : Nat → Fc) : bornB len F = bornS len F := by
  unfold bornB bornS boA
  by_cases h : ∀ k, k < len → fokB (F k).n (F k).i (F k).s = true
  · rw [decide_eq_true h, Bool.and_true]
    congr 1
    apply propext
    constructor
    · exact fun q k hk => ⟨h k hk, fun h0 => (fcm_less (h _ (by omega)) (h k hk)).1 (q k hk h0)⟩
    · exact fun q k hk h0 => (fcm_less (h _ (by omega)) (h k hk)).2 ((q k hk).2 h0)
  · rw [decide_eq_false h, Bool.and_false]
    symm
    exact decide_eq_false fun q => h fun k hk => (q k hk).1
end Go.Proofs.YthekjfdggfbelaaGreat
