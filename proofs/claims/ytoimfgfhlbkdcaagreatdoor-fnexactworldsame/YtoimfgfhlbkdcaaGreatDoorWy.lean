/- Lists of nodes that came in: whether they are not too great. -/
import Derived.Test.YtoimfgfhlbkdcaaGreatDoorNd24
import Derived.Test.YtoimfgfhlbkdcaaGreatDoorWk
import Derived.Test.YtoimfgfhlbkdcaaGreatDoorNz
import Derived.Test.YtoimfgfhlbkdcaaGreatDoorNd7
import Derived.Test.YtoimfgfhlbkdcaaGreatDoorNd20
import Derived.Test.YtoimfgfhlbkdcaaGreatDoorTable
import Derived.Test.YtoimfgfhlbkdcaaGreatDoorFacts
import Derived.Deep.Slices
import Derived.Deep.SlicePairs
import Derived.ChangeSame
import Derived.Lib.SmallJoins
import Derived.Test.YtoimfgfhlbkdcaaGreatDoorItems
import Derived.Deep.Strs
namespace Go.Proofs.YtoimfgfhlbkdcaaGreatDoor
open Go.ChangeShapes Go.WideShapes Go.ChangeAt Go.RowKit
attribute [local go_sem ↓] Go.wp_at_zero Go.wp_at_succ
/-- a node in memory: its cells, and what its lists hold -/
structure Rn where
  me : Int
  up : Bool
  gone : Bool
  gate : Bool
  inc : Int
  now : Int
  sq : Int
  turn : Int
  ta : Option Addr
  tl : Nat
  tc : Nat
  ca : Option Addr
  cl : Nat
  cc : Nat
  pn : Int
  ps : Int
  pq : Int
  pa : Bool
  da : Option Addr
  dl : Nat
  dc : Nat
  cx : Int
  cy : Int
  ch : Int
  ce : Int
  pla : Option Addr
  pll : Nat
  plc : Nat
  oa : Option Addr
  ol : Nat
  oc : Nat
  F : Nat → Fc
  GI : Nat → It
  GD : Nat → Dt
  GP : Nat → Pl
  GO : Nat → Fg
/-- its cells -/
def Rn.cells (r : Rn) : Array Value := #[.int .i64 r.me, .bool r.up, .bool r.gone, .bool r.gate, .int .i64 r.inc, .int .i64 r.now, .int .i64 r.sq, .int .i64 r.turn, .slice r.ta r.tl r.tc, .slice r.ca r.cl r.cc, .int .i64 r.pn, .int .i64 r.ps, .int .i64 r.pq, .bool r.pa, .slice r.da r.dl r.dc, .int .i64 r.cx, .int .i64 r.cy, .int .i64 r.ch, .int .i64 r.ce, .slice r.pla r.pll r.plc, .slice r.oa r.ol r.oc]
def Rn.Raw (w : World) (r : Rn) : Prop := NdRaw w r.ta r.tl r.tc r.F r.ca r.cl r.cc r.GI r.da r.dl r.GD r.pla r.pll r.GP r.oa r.ol r.GO
def Rn.Max (r : Rn) : Prop := NdMax r.tl r.cl r.dl r.GD r.pll r.GP r.ol r.GO
/-- nodes lie in a row -/
def NSl (w : World) (a : Option Addr) (len : Nat) (R : Nat → Rn) : Prop :=
  0 < len → ∃ b off, a = some ⟨b, off, none⟩ ∧ b < w.heap.size ∧ ∀ k, k < len → w.rangeAt b (off + k * 21) (R k).cells.toList
theorem NSl.below {w w' : World} {a : Option Addr} {len : Nat} {R : Nat → Rn} (h : NSl w a len R) (hb : Below w.heap.size w w') : NSl w' a len R := fun hl => by
  obtain ⟨b, off, e, hlt, hr⟩ := h hl
  exact ⟨b, off, e, by have := hb.size; omega, fun k hk j x hx => keep_below hb (hr k hk j x hx)⟩
theorem sub_lit (a b : Int) (h0 : 0 ≤ a) (h1 : a ≤ 1048576) (h2 : 0 ≤ b) (h3 : b ≤ 9223372036854775807) : IntKind.i64.wrap (a - b) = a - b := by rw [IntKind.wrap_i64]; omega
theorem szNode_lit (r : Rn) (z0 : Int) (hz0 : 0 ≤ z0) (hz1 : z0 ≤ 1048576) (w : World) (h : r.Raw w) :
    Calls Tryz.prog 39 #[.agg r.cells, .int .i64 z0] w fun e w' => (∃ z : Int, e = .returned (.int .i64 z) ∧ (z = -1 ∨ ((0 ≤ z ∧ z ≤ 1048576) ∧ r.Max))) ∧ Below w.heap.size w w' :=
  szNode_any r.me r.up r.gone r.gate r.inc r.now r.sq r.turn r.ta r.tl r.tc r.ca r.cl r.cc r.pn r.ps r.pq r.pa r.da r.dl r.dc r.cx r.cy r.ch r.ce r.pla r.pll r.plc r.oa r.ol r.oc r.F r.GI r.GD r.GP r.GO z0 hz0 hz1 w h
def s12_7 : List Stp := [⟨some 18, .move (.tmp 0), 22, none, 0⟩, ⟨some 19, .move (.tmp 5), 3, none, 0⟩, ⟨some 20, .indexAddr 22 (.tmp 18) (.tmp 19), 0, none, 0⟩, ⟨some 21, .load 88 (.tmp 20), 88, none, 0⟩, ⟨some 22, .move (.tmp 1), 3, none, 0⟩, ⟨some 23, .call { callee := .value (.func 39), args := #[.tmp 21, .tmp 22], argTypes := #[88, 3] }, 3, none, 1⟩, ⟨some 1, .assign (.tmp 23), 3, none, 0⟩]
def t12_7 : List (Nat × Nat) := [(0, 0), (1, 0), (2, 0), (3, 0), (4, 0), (5, 1), (6, 0)]
set_option maxRecDepth 20000 in
set_option maxHeartbeats 4000000 in
theorem szNodeS_any (a : Option Addr) (len cap : Nat) (R : Nat → Rn) (z0 : Int) (hz0 : 0 ≤ z0) (hz1 : z0 ≤ 1048576) (w : World) (h : NSl w a len R) (hr : ∀ k, k < len → (R k).Raw w) (hm : len ≤ maxLen) :
    Calls Tryz.prog 12 #[.slice a len cap, .int .i64 z0] w fun e w' => (∃ z : Int, e = .returned (.int .i64 z) ∧ (z = -1 ∨ ((0 ≤ z ∧ z ≤ 1048576) ∧ len ≤ 1048576 ∧ ∀ k, k < len → (R k).Max))) ∧ Below w.heap.size w w' := by
  have hm' := hm
  unfold maxLen at hm'
  go_enter Tryz.func12, Tryz.ntmps12
  by_cases hlt0 : z0 < (len : Int)
  · have e1 : z0 - (len : Int) < 0 := by omega
    go_wp2
    all_goals (go_ret; exact ⟨⟨-1, rfl, .inl rfl⟩, Below.refl _ _⟩)
  have e1 : ¬ z0 - (len : Int) < 0 := by omega
  have e9 : IntKind.i64.wrap (z0 - (len : Int)) = z0 - (len : Int) := by rw [IntKind.wrap_i64]; omega
  have hl : len ≤ 1048576 := by omega
  have e2 : Hid (0 ≤ z0 - (len : Int) ∧ z0 - (len : Int) ≤ 1048576) := ⟨by omega, by omega⟩
  go_wp2
  generalize z0 - (len : Int) = z1 at *
  go_loopw [1, 5] (fun l i wr => ∃ (k : Nat) (yl : Int), k ≤ len ∧ i = .int .i64 k ∧ l = .int .i64 yl ∧ 0 ≤ yl ∧ yl ≤ 1048576 ∧ Below w.heap.size w wr ∧ (∀ j, j < k → (R j).Max)) (fun _ i _ => len - (intOf i).toNat)
  case atStart => exact ⟨0, z1, by omega, rfl, rfl, e2.out.1, e2.out.2, Below.refl _ _, fun j hj => by omega⟩
  case round =>
    obtain ⟨k, yl, hk, rfl, rfl, hy0, hy1, hbb, hall⟩ := hrel
    by_cases hlt : k < len
    · obtain ⟨b, off, rfl, hbl, hf⟩ := (h.below hbb) (by omega)
      have hcc := hf k hlt
      have hraw := (hr k hlt).below hbb
      have i0 : (0 : Int) ≤ (k : Int) := by omega
      have i1 : (k : Int) < (len : Int) := by omega
      have hyes : Hid ((R k).Max → ∀ j, j < k + 1 → (R j).Max) := fun e j hj => by
        by_cases ej : j = k
        · subst ej; exact e
        · exact hall j (by omega)
      clear hall hlt
      obtain ⟨x, hx⟩ : ∃ x, Hid (R k = x) := ⟨_, rfl⟩
      rw [hx.out] at hcc hraw hyes
      clear hx
      have ct := fun w h => szNode_lit x yl hy0 hy1 w h
      obtain ⟨me, up, gone, gate, inc, now, sq, turn, ta, tl, tc, ca, cl, cc, pn, ps, pq, pa, da, dl, dc, cx, cy, ch, ce, pla, pll, plc, oa, ol, oc, F, GI, GD, GP, GO⟩ := x
      dsimp only [Rn.cells, Rn.Raw, Rn.Max] at hcc hraw hyes ct
      go_upto_region 7 with fail
      refine wp_region_q0 s12_7 t12_7 (fun hbq => ?_)
      iterate 3 refine qY ?_
      refine qR ?_
      refine qY ?_
      refine qC (fun K hK => ?_)
      go_simp
      refine (ct _ (NdRaw.below hraw hbq)).mono ?_; rintro r w1 ⟨⟨z2, rfl, hz⟩, k1⟩
      go_wp2_with fail
      refine hK.out _ _ (btrans hbq k1) (.inl ?_)
      clear hK K
      replace hbq := btrans hbq k1
      clear k1
      try simp only [putQ]
      refine qY ?_
      refine qE ?_
      have hbb1 := btrans hbb hbq
      rcases hz with rfl | ⟨⟨q0, q1⟩, q2⟩
      · go_wp2
        go_ret
        exact ⟨⟨-1, rfl, .inl rfl⟩, hbb1⟩
      · have e4 := hyes.out q2
        have e3 : ¬ z2 < 0 := by omega
        clear hyes q2 hraw
        go_wp2
        go_roundw
        case rel => exact ⟨k + 1, z2, by omega, by go_num, rfl, q0, q1, hbb1, e4⟩
        case measure => simp [intOf]; omega
    · go_wp2
      go_ret
      exact ⟨⟨yl, rfl, .inr ⟨⟨hy0, hy1⟩, hl, fun j hj => hall j (by omega)⟩⟩, hbb⟩
end Go.Proofs.YtoimfgfhlbkdcaaGreatDoor
/- Lists of nodes, copied. -/
namespace Go.Proofs.YtoimfgfhlbkdcaaGreatDoor
open Go.ChangeShapes Go.WideShapes Go.ChangeAt Go.RowKit
theorem dL_congr {n : Nat} {G G' : Nat → Dt} (h : ∀ j, DtEq (G' j) (G j)) : dL n G' = dL n G := by
  unfold dL
  refine List.map_congr_left fun k _ => ?_
  obtain ⟨h1, h2, h3, h4, h5⟩ := h k
  rw [h1, h2, h3, h4, h5]
theorem pL_congr {n : Nat} {G G' : Nat → Pl} (h : ∀ j, PlEq (G' j) (G j)) : pL n G' = pL n G := by
  unfold pL
  refine List.map_congr_left fun k _ => ?_
  obtain ⟨h1, h2, h3, h4, h5, h6, h7⟩ := h k
  rw [h1, h2, h3, h4, h5, h6, h7]
theorem oL_congr {n : Nat} {G G' : Nat → Fg} (h : ∀ j, FgEq (G' j) (G j)) : oL n G' = oL n G := by
  unfold oL
  refine List.map_congr_left fun k _ => ?_
  obtain ⟨h1, h2, h3⟩ := h k
  rw [h1, h2, h3]
theorem NdRows.but {w w' : World} {lo b1 b2 b3 b4 b5 : Nat} {tl : Nat} {F : Nat → Fc} {cl : Nat} {GI : Nat → It} {dl : Nat} {GD : Nat → Dt} {pll : Nat} {GP : Nat → Pl} {ol : Nat} {GO : Nat → Fg} {B : Nat} (h : NdRows w lo b1 b2 b3 b4 b5 tl F cl GI dl GD pll GP ol GO) (k : But2 B B w w') (hB : B < lo) : NdRows w' lo b1 b2 b3 b4 b5 tl F cl GI dl GD pll GP ol GO := by
  have q1 := h.lo1
  have q2 := h.o12
  have q3 := h.o23
  have q4 := h.o34
  have q5 := h.o45
  exact ⟨row_but h.f k (by omega) (by omega), row_but h.i k (by omega) (by omega), row_but h.d k (by omega) (by omega), h.dO.but k (by omega) (by omega), row_but h.p k (by omega) (by omega), h.pO.but k (by omega) (by omega), row_but h.o k (by omega) (by omega), h.oO.but k (by omega) (by omega), h.lo1, h.o12, h.o23, h.o34, h.m34, h.o45, h.m45⟩
/-- cells of a copy of a node -/
def Cn (w : World) (lo : Nat) (r : Rn) (C : Array Value) : Prop :=
  ∃ b1 b2 b3 b4 b5 GD GP GO, C = #[.int .i64 r.me, .bool r.up, .bool r.gone, .bool r.gate, .int .i64 r.inc, .int .i64 r.now, .int .i64 r.sq, .int .i64 r.turn, .slice (some ⟨b1, 0, none⟩) r.tl r.tl, .slice (some ⟨b2, 0, none⟩) r.cl r.cl, .int .i64 r.pn, .int .i64 r.ps, .int .i64 r.pq, .bool r.pa, .slice (some ⟨b3, 0, none⟩) r.dl r.dl, .int .i64 r.cx, .int .i64 r.cy, .int .i64 r.ch, .int .i64 r.ce, .slice (some ⟨b4, 0, none⟩) r.pll r.pll, .slice (some ⟨b5, 0, none⟩) r.ol r.ol] ∧ NdRows w lo b1 b2 b3 b4 b5 r.tl r.F r.cl r.GI r.dl GD r.pll GP r.ol GO ∧ (∀ j, DtEq (GD j) (r.GD j)) ∧ (∀ j, PlEq (GP j) (r.GP j)) ∧ (∀ j, FgEq (GO j) (r.GO j))
theorem Cn.below {w w' : World} {lo : Nat} {r : Rn} {C : Array Value} (h : Cn w lo r C) (hb : Below w.heap.size w w') : Cn w' lo r C := by
  obtain ⟨b1, b2, b3, b4, b5, GD, GP, GO, e, hR, h1, h2, h3⟩ := h
  exact ⟨b1, b2, b3, b4, b5, GD, GP, GO, e, hR.below hb, h1, h2, h3⟩
theorem Cn.but {w w' : World} {lo B : Nat} {r : Rn} {C : Array Value} (h : Cn w lo r C) (k : But2 B B w w') (hB : B < lo) : Cn w' lo r C := by
  obtain ⟨b1, b2, b3, b4, b5, GD, GP, GO, e, hR, h1, h2, h3⟩ := h
  exact ⟨b1, b2, b3, b4, b5, GD, GP, GO, e, hR.but k hB, h1, h2, h3⟩
theorem Cn.size {w : World} {lo : Nat} {r : Rn} {C : Array Value} (h : Cn w lo r C) : C.size = 21 := by
  obtain ⟨b1, b2, b3, b4, b5, GD, GP, GO, rfl, _⟩ := h
  rfl
theorem Cn.one {w : World} {lo : Nat} {r : Rn} {C : Array Value} (h : Cn w lo r C) : C.all (·.oneCell') = true := by
  obtain ⟨b1, b2, b3, b4, b5, GD, GP, GO, rfl, _⟩ := h
  kernel_rfl
theorem Cn.mono {w : World} {lo lo' : Nat} {r : Rn} {C : Array Value} (h : Cn w lo r C) (hl : lo' ≤ lo) : Cn w lo' r C := by
  obtain ⟨b1, b2, b3, b4, b5, GD, GP, GO, e, hR, h1, h2, h3⟩ := h
  exact ⟨b1, b2, b3, b4, b5, GD, GP, GO, e, ⟨hR.f, hR.i, hR.d, hR.dO, hR.p, hR.pO, hR.o, hR.oO, Nat.le_trans hl hR.lo1, hR.o12, hR.o23, hR.o34, hR.m34, hR.o45, hR.m45⟩, h1, h2, h3⟩
theorem toNode_lit (r : Rn) (w : World) (h : r.Raw w) (m : r.Max) :
    Calls Tryz.prog 47 #[.agg r.cells] w fun e w' => ∃ C, e = .returned (.agg C) ∧ Cn w' w.heap.size r C ∧ Below w.heap.size w w' := by
  have mi := NdRaw.toIn h m
  refine (toNodeM_any r.me r.up r.gone r.gate r.inc r.now r.sq r.turn r.ta r.tl r.tc r.ca r.cl r.cc r.pn r.ps r.pq r.pa r.da r.dl r.dc r.cx r.cy r.ch r.ce r.pla r.pll r.plc r.oa r.ol r.oc r.F r.GI r.GD r.GP r.GO w mi h.cf h.ci (fun j hj => (h.db j hj).2.2) (fun j hj => (h.pb j hj).2.2) (fun j hj => (h.ob j hj).2.2)).mono ?_
  rintro e w2 ⟨f1, f2, f3, f4, f5, fD, fP, fO, rfl, fN, fd, fp, fo, k⟩
  exact ⟨_, rfl, ⟨f1, f2, f3, f4, f5, fD, fP, fO, rfl, fN, fd, fp, fo⟩, k⟩
/-- as data -/
def Rn.nod (r : Rn) : Nod := nodOf r.me r.up r.gone r.gate r.inc r.now r.sq r.turn r.tl r.F r.cl r.GI r.pn r.ps r.pq r.pa r.dl r.GD r.cx r.cy r.ch r.ce r.pll r.GP r.ol r.GO
/-- a node's cells -/
def ndC (n : Nod) (L : Loc) : Array Value := #[.int .i64 n.me, .bool n.up, .bool n.gone, .bool n.gate, .int .i64 n.inc, .int .i64 n.now, .int .i64 n.sq, .int .i64 n.turn, .slice L.ta n.T.length L.tc, .slice L.ca n.C.length L.cc, .int .i64 n.pn, .int .i64 n.ps, .int .i64 n.pq, .bool n.pa, .slice L.da n.D.length L.dc, .int .i64 n.cx, .int .i64 n.cy, .int .i64 n.ch, .int .i64 n.ce, .slice L.pla n.P.length L.plc, .slice L.oa n.O.length L.oc]
/-- nodes in a row, as data -/
def NdL (w : World) (a : Option Addr) (len : Nat) (nd : Nat → Nod) : Prop :=
  0 < len → ∃ b off, a = some ⟨b, off, none⟩ ∧ b < w.heap.size ∧ ∀ k, k < len → ∃ L, w.rangeAt b (off + k * 21) (ndC (nd k) L).toList ∧ NdR w (nd k) L
theorem NdL.below {w w' : World} {a : Option Addr} {len : Nat} {nd : Nat → Nod} (h : NdL w a len nd) (hb : Below w.heap.size w w') : NdL w' a len nd := fun hl => by
  obtain ⟨b, off, e, hlt, hr⟩ := h hl
  refine ⟨b, off, e, by have := hb.size; omega, fun k hk => ?_⟩
  obtain ⟨L, h1, h2⟩ := hr k hk
  exact ⟨L, fun j x hx => keep_below hb (h1 j x hx), h2.below hb⟩
theorem Cn.nod {w : World} {lo : Nat} {r : Rn} {C : Array Value} (h : Cn w lo r C) (m : r.Max) : ∃ L, C = ndC r.nod L ∧ NdR w r.nod L := by
  obtain ⟨b1, b2, b3, b4, b5, GD, GP, GO, rfl, hR, h1, h2, h3⟩ := h
  have fI := hR.toIn h1 h2 h3 (fun j hj => m.db j hj) (fun j hj => m.pb j hj) (fun j hj => m.ob j hj) m.f m.i m.d m.p m.o
  have cn := canon r.me r.up r.gone r.gate r.inc r.now r.sq r.turn _ r.tl r.tl _ r.cl r.cl r.pn r.ps r.pq r.pa _ r.dl r.dl r.cx r.cy r.ch r.ce _ r.pll r.pll _ r.ol r.ol r.F r.GI GD GP GO fI
  have en : nodOf r.me r.up r.gone r.gate r.inc r.now r.sq r.turn r.tl r.F r.cl r.GI r.pn r.ps r.pq r.pa r.dl GD r.cx r.cy r.ch r.ce r.pll GP r.ol GO = r.nod := by
    unfold Rn.nod nodOf
    rw [dL_congr h1, pL_congr h2, oL_congr h3]
  rw [en] at cn
  refine ⟨_, ?_, cn⟩
  unfold ndC Rn.nod nodOf locOf
  dsimp only
  have l1 : (seqF r.F r.tl).length = r.tl := seqF_len r.F r.tl
  have l2 : (cL r.cl r.GI).length = r.cl := by simp [cL]
  have l3 : (dL r.dl r.GD).length = r.dl := by simp [dL]
  have l4 : (pL r.pll r.GP).length = r.pll := by simp [pL]
  have l5 : (oL r.ol r.GO).length = r.ol := by simp [oL]
  rw [l1, l2, l3, l4, l5]
/-- nodes of one's own in a row -/
def NdO (w : World) (lo b len : Nat) (R : Nat → Rn) (C : Nat → Array Value) : Prop :=
  lo ≤ b ∧ b < w.heap.size ∧ ∀ k, k < len → w.rangeAt b (k * 21) (C k).toList ∧ Cn w lo (R k) (C k)
theorem NdO.below {w w' : World} {lo b len : Nat} {R : Nat → Rn} {C : Nat → Array Value} (h : NdO w lo b len R C) (hb : Below w.heap.size w w') : NdO w' lo b len R C :=
  ⟨h.1, by have := hb.size; have := h.2.1; omega, fun k hk => ⟨fun i v hv => keep_below hb ((h.2.2 k hk).1 i v hv), (h.2.2 k hk).2.below hb⟩⟩
theorem NdO.but {w w' : World} {lo b len B : Nat} {R : Nat → Rn} {C : Nat → Array Value} (h : NdO w lo b len R C) (k : But2 B B w w') (hB : B < lo) : NdO w' lo b len R C := by
  have h1 := h.1
  have h2 := h.2.1
  have h3 := k.size
  exact ⟨h1, by omega, fun j hj => ⟨fun i v hv => k.cell h2 (by omega) (by omega) ((h.2.2 j hj).1 i v hv), (h.2.2 j hj).2.but k hB⟩⟩
theorem NdO.toL {w : World} {lo b len : Nat} {R : Nat → Rn} {C : Nat → Array Value} (h : NdO w lo b len R C) (m : ∀ k, k < len → (R k).Max) : NdL w (some ⟨b, 0, none⟩) len (fun k => (R k).nod) := fun _ => by
  refine ⟨b, 0, rfl, h.2.1, fun j hj => ?_⟩
  obtain ⟨L, e, hL⟩ := (h.2.2 j hj).2.nod (m j hj)
  refine ⟨L, ?_, hL⟩
  rw [← e, Nat.zero_add]
  exact (h.2.2 j hj).1
theorem size86 : (Tryz.prog.info? 88).map (·.size) = some 21 := by kernel_rfl
theorem size51 : (Tryz.prog.info? 52).map (·.size) = some 21 := by kernel_rfl
theorem nrun_make (n : Nat) (hn : n ≤ 1048576) (w : World) :
    (Instr.makeSlice 30 (.int .i64 (n : Int)) (.int .i64 (n : Int))).run Tryz.prog w = .ok (.slice (some ⟨w.heap.size, 0, none⟩) n n) (w.alloc (.cells (madeCells #[.int .i64 0, .bool false, .bool false, .bool false, .int .i64 0, .int .i64 0, .int .i64 0, .int .i64 0, .slice none 0 0, .slice none 0 0, .int .i64 0, .int .i64 0, .int .i64 0, .bool false, .slice none 0 0, .int .i64 0, .int .i64 0, .int .i64 0, .int .i64 0, .slice none 0 0, .slice none 0 0] (n * 21)) 52)) := by
  have hinf : (Tryz.prog.info? 52).map (fun i => (i.zero, i.size, i.bytes)) = some (some (.agg #[.int .i64 0, .bool false, .bool false, .bool false, .int .i64 0, .int .i64 0, .int .i64 0, .int .i64 0, .slice none 0 0, .slice none 0 0, .int .i64 0, .int .i64 0, .int .i64 0, .bool false, .slice none 0 0, .int .i64 0, .int .i64 0, .int .i64 0, .int .i64 0, .slice none 0 0, .slice none 0 0]), 21, 232) := by kernel_rfl
  obtain ⟨i, hi, hzz⟩ := Option.map_eq_some_iff.1 hinf
  simp only [Prod.mk.injEq] at hzz
  obtain ⟨hz, hs, hb⟩ := hzz
  have hr := run_make (P := Tryz.prog) w 30 52 i _ Tryz.underlying30 hi hz .i64 .i64 n n (by omega) (Int.le_refl _) (by rw [hb]; omega) (by omega)
  rw [hr, hs, Int.toNat_natCast]
  rfl
theorem made_there (n m : Nat) (C : Array Value) (t : TypeId) (w : World) : (w.alloc (.cells (madeCells C (n * m)) t)).there w.heap.size 0 (n * m) := fun j hj => by
  have hh := heap_alloc_new w (.cells (madeCells C (n * m)) t)
  refine ⟨?_, ?_⟩
  · rw [cell_of_row _ _ _ _ _ _ hh]
    simp [madeCells, hj]
  · unfold World.frozen?
    dsimp only
    rw [hh]
    simp
theorem there_part {w : World} {b n m k : Nat} (h : w.there b 0 (n * m)) (hk : k < n) : w.there b (k * m) m := fun j hj => by
  have h1 : k * m + j < n * m := by
    have : (k + 1) * m ≤ n * m := Nat.mul_le_mul_right m hk
    rw [Nat.add_mul, Nat.one_mul] at this
    omega
  have := h (k * m + j) h1
  rwa [Nat.zero_add] at this
theorem there_below {w w' : World} {b o n : Nat} (h : w.there b o n) (hb : Below w.heap.size w w') (hlt : b < w.heap.size) : w'.there b o n := fun j hj => by
  obtain ⟨h1, h2⟩ := h j hj
  have e := hb.block b hlt
  refine ⟨?_, ?_⟩
  · rw [World.cell?_of_block (a := ⟨b, o + j, none⟩) e]; exact h1
  · rw [← h2]
    unfold World.frozen?
    simp only [e]
set_option maxRecDepth 20000 in
set_option maxHeartbeats 4000000 in
theorem toNodeS_any (a : Option Addr) (len cap : Nat) (R : Nat → Rn) (w : World) (h : NSl w a len R) (hr : ∀ k, k < len → (R k).Raw w) (hm : ∀ k, k < len → (R k).Max) (hl : len ≤ 1048576) :
    Calls Tryz.prog 20 #[.slice a len cap] w fun e w' => ∃ b C, e = .returned (.slice (some ⟨b, 0, none⟩) len len) ∧ NdO w' w.heap.size b len R C ∧ Below w.heap.size w w' := by
  have hmk := nrun_make len hl
  have hth0 := made_there len 21 #[.int .i64 0, .bool false, .bool false, .bool false, .int .i64 0, .int .i64 0, .int .i64 0, .int .i64 0, .slice none 0 0, .slice none 0 0, .int .i64 0, .int .i64 0, .int .i64 0, .bool false, .slice none 0 0, .int .i64 0, .int .i64 0, .int .i64 0, .int .i64 0, .slice none 0 0, .slice none 0 0] 52 w
  go_enter Tryz.func20, Tryz.ntmps20
  go_wp2
  go_loopw [4] (fun i wr => ∃ (k : Nat) (C : Nat → Array Value), k ≤ len ∧ i = .int .i64 k ∧ Below w.heap.size w wr ∧ w.heap.size < wr.heap.size ∧ wr.there w.heap.size 0 (len * 21) ∧ (∀ j, j < k → wr.rangeAt w.heap.size (j * 21) (C j).toList ∧ Cn wr (w.heap.size + 1) (R j) (C j))) (fun i _ => len - (intOf i).toNat)
  case atStart => exact ⟨0, fun _ => #[], Nat.zero_le _, rfl, balloc _ (Below.refl _ _), by simp [go_sem], hth0, fun j hj => by omega⟩
  case round =>
    obtain ⟨k, C, hk, rfl, hb, hKr, hth, hall⟩ := hrel
    clear hmk hth0
    by_cases hlt : k < len
    · obtain ⟨b, off, rfl, hbl, hf⟩ := (h.below hb) (by omega)
      have hcc := hf k hlt
      have hraw := NdRaw.below (hr k hlt) hb
      have ct := fun w h => toNode_lit (R k) w h (hm k hlt)
      have hsz : (R k).cells.toList.length = 21 := rfl
      obtain ⟨x, hx⟩ : ∃ x, Hid ((R k).cells = x) := ⟨_, rfl⟩
      rw [hx.out] at hcc ct hsz
      have i0 : (0 : Int) ≤ (k : Int) := by omega
      have i1 : (k : Int) < (len : Int) := by omega
      go_upto_region 5 with fail
      go_wp2_with (first | (refine wpList_load_mid rfl 88 _ rfl b (off + k * 21) rfl x.toList _ hcc Tryz.underlying88 rfl (by rw [hsz]; exact size86) ?_))
      try simp only [Array.toArray_toList]
      refine (ct _ hraw).mono ?_
      rintro e w1 ⟨D, rfl, hD, b1⟩
      have hth1 := there_below hth b1 hKr
      have hthk := there_part hth1 hlt
      have hb1 := btrans hb b1
      have hK1 : w.heap.size < w1.heap.size := by have := b1.size; omega
      have hlo : w.heap.size + 1 ≤ wr.heap.size := hKr
      have hD1 := hD.mono hlo
      have hs1 := hD.size
      have ho1 := hD.one
      have hall1 : ∀ j, j < k → w1.rangeAt w.heap.size (j * 21) (C j).toList ∧ Cn w1 (w.heap.size + 1) (R j) (C j) := fun j hj => ⟨fun i v hv => keep_below b1 ((hall j hj).1 i v hv), (hall j hj).2.below b1⟩
      clear hall hcc ct hraw hD b1 hth hb
      go_wp2_with (first | (refine wpList_store_mid rfl 52 _ _ rfl w.heap.size (k * 21) D rfl rfl (by rw [hs1]; exact hthk) (by rw [hs1]; exact size51) ho1 ?_))
      have hbut : But2 w.heap.size w.heap.size w1 (w1.setCells w.heap.size (k * 21) D.toList) := But2.cells _
      have hbe : Below w.heap.size w (w1.setCells w.heap.size (k * 21) D.toList) := below_cells _ _ _ _ (Nat.le_refl _) hb1
      have hsame := World.rangeAt_setCells_same w1 w.heap.size (k * 21) D.toList (by rw [Array.length_toList, hs1]; exact hthk)
      have hth2 := World.there_setCells hth1 w.heap.size (k * 21) D.toList
      have hap : ∀ j, j < k → (w1.setCells w.heap.size (k * 21) D.toList).rangeAt w.heap.size (j * 21) (C j).toList := fun j hj => World.rangeAt_setCells_apart (hall1 j hj).1 _ _ _ (.inr (.inl (by
        rw [Array.length_toList, (hall1 j hj).2.size]; omega)))
      have hKs : w.heap.size < (w1.setCells w.heap.size (k * 21) D.toList).heap.size := Nat.lt_of_lt_of_le hK1 hbut.size
      have hcn : ∀ j, j < k → Cn (w1.setCells w.heap.size (k * 21) D.toList) (w.heap.size + 1) (R j) (C j) := fun j hj => (hall1 j hj).2.but hbut (by omega)
      have hcD := hD1.but hbut (by omega)
      clear hall1 hbut hD1 hb1 hth1 hthk
      generalize w1.setCells w.heap.size (k * 21) D.toList = w2 at *
      go_wp2
      go_roundw
      case rel =>
        refine ⟨k + 1, fun j => if j = k then D else C j, by omega, by go_num, hbe, hKs, hth2, fun j hj => ?_⟩
        by_cases e : j = k
        · subst e
          simp only [if_true]
          exact ⟨hsame, hcD⟩
        · simp only [e, if_false]
          exact ⟨hap j (by omega), hcn j (by omega)⟩
      case measure => simp [intOf]; omega
    · go_wp2
      go_ret
      have e : k = len := by omega
      subst e
      exact ⟨w.heap.size, C, rfl, ⟨Nat.le_refl _, hKr, fun j hj => ⟨(hall j hj).1, (hall j hj).2.mono (by omega)⟩⟩, hb⟩
end Go.Proofs.YtoimfgfhlbkdcaaGreatDoor
/- Lists of nodes: whether they are equal, whether they are ok. -/
namespace Go.Proofs.YtoimfgfhlbkdcaaGreatDoor
open Go.ChangeShapes Go.WideShapes Go.ChangeAt Go.RowKit
def s29_6 : List Stp := [⟨some 17, .move (.tmp 0), 30, none, 0⟩, ⟨some 18, .move (.tmp 5), 3, none, 0⟩, ⟨some 19, .indexAddr 30 (.tmp 17) (.tmp 18), 0, none, 0⟩, ⟨some 20, .load 52 (.tmp 19), 52, none, 0⟩, ⟨some 21, .move (.tmp 1), 30, none, 0⟩, ⟨some 22, .move (.tmp 5), 3, none, 0⟩, ⟨some 23, .indexAddr 30 (.tmp 21) (.tmp 22), 0, none, 0⟩, ⟨some 24, .load 52 (.tmp 23), 52, none, 0⟩, ⟨some 25, .call { callee := .value (.func 61), args := #[.tmp 20, .tmp 24], argTypes := #[52, 52] }, 4, none, 1⟩, ⟨some 26, .unOp .not 4 (.tmp 25), 4, none, 0⟩]
def t29_6 : List (Nat × Nat) := [(0, 0), (1, 0), (2, 0), (3, 0), (4, 0), (5, 0), (6, 0), (7, 0), (8, 1), (9, 0)]
set_option maxRecDepth 20000 in
set_option maxHeartbeats 4000000 in
theorem eqNodeS_same (a a' : Option Addr) (len cap cap' : Nat) (nd : Nat → Nod) (w : World) (h : NdL w a len nd) (h' : NdL w a' len nd) (hl : len ≤ 1048576) :
    Calls Tryz.prog 29 #[.slice a len cap, .slice a' len cap'] w fun e w' => e = .returned (.bool true) ∧ Below w.heap.size w w' := by
  go_enter Tryz.func29, Tryz.ntmps29
  go_wp2
  go_loopw [5] (fun i wr => ∃ k : Nat, k ≤ len ∧ i = .int .i64 k ∧ Below w.heap.size w wr) (fun i _ => len - (intOf i).toNat)
  case atStart => exact ⟨0, Nat.zero_le _, rfl, Below.refl _ _⟩
  case round =>
    obtain ⟨k, hk, rfl, hb⟩ := hrel
    by_cases hlt : k < len
    · obtain ⟨b, off, rfl, _, hf⟩ := (h.below hb) (by omega)
      obtain ⟨L, c1, c2⟩ := hf k hlt
      obtain ⟨b', off', rfl, _, hf'⟩ := (h'.below hb) (by omega)
      obtain ⟨L', d1, d2⟩ := hf' k hlt
      have i0 : (0 : Int) ≤ (k : Int) := by omega
      have i1 : (k : Int) < (len : Int) := by omega
      generalize nd k = n at *
      have ct : ∀ w1, Below wr.heap.size wr w1 → Calls Tryz.prog 61 #[.agg (ndC n L), .agg (ndC n L')] w1 fun r w' => r = .returned (.bool true) ∧ Below w1.heap.size w1 w' := fun w1 q => eqNod n L L' w1 (c2.below q) (d2.below q)
      clear c2 d2 hf hf'
      go_upto_region 6 with fail
      refine wp_region_q s29_6 t29_6 (fun hbq => ?_)
      iterate 3 refine qY ?_
      refine qR ?_
      iterate 3 refine qY ?_
      refine qR ?_
      refine qC (fun K hK => ?_)
      go_simp
      refine (ct _ hbq).mono ?_; rintro r w1 ⟨rfl, k1⟩
      go_wp2_with fail
      refine hK.out _ _ (btrans hbq k1) (.inl ?_)
      clear hK K
      replace hbq := btrans hbq k1
      clear k1
      try simp only [putQ]
      refine qY ?_
      refine qE ?_
      have hb1 := btrans hb hbq
      clear ct c1 d1
      go_wp2
      go_roundw
      case rel => exact ⟨k + 1, by omega, by go_num, hb1⟩
      case measure => simp [intOf]; omega
    · go_wp2
      go_ret
      exact ⟨rfl, hb⟩
/-- where a gate may be -/
def gtB (k : Nat) : Bool := decide (k % 4 ≠ 3)
theorem rem4 (k : Nat) : (k : Int).tmod 4 = ((k % 4 : Nat) : Int) := by
  rw [Int.tmod_eq_emod_of_nonneg (by omega)]
  omega
theorem gateI_any (k : Nat) (w : World) : Calls Tryz.prog 88 #[.int .i64 (k : Int)] w fun r w' => r = .returned (.bool (gtB k)) ∧ w' = w := by
  have e := rem4 k
  have hw : IntKind.i64.wrap ((k : Int).tmod 4) = (k : Int).tmod 4 := by rw [e, IntKind.wrap_i64]; omega
  go_enter Tryz.func88, Tryz.ntmps88
  go_wp2
  go_ret
  refine ⟨ret_bool ?_, rfl⟩
  unfold gtB
  by_cases h : k % 4 = 3
  · simp [h]; omega
  · simp [h]; omega
theorem gateS_any (k : Nat) (w : World) : Calls Tryz.prog 41 #[.int .i64 (k : Int)] w fun r w' => r = .returned (.bool (gtB k)) ∧ w' = w := by
  have e := rem4 k
  have hw : IntKind.i64.wrap ((k : Int).tmod 4) = (k : Int).tmod 4 := by rw [e, IntKind.wrap_i64]; omega
  go_enter Tryz.func41, Tryz.ntmps41
  go_wp2
  go_ret
  refine ⟨ret_bool ?_, rfl⟩
  unfold gtB
  by_cases h : k % 4 = 3
  · simp [h]; omega
  · simp [h]; omega
/-- a node in its place -/
def nokB (k : Nat) (n : Nod) : Bool := decide (n.me = (k : Int)) && decide (n.gate = gtB k) && nodQ n
/-- nodes, each in its place -/
def nodesB (len : Nat) (nd : Nat → Nod) : Bool := decide (∀ k, k < len → nokB k (nd k) = true) && decide (len = 8)
def s25_4 : List Stp := [⟨some 12, .fieldAddr 52 (.tmp 4) 0, 0, none, 0⟩, ⟨some 13, .load 3 (.tmp 12), 3, none, 0⟩, ⟨some 14, .move (.tmp 3), 3, none, 0⟩, ⟨some 15, .binOp .neq 3 (.tmp 13) (.tmp 14) 3, 4, none, 2⟩, ⟨some 16, .move (.tmp 15), 4, none, 0⟩, ⟨some 17, .fieldAddr 52 (.tmp 4) 3, 0, some (16, false), 0⟩, ⟨some 18, .load 4 (.tmp 17), 4, some (16, false), 0⟩, ⟨some 19, .move (.tmp 3), 3, some (16, false), 0⟩, ⟨some 20, .call { callee := .value (.func 88), args := #[.tmp 19], argTypes := #[3] }, 4, some (16, false), 1⟩, ⟨some 21, .binOp .neq 4 (.tmp 18) (.tmp 20) 4, 4, some (16, false), 2⟩, ⟨some 22, .pick (.tmp 16) (.const (.bool true)) (.tmp 21), 4, none, 0⟩, ⟨some 23, .move (.tmp 22), 4, none, 0⟩, ⟨some 24, .load 52 (.tmp 4), 52, some (23, false), 0⟩, ⟨some 25, .call { callee := .value (.func 54), args := #[.tmp 24], argTypes := #[52] }, 4, some (23, false), 1⟩, ⟨some 26, .unOp .not 4 (.tmp 25), 4, some (23, false), 2⟩, ⟨some 27, .pick (.tmp 23) (.const (.bool true)) (.tmp 26), 4, none, 0⟩]
def t25_4 : List (Nat × Nat) := [(0, 0), (1, 0), (2, 0), (3, 2), (4, 0), (5, 0), (6, 0), (7, 0), (8, 1), (9, 2), (10, 0), (11, 0), (12, 0), (13, 1), (14, 2), (15, 0)]
set_option maxRecDepth 20000 in
set_option maxHeartbeats 4000000 in
theorem nodes_any (a : Option Addr) (len cap : Nat) (nd : Nat → Nod) (w : World) (h : NdL w a len nd) (hl : len ≤ 1048576) :
    Calls Tryz.prog 50 #[.slice a len cap] w fun e w' => e = .returned (.bool (nodesB len nd)) ∧ Below w.heap.size w w' := by
  go_enter Tryz.func50, Tryz.ntmps50
  go_wp2
  go_loopw [3, 4, 7] (fun _ _ i wr => ∃ k : Nat, k ≤ len ∧ i = .int .i64 k ∧ Below w.heap.size w wr ∧ ∀ j, j < k → nokB j (nd j) = true) (fun _ _ i _ => len - (intOf i).toNat)
  case atStart => exact ⟨0, Nat.zero_le _, rfl, Below.refl _ _, fun j hj => by omega⟩
  case round =>
    obtain ⟨k, hk, rfl, hb, hall⟩ := hrel
    by_cases hlt : k < len
    · obtain ⟨b, off, rfl, _, hf⟩ := (h.below hb) (by omega)
      obtain ⟨L, c1, c2⟩ := hf k hlt
      have i0 : (0 : Int) ≤ (k : Int) := by omega
      have i1 : (k : Int) < (len : Int) := by omega
      have hno' : Hid (nokB k (nd k) = false → nodesB len nd = false) := fun q => by
        unfold nodesB
        rw [Bool.and_eq_false_iff]
        refine .inl (decide_eq_false fun hh => ?_)
        rw [hh k hlt] at q
        cases q
      have hyes : Hid (nokB k (nd k) = true → ∀ j, j < k + 1 → nokB j (nd j) = true) := fun q j hj => by
        by_cases e : j = k
        · subst e; exact q
        · exact hall j (by omega)
      clear hall hf
      generalize nd k = n at *
      have hB := Ws.box (w := wr) #[.int .i64 0, .bool false, .bool false, .bool false, .int .i64 0, .int .i64 0, .int .i64 0, .int .i64 0, .slice none 0 0, .slice none 0 0, .int .i64 0, .int .i64 0, .int .i64 0, .bool false, .slice none 0 0, .int .i64 0, .int .i64 0, .int .i64 0, .int .i64 0, .slice none 0 0, .slice none 0 0] 52
      have hth := hB.there (n := 21) rfl
      have hu1 : Below wr.heap.size wr ((wr.alloc (.cells #[.int .i64 0, .bool false, .bool false, .bool false, .int .i64 0, .int .i64 0, .int .i64 0, .int .i64 0, .slice none 0 0, .slice none 0 0, .int .i64 0, .int .i64 0, .int .i64 0, .bool false, .slice none 0 0, .int .i64 0, .int .i64 0, .int .i64 0, .int .i64 0, .slice none 0 0, .slice none 0 0] 52)).setCells wr.heap.size 0 (ndC n L).toList) := below_cells _ _ _ _ (Nat.le_refl _) (balloc _ (Below.refl _ _))
      have hrg := World.rangeAt_setCells_same (wr.alloc (.cells #[.int .i64 0, .bool false, .bool false, .bool false, .int .i64 0, .int .i64 0, .int .i64 0, .int .i64 0, .slice none 0 0, .slice none 0 0, .int .i64 0, .int .i64 0, .int .i64 0, .bool false, .slice none 0 0, .int .i64 0, .int .i64 0, .int .i64 0, .int .i64 0, .slice none 0 0, .slice none 0 0] 52)) wr.heap.size 0 (ndC n L).toList hth
      clear hB
      go_upto_region 4 with (first | (refine wpList_load_mid rfl 52 _ rfl b (off + k * 21) rfl (ndC n L).toList _ c1 Tryz.underlying52 rfl size51 ?_) | (refine wpList_store_mid rfl 52 _ _ rfl wr.heap.size 0 (ndC n L) rfl rfl hth size51 (by kernel_rfl) ?_))
      clear hth c1
      generalize (wr.alloc (.cells #[.int .i64 0, .bool false, .bool false, .bool false, .int .i64 0, .int .i64 0, .int .i64 0, .int .i64 0, .slice none 0 0, .slice none 0 0, .int .i64 0, .int .i64 0, .int .i64 0, .bool false, .slice none 0 0, .int .i64 0, .int .i64 0, .int .i64 0, .int .i64 0, .slice none 0 0, .slice none 0 0] 52)).setCells wr.heap.size 0 (ndC n L).toList = u at *
      have hb3 := btrans hb hu1
      have hN := c2.below hu1
      clear c2 hu1
      have c0 := hrg 0 (.int .i64 n.me) rfl
      have c3 := hrg 3 (.bool n.gate) rfl
      simp only [Nat.add_zero, Nat.zero_add] at c0 c3
      obtain ⟨gv, hgv⟩ : ∃ g, Hid (gtB k = g) := ⟨_, rfl⟩
      have gI : ∀ w1, Calls Tryz.prog 88 #[.int .i64 (k : Int)] w1 fun r w' => r = .returned (.bool gv) ∧ Below w1.heap.size w1 w' := fun w1 => (gateI_any k w1).mono (by rintro r w' ⟨rfl, rfl⟩; exact ⟨by rw [hgv.out], Below.refl _ _⟩)
      obtain ⟨qv, hqv⟩ : ∃ g, Hid (nodQ n = g) := ⟨_, rfl⟩
      have ct : ∀ w1, Below u.heap.size u w1 → Calls Tryz.prog 54 #[.agg (ndC n L)] w1 fun r w' => r = .returned (.bool qv) ∧ Below w1.heap.size w1 w' := fun w1 q => by
        rw [← hqv.out]
        exact okI_nod n L w1 (hN.below q)
      have hnok : Hid (nokB k n = (decide (n.me = (k : Int)) && decide (n.gate = gv) && qv)) := by
        unfold Hid nokB
        rw [hgv.out, hqv.out]
      clear hgv hqv hN
      by_cases e1 : n.me = (k : Int)
      · have y1 : Hid (n.me = (k : Int)) := e1
        clear e1
        by_cases e2 : n.gate = gv
        · have y2 : Hid (n.gate = gv) := e2
          clear e2
          cases qv
          · have hno : Hid (nodesB len nd = false) := hno'.out (by rw [hnok.out]; simp)
            clear hno' hyes hnok
            refine wp_region_q s25_4 t25_4 (fun hbq => ?_)
            refine qY ?_
            refine qL ?_
            refine qY ?_
            refine qV (.bool false) ?_ (by (intro w; go_simp; all_goals (first | with_reducible rfl | (simp [y1.out]; done) | assumption | (simp; done) | (simp; omega))))
            iterate 2 refine qY ?_
            refine qL ?_
            refine qY ?_
            refine qC (fun K hK => ?_)
            go_simp
            refine (gI _).mono ?_; rintro r w1 ⟨rfl, k1⟩
            go_wp2_with fail
            refine hK.out _ _ (btrans hbq k1) (.inl ?_)
            clear hK K
            replace hbq := btrans hbq k1
            clear k1
            try simp only [putQ]
            refine qV (.bool false) ?_ (by (intro w; go_simp; all_goals (first | with_reducible rfl | (simp [y2.out]; done) | assumption | (simp; done) | (simp; omega))))
            iterate 2 refine qY ?_
            refine qR ?_
            refine qC (fun K hK => ?_)
            go_simp
            refine (ct _ hbq).mono ?_; rintro r w2 ⟨rfl, k2⟩
            go_wp2_with fail
            refine hK.out _ _ (btrans hbq k2) (.inl ?_)
            clear hK K
            replace hbq := btrans hbq k2
            clear k2
            try simp only [putQ]
            refine qV (.bool true) ?_
            refine qY ?_
            refine qE ?_
            have hb1 := btrans hb3 hbq
            clear ct gI c0 c3 hrg
            go_wp2
            go_ret
            exact ⟨ret_bool hno.out.symm, hb1⟩
          · have hya := hyes.out (by rw [hnok.out, y1.out, y2.out]; simp)
            clear hno' hyes hnok
            refine wp_region_q s25_4 t25_4 (fun hbq => ?_)
            refine qY ?_
            refine qL ?_
            refine qY ?_
            refine qV (.bool false) ?_ (by (intro w; go_simp; all_goals (first | with_reducible rfl | (simp [y1.out]; done) | assumption | (simp; done) | (simp; omega))))
            iterate 2 refine qY ?_
            refine qL ?_
            refine qY ?_
            refine qC (fun K hK => ?_)
            go_simp
            refine (gI _).mono ?_; rintro r w1 ⟨rfl, k1⟩
            go_wp2_with fail
            refine hK.out _ _ (btrans hbq k1) (.inl ?_)
            clear hK K
            replace hbq := btrans hbq k1
            clear k1
            try simp only [putQ]
            refine qV (.bool false) ?_ (by (intro w; go_simp; all_goals (first | with_reducible rfl | (simp [y2.out]; done) | assumption | (simp; done) | (simp; omega))))
            iterate 2 refine qY ?_
            refine qR ?_
            refine qC (fun K hK => ?_)
            go_simp
            refine (ct _ hbq).mono ?_; rintro r w2 ⟨rfl, k2⟩
            go_wp2_with fail
            refine hK.out _ _ (btrans hbq k2) (.inl ?_)
            clear hK K
            replace hbq := btrans hbq k2
            clear k2
            try simp only [putQ]
            refine qV (.bool false) ?_
            refine qY ?_
            refine qE ?_
            have hb1 := btrans hb3 hbq
            clear ct gI c0 c3 hrg
            go_wp2
            go_roundw
            case rel => exact ⟨k + 1, by omega, by go_num, hb1, hya⟩
            case measure => simp [intOf]; omega
        · have hno : Hid (nodesB len nd = false) := hno'.out (by rw [hnok.out]; simp [e2])
          clear hno' hyes hnok
          refine wp_region_q s25_4 t25_4 (fun hbq => ?_)
          refine qY ?_
          refine qL ?_
          refine qY ?_
          refine qV (.bool false) ?_ (by (intro w; go_simp; all_goals (first | with_reducible rfl | (simp [y1.out]; done) | assumption | (simp; done) | (simp; omega))))
          iterate 2 refine qY ?_
          refine qL ?_
          refine qY ?_
          refine qC (fun K hK => ?_)
          go_simp
          refine (gI _).mono ?_; rintro r w1 ⟨rfl, k1⟩
          go_wp2_with fail
          refine hK.out _ _ (btrans hbq k1) (.inl ?_)
          clear hK K
          replace hbq := btrans hbq k1
          clear k1
          try simp only [putQ]
          refine qV (.bool true) ?_ (by (intro w; go_simp; all_goals (first | with_reducible rfl | (simp [e2]; done) | assumption | (simp; done) | (simp; omega))))
          iterate 2 refine qY ?_
          iterate 3 refine qN ?_
          refine qY ?_
          refine qE ?_
          have hb1 := btrans hb3 hbq
          clear ct gI c0 c3 hrg
          go_wp2
          go_ret
          exact ⟨ret_bool hno.out.symm, hb1⟩
      · have hno : Hid (nodesB len nd = false) := hno'.out (by rw [hnok.out]; simp [e1])
        clear hno' hyes hnok
        refine wp_region_q s25_4 t25_4 (fun hbq => ?_)
        refine qY ?_
        refine qL ?_
        refine qY ?_
        refine qV (.bool true) ?_ (by (intro w; go_simp; all_goals (first | with_reducible rfl | (simp [e1]; done) | assumption | (simp; done) | (simp; omega))))
        refine qY ?_
        iterate 5 refine qN ?_
        iterate 2 refine qY ?_
        iterate 3 refine qN ?_
        refine qY ?_
        refine qE ?_
        have hb1 := btrans hb3 hbq
        clear ct gI c0 c3 hrg
        go_wp2
        go_ret
        exact ⟨ret_bool hno.out.symm, hb1⟩
    · have e : k = len := by omega
      subst e
      by_cases e8 : k = 8
      · subst e8
        go_wp2
        go_ret
        refine ⟨ret_bool ?_, hb⟩
        unfold nodesB
        rw [decide_eq_true hall]
        rfl
      · have e9 : ¬ (k : Int) = 8 := by omega
        have e10 : Hid (nodesB k nd = false) := by
          unfold Hid nodesB
          rw [decide_eq_false e8, Bool.and_false]
        clear e8
        go_wp2
        go_ret
        exact ⟨ret_bool (by rw [e10.out]; first | (simp; omega) | simp [e9]), hb⟩
end Go.Proofs.YtoimfgfhlbkdcaaGreatDoor
/- Words under way: lists of flights; sides. -/
namespace Go.Proofs.YtoimfgfhlbkdcaaGreatDoor
open Go.ChangeShapes Go.WideShapes Go.ChangeAt Go.RowKit
/-- a word under way -/
structure Ft where
  t : Int
  x : ByteArray
  s : Bool
def Ft.zero : Ft := ⟨0, ByteArray.empty, false⟩
def FtIn (w : World) (b off len : Nat) (F : Nat → Ft) : Prop :=
  ∀ k, k < len → w.cell? ⟨b, off + k * 3, none⟩ = some (.int .i64 (F k).t) ∧ w.cell? ⟨b, off + k * 3 + 1, none⟩ = some (.string (F k).x) ∧ w.cell? ⟨b, off + k * 3 + 2, none⟩ = some (.bool (F k).s)
def FtSl (w : World) (a : Option Addr) (len : Nat) (F : Nat → Ft) : Prop :=
  0 < len → ∃ b off, a = some ⟨b, off, none⟩ ∧ b < w.heap.size ∧ FtIn w b off len F
theorem FtIn.below {B : Nat} {w w' : World} {b off len : Nat} {F : Nat → Ft} (h : FtIn w b off len F) (hb : Below B w w') (hl : b < B) : FtIn w' b off len F := fun k hk => by
  obtain ⟨h0, h1, h2⟩ := h k hk
  exact ⟨(hb.cell (p := ⟨b, _, none⟩) hl).trans h0, (hb.cell (p := ⟨b, _, none⟩) hl).trans h1, (hb.cell (p := ⟨b, _, none⟩) hl).trans h2⟩
theorem FtSl.below {w w' : World} {a : Option Addr} {len : Nat} {F : Nat → Ft} (h : FtSl w a len F) (hb : Below w.heap.size w w') : FtSl w' a len F := fun hl => by
  obtain ⟨b, off, e, hlt, hf⟩ := h hl
  exact ⟨b, off, e, by have := hb.size; omega, hf.below hb hlt⟩
theorem szFt_any (t : Int) (x : ByteArray) (s : Bool) (z : Int) (w : World) (h0 : 0 ≤ z) (h1 : z ≤ 1048576) (hx : x.size ≤ maxLen) :
    Calls Tryz.prog 40 #[.agg #[.int .i64 t, .string x, .bool s], .int .i64 z] w fun r w' => (∃ z' : Int, r = .returned (.int .i64 z') ∧ (z' = -1 ∨ (0 ≤ z' ∧ z' ≤ z ∧ x.size ≤ 1048576))) ∧ Below w.heap.size w w' := by
  have hx' := hx
  unfold maxLen at hx'
  have e9 : IntKind.i64.wrap (z - (x.size : Int)) = z - (x.size : Int) := by rw [IntKind.wrap_i64]; omega
  by_cases hlt : z < (x.size : Int)
  · have e1 : z - (x.size : Int) < 0 := by omega
    go_enter Tryz.func40, Tryz.ntmps40
    go_wp2
    all_goals (go_ret; exact ⟨⟨-1, rfl, .inl rfl⟩, balloc _ (Below.refl _ _)⟩)
  · have e1 : ¬ z - (x.size : Int) < 0 := by omega
    go_enter Tryz.func40, Tryz.ntmps40
    go_wp2
    all_goals (go_ret; exact ⟨⟨_, rfl, .inr ⟨by omega, by omega, by omega⟩⟩, balloc _ (Below.refl _ _)⟩)
set_option maxRecDepth 20000 in
set_option maxHeartbeats 4000000 in
theorem szFts_any (a : Option Addr) (len cap : Nat) (F : Nat → Ft) (left : Int) (w : World) (hSl : FtSl w a len F) (h0 : 0 ≤ left) (h1 : left ≤ 1048576) (hl : len ≤ maxLen) (hb : ∀ j, j < len → (F j).x.size ≤ maxLen) :
    Calls Tryz.prog 13 #[.slice a len cap, .int .i64 left] w fun e w' => (∃ r : Int, e = .returned (.int .i64 r) ∧ (r = -1 ∨ (0 ≤ r ∧ r ≤ left ∧ len ≤ 1048576 ∧ ∀ j, j < len → (F j).x.size ≤ 1048576))) ∧ Below w.heap.size w w' := by
  have hl' := hl
  unfold maxLen at hl'
  go_enter Tryz.func13, Tryz.ntmps13
  by_cases hlt0 : left < (len : Int)
  · have e1 : left - (len : Int) < 0 := by omega
    go_wp2
    all_goals (go_ret; exact ⟨⟨-1, rfl, .inl rfl⟩, Below.refl _ _⟩)
  have e1 : ¬ left - (len : Int) < 0 := by omega
  have e9 : IntKind.i64.wrap (left - (len : Int)) = left - (len : Int) := by rw [IntKind.wrap_i64]; omega
  have hlen : len ≤ 1048576 := by omega
  have e2 : Hid (0 ≤ left - (len : Int) ∧ left - (len : Int) ≤ left) := ⟨by omega, by omega⟩
  go_wp2
  generalize left - (len : Int) = z at *
  go_loopw [1, 5] (fun l i wr => ∃ (k : Nat) (yl : Int), k ≤ len ∧ i = .int .i64 k ∧ l = .int .i64 yl ∧ 0 ≤ yl ∧ yl ≤ left ∧ Below w.heap.size w wr ∧ (∀ j, j < k → (F j).x.size ≤ 1048576)) (fun _ i _ => len - (intOf i).toNat)
  case atStart => exact ⟨0, z, by omega, rfl, rfl, e2.out.1, e2.out.2, Below.refl _ _, fun j hj => by omega⟩
  case round =>
    obtain ⟨k, yl, hk, rfl, rfl, hy0, hy1, hbb, hall⟩ := hrel
    by_cases hlt : k < len
    · obtain ⟨b, off, rfl, hbl, hf⟩ := hSl (by omega)
      obtain ⟨c0, c1, c2⟩ := (hf.below hbb hbl) k hlt
      have i0 : (0 : Int) ≤ (k : Int) := by omega
      have i1 : (k : Int) < (len : Int) := by omega
      have hbk := hb k hlt
      have hyes : Hid ((F k).x.size ≤ 1048576 → ∀ j, j < k + 1 → (F j).x.size ≤ 1048576) := fun e j hj => by
        by_cases ej : j = k
        · subst ej; exact e
        · exact hall j (by omega)
      clear hall
      generalize F k = x at *
      obtain ⟨t, x, s⟩ := x
      dsimp only at c0 c1 c2 hbk hyes
      go_wp2_with fail
      refine (szFt_any t x s yl _ hy0 (by omega) hbk).mono ?_
      rintro r w1 ⟨⟨z2, rfl, hz⟩, k1⟩
      clear c0 c1 c2
      rcases hz with rfl | ⟨q0, q1, q2⟩
      · go_wp2
        go_ret
        exact ⟨⟨-1, rfl, .inl rfl⟩, btrans hbb k1⟩
      · have e2 : Hid (z2 ≤ left) := by unfold Hid; omega
        have e4 := hyes.out q2
        have e3 : ¬ z2 < 0 := by omega
        clear hyes q1 q2
        go_wp2
        go_roundw
        case rel => exact ⟨k + 1, z2, by omega, by go_num, rfl, q0, e2.out, btrans hbb k1, e4⟩
        case measure => simp [intOf]; omega
    · go_wp2
      go_ret
      exact ⟨⟨yl, rfl, .inr ⟨hy0, hy1, hlen, fun j hj => hall j (by omega)⟩⟩, hbb⟩
theorem toFt_any (t : Int) (x : ByteArray) (s : Bool) (w : World) :
    Calls Tryz.prog 48 #[.agg #[.int .i64 t, .string x, .bool s]] w fun r w' => r = .returned (.agg #[.int .i64 t, .string x, .bool s]) ∧ Below w.heap.size w w' := by
  go_enter Tryz.func48, Tryz.ntmps48
  go_wp2
  exact bodyPost_ret (v := .agg #[.int .i64 t, .string x, .bool s]) (by simp [results, Tryz.results48, go_sem]) rfl ⟨rfl, balloc _ (balloc _ (balloc _ (Below.refl _ _)))⟩
def ftv (F : Nat → Ft) (k : Nat) : Value := if k % 3 = 0 then .int .i64 (F (k / 3)).t else if k % 3 = 1 then .string (F (k / 3)).x else .bool (F (k / 3)).s
theorem ftrow_in {w : World} {b t n : Nat} {F : Nat → Ft} (h : w.rowIs b t (n * 3) (ftv F)) : FtIn w b 0 n F := fun k hk => by
  have e0 := h.cell (i := k * 3) (by omega)
  have e1 := h.cell (i := k * 3 + 1) (by omega)
  have e2 := h.cell (i := k * 3 + 2) (by omega)
  have a0 : k * 3 % 3 = 0 := by omega
  have a1 : (k * 3 + 1) % 3 = 1 := by omega
  have a2 : (k * 3 + 2) % 3 = 2 := by omega
  have d0 : k * 3 / 3 = k := by omega
  have d1 : (k * 3 + 1) / 3 = k := by omega
  have d2 : (k * 3 + 2) / 3 = k := by omega
  simp only [ftv, a0, a1, a2, d0, d1, d2] at e0 e1 e2
  exact ⟨by simpa using e0, by simpa using e1, by simpa using e2⟩
theorem ftrun_make (n : Nat) (hn : n ≤ 1048576) (w : World) :
    (Instr.makeSlice 31 (.int .i64 (n : Int)) (.int .i64 (n : Int))).run Tryz.prog w = .ok (.slice (some ⟨w.heap.size, 0, none⟩) n n) (w.alloc (.cells (madeCells #[.int .i64 0, .string ByteArray.empty, .bool false] (n * 3)) 95)) := by
  have hinf : (Tryz.prog.info? 95).map (fun i => (i.zero, i.size, i.bytes)) = some (some (.agg #[.int .i64 0, .string ByteArray.empty, .bool false]), 3, 32) := by kernel_rfl
  obtain ⟨i, hi, hzz⟩ := Option.map_eq_some_iff.1 hinf
  simp only [Prod.mk.injEq] at hzz
  obtain ⟨hz, hs, hb⟩ := hzz
  have hr := run_make (P := Tryz.prog) w 31 95 i _ Tryz.underlying31 hi hz .i64 .i64 n n (by omega) (Int.le_refl _) (by rw [hb]; omega) (by omega)
  rw [hr, hs, Int.toNat_natCast]
  rfl
theorem ftrow_made (n : Nat) (w : World) : (w.alloc (.cells (madeCells #[.int .i64 0, .string ByteArray.empty, .bool false] (n * 3)) 95)).rowIs w.heap.size 95 (n * 3) (ftv fun _ => Ft.zero) :=
  ⟨_, heap_alloc_new _ _, size_madeCells _ _, fun i hi => by
    have : i % 3 = 0 ∨ i % 3 = 1 ∨ i % 3 = 2 := by omega
    rcases this with h | h | h <;> simp [madeCells, hi, ftv, h, Ft.zero]⟩
theorem ftrow_put {w : World} {b n k : Nat} {F : Nat → Ft} (h : w.rowIs b 95 (n * 3) (ftv F)) (x : Ft) :
    (((w.setCell ⟨b, k * 3, none⟩ (.int .i64 x.t)).setCell ⟨b, k * 3 + 1, none⟩ (.string x.x)).setCell ⟨b, k * 3 + 2, none⟩ (.bool x.s)).rowIs b 95 (n * 3) (ftv fun j => if j = k then x else F j) :=
  (((h.set (k * 3) _).set (k * 3 + 1) _).set (k * 3 + 2) _).congr fun j hj => by
    by_cases e : j / 3 = k
    · have : j = k * 3 ∨ j = k * 3 + 1 ∨ j = k * 3 + 2 := by omega
      have a0 : k * 3 % 3 = 0 := by omega
      have a1 : (k * 3 + 1) % 3 = 1 := by omega
      have a2 : (k * 3 + 2) % 3 = 2 := by omega
      rcases this with h | h | h <;> (subst h; simp [ftv, e, a0, a1, a2])
    · have n0 : j ≠ k * 3 := by omega
      have n1 : j ≠ k * 3 + 1 := by omega
      have n2 : j ≠ k * 3 + 2 := by omega
      simp [n0, n1, n2, ftv, e]
theorem ftrow_sl {w : World} {b t n : Nat} {F : Nat → Ft} (h : w.rowIs b t (n * 3) (ftv F)) : FtSl w (some ⟨b, 0, none⟩) n F := fun _ => ⟨b, 0, rfl, h.lt, ftrow_in h⟩
set_option maxRecDepth 20000 in
set_option maxHeartbeats 4000000 in
theorem toFts_any (a : Option Addr) (len cap : Nat) (F : Nat → Ft) (w : World) (h : FtSl w a len F) (hl : len ≤ 1048576) :
    Calls Tryz.prog 21 #[.slice a len cap] w fun e w' => ∃ b, e = .returned (.slice (some ⟨b, 0, none⟩) len len) ∧ w'.rowIs b 95 (len * 3) (ftv F) ∧ w.heap.size ≤ b ∧ Below w.heap.size w w' := by
  have hmk := ftrun_make len hl
  go_enter Tryz.func21, Tryz.ntmps21
  go_wp2
  go_loopw [4] (fun i wr => ∃ (k : Nat), k ≤ len ∧ i = .int .i64 k ∧ Below w.heap.size w wr ∧ wr.rowIs w.heap.size 95 (len * 3) (ftv fun j => if j < k then F j else Ft.zero)) (fun i _ => len - (intOf i).toNat)
  case atStart => exact ⟨0, Nat.zero_le _, rfl, balloc _ (Below.refl _ _), by simpa using ftrow_made len w⟩
  case round =>
    obtain ⟨k, hk, rfl, hb, hr⟩ := hrel
    clear hmk
    by_cases hlt : k < len
    · obtain ⟨b, off, rfl, hbl, hf⟩ := h (by omega)
      obtain ⟨c0, c1, c2⟩ := (hf.below hb hbl) k hlt
      obtain ⟨x, hx⟩ : ∃ x, Hid (F k = x) := ⟨_, rfl⟩
      rw [hx.out] at c0 c1 c2
      obtain ⟨t, x, s⟩ := x
      dsimp only at c0 c1 c2
      go_wp2_with fail
      refine (toFt_any t x s _).mono ?_
      rintro e w1 ⟨rfl, b1⟩
      have hr1 := row_below hr b1
      have hb1 := btrans hb b1
      have d0 := hr1.cell (i := k * 3) (by omega)
      have d1 := hr1.cell (i := k * 3 + 1) (by omega)
      have d2 := hr1.cell (i := k * 3 + 2) (by omega)
      have f0 := hr1.frozen (k * 3)
      have f1 := hr1.frozen (k * 3 + 1)
      have f2 := hr1.frozen (k * 3 + 2)
      clear hr b1 c0 c1 c2 hb
      go_wp2
      go_roundw
      case rel =>
        refine ⟨k + 1, by omega, by go_num, ((hb1.setCell (p := ⟨w.heap.size, _, none⟩) (Nat.le_refl _) _).setCell (p := ⟨w.heap.size, _, none⟩) (Nat.le_refl _) _).setCell (p := ⟨w.heap.size, _, none⟩) (Nat.le_refl _) _, (ftrow_put hr1 ⟨t, x, s⟩).congr fun j _ => ?_⟩
        congr 1
        funext j
        by_cases e : j = k
        · subst e; simp [hx.out]
        · have : j < k + 1 ↔ j < k := by omega
          simp [e, this]
      case measure => simp [intOf]; omega
    · go_wp2
      go_ret
      have e : k = len := by omega
      subst e
      exact ⟨w.heap.size, rfl, hr.congr fun j hj => by
        have h9 : j / 3 < k := by omega
        simp [ftv, h9], Nat.le_refl _, hb⟩
theorem eqFt_same (t : Int) (x : ByteArray) (s : Bool) (w : World) :
    Calls Tryz.prog 62 #[.agg #[.int .i64 t, .string x, .bool s], .agg #[.int .i64 t, .string x, .bool s]] w fun r w' => r = .returned (.bool true) ∧ Below w.heap.size w w' := by
  have e0 : (s != s) = false := by simp
  go_enter Tryz.func62, Tryz.ntmps62
  go_wp2
  go_ret
  exact ⟨rfl, balloc _ (balloc _ (Below.refl _ _))⟩
set_option maxHeartbeats 1000000 in
theorem eqFts_same (a a' : Option Addr) (len cap cap' : Nat) (F : Nat → Ft) (w : World) (h : FtSl w a len F) (h' : FtSl w a' len F) (hl : len ≤ 1048576) :
    Calls Tryz.prog 30 #[.slice a len cap, .slice a' len cap'] w fun e w' => e = .returned (.bool true) ∧ Below w.heap.size w w' := by
  go_enter Tryz.func30, Tryz.ntmps30
  go_wp2
  go_loopw [5] (fun i wr => ∃ k : Nat, k ≤ len ∧ i = .int .i64 k ∧ Below w.heap.size w wr) (fun i _ => len - (intOf i).toNat)
  case atStart => exact ⟨0, Nat.zero_le _, rfl, Below.refl _ _⟩
  case round =>
    obtain ⟨k, hk, rfl, hb⟩ := hrel
    by_cases hlt : k < len
    · obtain ⟨b, off, rfl, hbl, hf⟩ := h (by omega)
      obtain ⟨c0, c1, c2⟩ := (hf.below hb hbl) k hlt
      obtain ⟨b', off', rfl, hbl', hf'⟩ := h' (by omega)
      obtain ⟨d0, d1, d2⟩ := (hf'.below hb hbl') k hlt
      have i0 : (0 : Int) ≤ (k : Int) := by omega
      have i1 : (k : Int) < (len : Int) := by omega
      go_wp2_with fail
      go_region_held3 (fun w' => w'.cell? ⟨b, off + k * 3, none⟩ = some (.int .i64 (F k).t) ∧ w'.cell? ⟨b, off + k * 3 + 1, none⟩ = some (.string (F k).x) ∧ w'.cell? ⟨b, off + k * 3 + 2, none⟩ = some (.bool (F k).s) ∧ w'.cell? ⟨b', off' + k * 3, none⟩ = some (.int .i64 (F k).t) ∧ w'.cell? ⟨b', off' + k * 3 + 1, none⟩ = some (.string (F k).x) ∧ w'.cell? ⟨b', off' + k * 3 + 2, none⟩ = some (.bool (F k).s)) (refine ⟨?_, ?_, ?_, ?_, ?_, ?_⟩ <;> (repeat (first | with_reducible assumption | with_reducible refine keep_drew ?_ | with_reducible refine keep_below (by assumption) ?_))) (first | (go_at_call 62; refine (eqFt_same _ _ _ _).mono ?_; rintro e w1 ⟨rfl, b1⟩))
      go_wp2
      go_roundw
      case rel => exact ⟨k + 1, by omega, by go_num, btrans hb.drew b1⟩
      case measure => simp [intOf]; omega
    · go_wp2
      go_ret
      exact ⟨rfl, hb⟩
/-- a word under way is ok -/
def ftB (t : Int) (x : ByteArray) : Bool := inb t 0 7 && decide (x.size ≤ 300)
theorem ftok_any (t : Int) (x : ByteArray) (s : Bool) (w : World) :
    Calls Tryz.prog 90 #[.agg #[.int .i64 t, .string x, .bool s]] w fun r w' => r = .returned (.bool (ftB t x)) ∧ Below w.heap.size w w' := by
  go_enter Tryz.func90, Tryz.ntmps90
  go_wp2_with fail
  refine (nodeOk_any t _).mono ?_
  rintro r w2 ⟨rfl, rfl⟩
  have e : (decide ((x.size : Int) ≤ 300)) = decide (x.size ≤ 300) := by congr 1; apply propext; omega
  cases hi : inb t 0 7
  · have hi' : Hid (inb t 0 7 = false) := hi
    clear hi
    go_wp2
    go_ret
    exact ⟨ret_bool (by simp [ftB, hi'.out]), balloc _ (Below.refl _ _)⟩
  · have hi' : Hid (inb t 0 7 = true) := hi
    clear hi
    go_wp2
    go_ret
    exact ⟨ret_bool (by simp [ftB, hi'.out]), balloc _ (Below.refl _ _)⟩
set_option maxRecDepth 20000 in
theorem ftClo_any (t : Int) (x : ByteArray) (s : Bool)  (pb : Nat) (w : World) (hp : w.cell? ⟨pb, 0, none⟩ = some (.func (.func 90) #[] #[]))   (b : Bool) (hb : ftB t x = b) :
    Calls Tryz.prog 131 #[.agg #[.int .i64 t, .string x, .bool s], .pointer (some ⟨pb, 0, none⟩)] w fun r w' => r = .returned (.bool (!b)) ∧ Below w.heap.size w w' := by
  have hb' : Hid (ftB t x = b) := hb
  clear hb
  have b0 := balloc (.cells #[.int .i64 t, .string x, .bool s] 95) (Below.refl w.heap.size w)
  have X := Ws.box (w := w) #[.int .i64 t, .string x, .bool s] 95
  have dp := keep_alloc (.cells #[.int .i64 t, .string x, .bool s] 95) hp
  go_enter Tryz.func131, Tryz.ntmps131
  go_upto_region 1 with fail
  generalize w.alloc (.cells #[.int .i64 t, .string x, .bool s] 95) = u at *
  have ee0 := X.c 0 (.int .i64 t) rfl
  have ee1 := X.c 1 (.string x) rfl
  have ee2 := X.c 2 (.bool s) rfl
  clear X
  go_wp2_with fail
  refine (ftok_any t x s _).mono ?_
  rintro r w2 ⟨rfl, k2⟩
  rw [hb'.out]
  clear dp hp ee0 ee1 ee2
  go_wp2
  go_ret
  exact ⟨rfl, btrans b0 k2⟩
/-- all words under way are ok -/
def ftA  (len : Nat) (G : Nat → Ft) : Bool := decide (∀ k, k < len → ftB (G k).t (G k).x = true)
set_option maxRecDepth 20000 in
set_option maxHeartbeats 1000000 in
theorem ftIdx_any (a : Option Addr) (len cap : Nat) (G : Nat → Ft)  (pb : Nat) (w : World) (hG : FtSl w a len G) (hm : len ≤ 1048576)  (hp : w.cell? ⟨pb, 0, none⟩ = some (.func (.func 90) #[] #[]))  :
    Calls Tryz.prog 179 #[.slice a len cap, .func (.func 131) #[] #[.pointer (some ⟨pb, 0, none⟩)]] w fun e w' => ∃ r : Int, e = .returned (.int .i64 r) ∧ ((ftA  len G = true ∧ r = -1) ∨ (ftA  len G = false ∧ 0 ≤ r)) ∧ Below w.heap.size w w' := by
  go_enter Tryz.func179, Tryz.ntmps179
  go_wp2
  go_loopw [5, 8] (fun _ i wr => ∃ k : Nat, k ≤ len ∧ i = .int .i64 k ∧ Below w.heap.size w wr ∧ (∀ j, j < k → ftB (G j).t (G j).x = true)) (fun _ i _ => len - (intOf i).toNat)
  case atStart => exact ⟨0, by omega, rfl, Below.refl _ _, fun j h1 => by omega⟩
  case round =>
    obtain ⟨k, hk, rfl, hb, hall⟩ := hrel
    by_cases hlt : k < len
    · obtain ⟨b, off, rfl, hbl, hf⟩ := hG (by omega)
      obtain ⟨c0, c1, c2⟩ := (hf.below hb hbl) k hlt
      have i0 : (0 : Int) ≤ (k : Int) := by omega
      have i1 : (k : Int) < (len : Int) := by omega
      have hpr := keep_below hb hp
      cases ho : ftB (G k).t (G k).x
      · have ho' : Hid (ftB (G k).t (G k).x = false) := ho
        clear ho
        go_wp2_with (go_at_call 131; refine (ftClo_any _ _ _  pb _ hpr   false ho'.out).mono ?_; rintro e w1 ⟨rfl, b1⟩)
        go_ret
        refine ⟨k, rfl, .inr ⟨?_, by omega⟩, btrans hb b1⟩
        unfold ftA
        refine decide_eq_false fun h => ?_
        have h1 := h k hlt
        rw [ho'.out] at h1
        cases h1
      · have ho' : Hid (ftB (G k).t (G k).x = true) := ho
        clear ho
        go_wp2_with (go_at_call 131; refine (ftClo_any _ _ _  pb _ hpr   true ho'.out).mono ?_; rintro e w1 ⟨rfl, b1⟩)
        go_roundw
        case rel => exact ⟨k + 1, by omega, by go_num, btrans hb b1, fun j hj => by
          by_cases e : j = k
          · subst e; exact ho'.out
          · exact hall j (by omega)⟩
        case measure => simp [intOf]; omega
    · go_wp2
      go_ret
      refine ⟨-1, rfl, .inl ⟨?_, rfl⟩, hb⟩
      unfold ftA
      rw [decide_eq_true_iff]
      exact fun j hj => hall j (by omega)
theorem ftCont_any (a : Option Addr) (len cap : Nat) (G : Nat → Ft)  (pb : Nat) (w : World) (hG : FtSl w a len G) (hm : len ≤ 1048576)  (hp : w.cell? ⟨pb, 0, none⟩ = some (.func (.func 90) #[] #[]))  :
    Calls Tryz.prog 130 #[.slice a len cap, .func (.func 131) #[] #[.pointer (some ⟨pb, 0, none⟩)]] w fun e w' => e = .returned (.bool (!ftA  len G)) ∧ Below w.heap.size w w' := by
  go_enter Tryz.func130, Tryz.ntmps130
  go_wp2_with fail
  refine (ftIdx_any a len cap G  pb _ hG hm  hp ).mono ?_
  rintro e w1 ⟨r, rfl, hr, b1⟩
  rcases hr with ⟨hs, rfl⟩ | ⟨hs, hr⟩
  · have hs' : Hid (ftA  len G = true) := hs
    clear hs
    go_wp2
    go_ret
    exact ⟨ret_bool (by rw [hs'.out]; rfl), b1⟩
  · have hs' : Hid (ftA  len G = false) := hs
    clear hs
    go_wp2
    go_ret
    exact ⟨ret_bool (by rw [hs'.out]; simp <;> omega), b1⟩
theorem ftAll_any (a : Option Addr) (len cap : Nat) (G : Nat → Ft)  (w : World) (hG : FtSl w a len G) (hm : len ≤ 1048576)   :
    Calls Tryz.prog 89 #[.slice a len cap, (.func (.func 90) #[] #[])] w fun e w' => e = .returned (.bool (ftA  len G)) ∧ Below w.heap.size w w' := by
  have b0 := balloc (.cells #[(.func (.func 90) #[] #[])] 136) (Below.refl w.heap.size w)
  have X := Ws.box (w := w) #[(.func (.func 90) #[] #[])] 136
  have dp := X.c 0 (.func (.func 90) #[] #[]) rfl
  go_enter Tryz.func89, Tryz.ntmps89
  go_upto_region 1 with fail
  generalize w.alloc (.cells #[(.func (.func 90) #[] #[])] 136) = u at *
  clear X
  go_wp2_with fail
  refine (ftCont_any a len cap G  _ _ (hG.below b0) hm  dp ).mono ?_
  rintro e w1 ⟨rfl, b1⟩
  clear dp
  go_wp2
  go_ret
  exact ⟨ret_bool (by simp), btrans b0 b1⟩
/-- the words under way are ok -/
def radB (len : Nat) (F : Nat → Ft) : Bool := decide (len ≤ 60) && ftA len F
theorem radio_any (a : Option Addr) (len cap : Nat) (F : Nat → Ft) (w : World) (h : FtSl w a len F) (hl : len ≤ 1048576) :
    Calls Tryz.prog 51 #[.slice a len cap] w fun e w' => e = .returned (.bool (radB len F)) ∧ Below w.heap.size w w' := by
  go_enter Tryz.func51, Tryz.ntmps51
  by_cases hm : len ≤ 60
  · have hm' : (len : Int) ≤ 60 := by omega
    go_wp2_with fail
    refine (ftAll_any a len cap F _ h hl).mono ?_
    rintro e w1 ⟨rfl, b1⟩
    go_wp2
    go_ret
    exact ⟨ret_bool (by simp [radB, hm]), b1⟩
  · have hm' : ¬ (len : Int) ≤ 60 := by omega
    go_wp2
    go_ret
    exact ⟨ret_bool (by simp [radB, hm]), Below.refl _ _⟩
theorem side_any (n : Int) (w : World) : Calls Tryz.prog 93 #[.int .i64 n] w fun r w' => r = .returned (.bool (inb n 0 2)) ∧ Below w.heap.size w w' := by
  go_enter Tryz.func93, Tryz.ntmps93
  go_wp2_with fail
  refine (within_any n 0 2 _).mono ?_
  rintro r w2 ⟨rfl, rfl⟩
  go_wp2
  go_ret
  exact ⟨rfl, Below.refl _ _⟩
set_option maxRecDepth 20000 in
theorem sdClo_any (n : Int)  (pb : Nat) (w : World) (hp : w.cell? ⟨pb, 0, none⟩ = some (.func (.func 93) #[] #[]))   (b : Bool) (hb : inb n 0 2 = b) :
    Calls Tryz.prog 133 #[.int .i64 n, .pointer (some ⟨pb, 0, none⟩)] w fun r w' => r = .returned (.bool (!b)) ∧ Below w.heap.size w w' := by
  have hb' : Hid (inb n 0 2 = b) := hb
  clear hb
  have b0 := Below.refl w.heap.size w
  have dp := hp
  go_enter Tryz.func133, Tryz.ntmps133
  go_wp2_with fail
  refine (side_any n _).mono ?_
  rintro r w2 ⟨rfl, k2⟩
  rw [hb'.out]
  clear dp hp 
  go_wp2
  go_ret
  exact ⟨rfl, btrans b0 k2⟩
/-- all sides are ok -/
def sdA  (len : Nat) (G : Nat → Int) : Bool := decide (∀ k, k < len → inb (G k) 0 2 = true)
set_option maxRecDepth 20000 in
set_option maxHeartbeats 1000000 in
theorem sdIdx_any (a : Option Addr) (len cap : Nat) (G : Nat → Int)  (pb : Nat) (w : World) (hG : ISl w a len G) (hm : len ≤ 1048576)  (hp : w.cell? ⟨pb, 0, none⟩ = some (.func (.func 93) #[] #[]))  :
    Calls Tryz.prog 180 #[.slice a len cap, .func (.func 133) #[] #[.pointer (some ⟨pb, 0, none⟩)]] w fun e w' => ∃ r : Int, e = .returned (.int .i64 r) ∧ ((sdA  len G = true ∧ r = -1) ∨ (sdA  len G = false ∧ 0 ≤ r)) ∧ Below w.heap.size w w' := by
  go_enter Tryz.func180, Tryz.ntmps180
  go_wp2
  go_loopw [5, 8] (fun _ i wr => ∃ k : Nat, k ≤ len ∧ i = .int .i64 k ∧ Below w.heap.size w wr ∧ (∀ j, j < k → inb (G j) 0 2 = true)) (fun _ i _ => len - (intOf i).toNat)
  case atStart => exact ⟨0, by omega, rfl, Below.refl _ _, fun j h1 => by omega⟩
  case round =>
    obtain ⟨k, hk, rfl, hb, hall⟩ := hrel
    by_cases hlt : k < len
    · obtain ⟨b, off, rfl, hbl, hf⟩ := hG (by omega)
      have c0 := (hf.below hb hbl) k hlt
      have i0 : (0 : Int) ≤ (k : Int) := by omega
      have i1 : (k : Int) < (len : Int) := by omega
      have hpr := keep_below hb hp
      cases ho : inb (G k) 0 2
      · have ho' : Hid (inb (G k) 0 2 = false) := ho
        clear ho
        go_wp2_with (go_at_call 133; refine (sdClo_any _  pb _ hpr   false ho'.out).mono ?_; rintro e w1 ⟨rfl, b1⟩)
        go_ret
        refine ⟨k, rfl, .inr ⟨?_, by omega⟩, btrans hb b1⟩
        unfold sdA
        refine decide_eq_false fun h => ?_
        have h1 := h k hlt
        rw [ho'.out] at h1
        cases h1
      · have ho' : Hid (inb (G k) 0 2 = true) := ho
        clear ho
        go_wp2_with (go_at_call 133; refine (sdClo_any _  pb _ hpr   true ho'.out).mono ?_; rintro e w1 ⟨rfl, b1⟩)
        go_roundw
        case rel => exact ⟨k + 1, by omega, by go_num, btrans hb b1, fun j hj => by
          by_cases e : j = k
          · subst e; exact ho'.out
          · exact hall j (by omega)⟩
        case measure => simp [intOf]; omega
    · go_wp2
      go_ret
      refine ⟨-1, rfl, .inl ⟨?_, rfl⟩, hb⟩
      unfold sdA
      rw [decide_eq_true_iff]
      exact fun j hj => hall j (by omega)
theorem sdCont_any (a : Option Addr) (len cap : Nat) (G : Nat → Int)  (pb : Nat) (w : World) (hG : ISl w a len G) (hm : len ≤ 1048576)  (hp : w.cell? ⟨pb, 0, none⟩ = some (.func (.func 93) #[] #[]))  :
    Calls Tryz.prog 132 #[.slice a len cap, .func (.func 133) #[] #[.pointer (some ⟨pb, 0, none⟩)]] w fun e w' => e = .returned (.bool (!sdA  len G)) ∧ Below w.heap.size w w' := by
  go_enter Tryz.func132, Tryz.ntmps132
  go_wp2_with fail
  refine (sdIdx_any a len cap G  pb _ hG hm  hp ).mono ?_
  rintro e w1 ⟨r, rfl, hr, b1⟩
  rcases hr with ⟨hs, rfl⟩ | ⟨hs, hr⟩
  · have hs' : Hid (sdA  len G = true) := hs
    clear hs
    go_wp2
    go_ret
    exact ⟨ret_bool (by rw [hs'.out]; rfl), b1⟩
  · have hs' : Hid (sdA  len G = false) := hs
    clear hs
    go_wp2
    go_ret
    exact ⟨ret_bool (by rw [hs'.out]; simp <;> omega), b1⟩
theorem sdAll_any (a : Option Addr) (len cap : Nat) (G : Nat → Int)  (w : World) (hG : ISl w a len G) (hm : len ≤ 1048576)   :
    Calls Tryz.prog 92 #[.slice a len cap, (.func (.func 93) #[] #[])] w fun e w' => e = .returned (.bool (sdA  len G)) ∧ Below w.heap.size w w' := by
  have b0 := balloc (.cells #[(.func (.func 93) #[] #[])] 92) (Below.refl w.heap.size w)
  have X := Ws.box (w := w) #[(.func (.func 93) #[] #[])] 92
  have dp := X.c 0 (.func (.func 93) #[] #[]) rfl
  go_enter Tryz.func92, Tryz.ntmps92
  go_upto_region 1 with fail
  generalize w.alloc (.cells #[(.func (.func 93) #[] #[])] 92) = u at *
  clear X
  go_wp2_with fail
  refine (sdCont_any a len cap G  _ _ (hG.below b0) hm  dp ).mono ?_
  rintro e w1 ⟨rfl, b1⟩
  clear dp
  go_wp2
  go_ret
  exact ⟨ret_bool (by simp), btrans b0 b1⟩
/-- the sides are ok -/
def sidB (len : Nat) (f : Nat → Int) : Bool := decide (len = 8) && sdA len f
theorem sides_any (a : Option Addr) (len cap : Nat) (f : Nat → Int) (w : World) (h : ISl w a len f) (hl : len ≤ 1048576) :
    Calls Tryz.prog 52 #[.slice a len cap] w fun e w' => e = .returned (.bool (sidB len f)) ∧ Below w.heap.size w w' := by
  go_enter Tryz.func52, Tryz.ntmps52
  by_cases hm : len = 8
  · subst hm
    go_wp2_with fail
    refine (sdAll_any a 8 cap f _ h hl).mono ?_
    rintro e w1 ⟨rfl, b1⟩
    go_wp2
    go_ret
    exact ⟨ret_bool (by simp [sidB]), b1⟩
  · have hm' : ¬ (len : Int) = 8 := by omega
    go_wp2
    go_ret
    exact ⟨ret_bool (by simp [sidB, hm]), Below.refl _ _⟩
end Go.Proofs.YtoimfgfhlbkdcaaGreatDoor
/- Facts that somebody told first, in order. -/
namespace Go.Proofs.YtoimfgfhlbkdcaaGreatDoor
open Go.ChangeShapes Go.WideShapes Go.ChangeAt Go.RowKit
/-- numbers, compared -/
def icmp (a b : Int) : Int := if a < b then -1 else if b < a then 1 else 0
theorem nan_any (a : Int) (w : World) : Calls Tryz.prog 181 #[.int .i64 a] w fun r w' => r = .returned (.bool false) ∧ w' = w := by
  go_enter Tryz.func181, Tryz.ntmps181
  go_wp2
  go_ret
  exact ⟨rfl, rfl⟩
theorem icmp_any (a b : Int) (w : World) : Calls Tryz.prog 135 #[.int .i64 a, .int .i64 b] w fun r w' => r = .returned (.int .i64 (icmp a b)) ∧ w' = w := by
  go_enter Tryz.func135, Tryz.ntmps135
  go_wp2_with fail
  refine (nan_any a _).mono ?_
  rintro r w2 ⟨rfl, rfl⟩
  go_wp2_with fail
  refine (nan_any b _).mono ?_
  rintro r w2 ⟨rfl, rfl⟩
  by_cases h1 : a < b
  · go_wp2
    go_ret
    exact ⟨ret_int (by simp [icmp, h1]), rfl⟩
  · by_cases h2 : b < a
    · go_wp2
      go_ret
      exact ⟨ret_int (by simp [icmp, h1, h2]), rfl⟩
    · go_wp2
      go_ret
      exact ⟨ret_int (by unfold icmp; rw [if_neg (by omega), if_neg (by omega)]), rfl⟩
/-- a fact lies ahead of another one -/
def lessB (n i s : Int) (g : Bool) (n' i' s' : Int) (g' : Bool) : Bool := if n ≠ n' then decide (n < n') else l3B i' s' g' i s g
theorem less_any (n i s : Int) (g : Bool) (n' i' s' : Int) (g' : Bool) (w : World) :
    Calls Tryz.prog 45 #[.agg #[.int .i64 n, .int .i64 i, .int .i64 s, .bool g], .agg #[.int .i64 n', .int .i64 i', .int .i64 s', .bool g']] w fun r w' => r = .returned (.bool (lessB n i s g n' i' s' g')) ∧ Below w.heap.size w w' := by
  go_enter Tryz.func45, Tryz.ntmps45
  by_cases h : n = n'
  · subst h
    go_wp2_with fail
    refine (l3_any n i' s' g' n i s g _).mono ?_
    rintro r w2 ⟨rfl, o1, o2, rfl⟩
    go_wp2
    go_ret
    exact ⟨ret_bool (by simp [lessB]), balloc _ (balloc _ (balloc _ (balloc _ (Below.refl _ _))))⟩
  · go_wp2
    go_ret
    exact ⟨ret_bool (by simp [lessB, h]), balloc _ (balloc _ (Below.refl _ _))⟩
/-- facts, compared -/
def fcmp (n i s : Int) (g : Bool) (n' i' s' : Int) (g' : Bool) : Int := if overB n i s g n' i' s' g' = true then 1 else if overB n' i' s' g' n i s g = true then -1 else icmp n n'
set_option maxHeartbeats 1000000 in
theorem fcmp_any (n i s : Int) (g : Bool) (n' i' s' : Int) (g' : Bool) (w : World) :
    Calls Tryz.prog 95 #[.agg #[.int .i64 n, .int .i64 i, .int .i64 s, .bool g], .agg #[.int .i64 n', .int .i64 i', .int .i64 s', .bool g']] w fun r w' => r = .returned (.int .i64 (fcmp n i s g n' i' s' g')) ∧ Below w.heap.size w w' := by
  obtain ⟨z, hz⟩ : ∃ z, Hid (fcmp n i s g n' i' s' g' = z) := ⟨_, rfl⟩
  rw [hz.out]
  have b0 := balloc (.cells #[.int .i64 n', .int .i64 i', .int .i64 s', .bool g'] 57) (balloc (.cells #[.int .i64 n, .int .i64 i, .int .i64 s, .bool g] 57) (Below.refl w.heap.size w))
  have X := (Ws.box (w := w) #[.int .i64 n, .int .i64 i, .int .i64 s, .bool g] 57).alloc (.cells #[.int .i64 n', .int .i64 i', .int .i64 s', .bool g'] 57)
  have Y := Ws.box (w := w.alloc (.cells #[.int .i64 n, .int .i64 i, .int .i64 s, .bool g] 57)) #[.int .i64 n', .int .i64 i', .int .i64 s', .bool g'] 57
  have hs : (w.alloc (.cells #[.int .i64 n, .int .i64 i, .int .i64 s, .bool g] 57)).heap.size = w.heap.size + 1 := by simp [go_sem]
  rw [hs] at Y
  go_enter Tryz.func95, Tryz.ntmps95
  go_upto_region 1 with fail
  generalize (w.alloc (.cells #[.int .i64 n, .int .i64 i, .int .i64 s, .bool g] 57)).alloc (.cells #[.int .i64 n', .int .i64 i', .int .i64 s', .bool g'] 57) = u at *
  clear hs
  have c0 := X.c 0 (.int .i64 n) rfl
  have c1 := X.c 1 (.int .i64 i) rfl
  have c2 := X.c 2 (.int .i64 s) rfl
  have c3 := X.c 3 (.bool g) rfl
  have d0 := Y.c 0 (.int .i64 n') rfl
  have d1 := Y.c 1 (.int .i64 i') rfl
  have d2 := Y.c 2 (.int .i64 s') rfl
  have d3 := Y.c 3 (.bool g') rfl
  clear X Y
  go_wp2_with fail
  refine (fover_any n i s g n' i' s' g' _).mono ?_
  rintro r u1 ⟨rfl, k1⟩
  have b1 := btrans b0 k1
  cases h1 : overB n i s g n' i' s' g'
  · have h1' : Hid (overB n i s g n' i' s' g' = false) := h1
    clear h1
    replace c0 := keep_below k1 c0
    replace c1 := keep_below k1 c1
    replace c2 := keep_below k1 c2
    replace c3 := keep_below k1 c3
    replace d0 := keep_below k1 d0
    replace d1 := keep_below k1 d1
    replace d2 := keep_below k1 d2
    replace d3 := keep_below k1 d3
    clear b0 k1
    go_wp2_with fail
    refine (fover_any n' i' s' g' n i s g _).mono ?_
    rintro r u2 ⟨rfl, k2⟩
    have b2 := btrans b1 k2
    cases h2 : overB n' i' s' g' n i s g
    · have h2' : Hid (overB n' i' s' g' n i s g = false) := h2
      clear h2
      replace c0 := keep_below k2 c0
      replace d0 := keep_below k2 d0
      clear b1 k2 c1 c2 c3 d1 d2 d3
      go_wp2_with fail
      refine (icmp_any n n' _).mono ?_
      rintro r u3 ⟨rfl, rfl⟩
      clear c0 d0
      go_wp2
      go_ret
      exact ⟨ret_int (by rw [← hz.out]; simp [fcmp, h1'.out, h2'.out]), b2⟩
    · have h2' : Hid (overB n' i' s' g' n i s g = true) := h2
      clear h2 c0 c1 c2 c3 d0 d1 d2 d3
      go_wp2
      go_ret
      exact ⟨ret_int (by rw [← hz.out]; simp [fcmp, h1'.out, h2'.out]), b2⟩
  · have h1' : Hid (overB n i s g n' i' s' g' = true) := h1
    clear h1 c0 c1 c2 c3 d0 d1 d2 d3
    go_wp2
    go_ret
    exact ⟨ret_int (by rw [← hz.out]; simp [fcmp, h1'.out]), b1⟩
set_option maxRecDepth 20000 in
theorem boClo_any (n i s : Int) (g : Bool)  (pb : Nat) (w : World) (hp : w.cell? ⟨pb, 0, none⟩ = some (.func (.func 97) #[] #[]))   (b : Bool) (hb : fokB n i s = b) :
    Calls Tryz.prog 137 #[.agg #[.int .i64 n, .int .i64 i, .int .i64 s, .bool g], .pointer (some ⟨pb, 0, none⟩)] w fun r w' => r = .returned (.bool (!b)) ∧ Below w.heap.size w w' := by
  have hb' : Hid (fokB n i s = b) := hb
  clear hb
  have b0 := balloc (.cells #[.int .i64 n, .int .i64 i, .int .i64 s, .bool g] 57) (Below.refl w.heap.size w)
  have X := Ws.box (w := w) #[.int .i64 n, .int .i64 i, .int .i64 s, .bool g] 57
  have dp := keep_alloc (.cells #[.int .i64 n, .int .i64 i, .int .i64 s, .bool g] 57) hp
  go_enter Tryz.func137, Tryz.ntmps137
  go_upto_region 1 with fail
  generalize w.alloc (.cells #[.int .i64 n, .int .i64 i, .int .i64 s, .bool g] 57) = u at *
  have ee0 := X.c 0 (.int .i64 n) rfl
  have ee1 := X.c 1 (.int .i64 i) rfl
  have ee2 := X.c 2 (.int .i64 s) rfl
  have ee3 := X.c 3 (.bool g) rfl
  clear X
  go_wp2_with fail
  refine (fok_below n i s g _).mono ?_
  rintro r w2 ⟨rfl, k2⟩
  rw [hb'.out]
  clear dp hp ee0 ee1 ee2 ee3
  go_wp2
  go_ret
  exact ⟨rfl, btrans b0 k2⟩
/-- all facts are ok -/
def boA  (len : Nat) (G : Nat → Fc) : Bool := decide (∀ k, k < len → fokB (G k).n (G k).i (G k).s = true)
set_option maxRecDepth 20000 in
set_option maxHeartbeats 1000000 in
theorem boIdx_any (a : Option Addr) (len cap : Nat) (G : Nat → Fc)  (pb : Nat) (w : World) (hG : FSl w a len G) (hm : len ≤ 1048576)  (hp : w.cell? ⟨pb, 0, none⟩ = some (.func (.func 97) #[] #[]))  :
    Calls Tryz.prog 108 #[.slice a len cap, .func (.func 137) #[] #[.pointer (some ⟨pb, 0, none⟩)]] w fun e w' => ∃ r : Int, e = .returned (.int .i64 r) ∧ ((boA  len G = true ∧ r = -1) ∨ (boA  len G = false ∧ 0 ≤ r)) ∧ Below w.heap.size w w' := by
  go_enter Tryz.func108, Tryz.ntmps108
  go_wp2
  go_loopw [5, 8] (fun _ i wr => ∃ k : Nat, k ≤ len ∧ i = .int .i64 k ∧ Below w.heap.size w wr ∧ (∀ j, j < k → fokB (G j).n (G j).i (G j).s = true)) (fun _ i _ => len - (intOf i).toNat)
  case atStart => exact ⟨0, by omega, rfl, Below.refl _ _, fun j h1 => by omega⟩
  case round =>
    obtain ⟨k, hk, rfl, hb, hall⟩ := hrel
    by_cases hlt : k < len
    · obtain ⟨b, off, rfl, hbl, hf⟩ := hG (by omega)
      obtain ⟨c0, c1, c2, c3⟩ := (hf.below hb hbl) k hlt
      have i0 : (0 : Int) ≤ (k : Int) := by omega
      have i1 : (k : Int) < (len : Int) := by omega
      have hpr := keep_below hb hp
      cases ho : fokB (G k).n (G k).i (G k).s
      · have ho' : Hid (fokB (G k).n (G k).i (G k).s = false) := ho
        clear ho
        go_wp2_with (go_at_call 137; refine (boClo_any _ _ _ _  pb _ hpr   false ho'.out).mono ?_; rintro e w1 ⟨rfl, b1⟩)
        go_ret
        refine ⟨k, rfl, .inr ⟨?_, by omega⟩, btrans hb b1⟩
        unfold boA
        refine decide_eq_false fun h => ?_
        have h1 := h k hlt
        rw [ho'.out] at h1
        cases h1
      · have ho' : Hid (fokB (G k).n (G k).i (G k).s = true) := ho
        clear ho
        go_wp2_with (go_at_call 137; refine (boClo_any _ _ _ _  pb _ hpr   true ho'.out).mono ?_; rintro e w1 ⟨rfl, b1⟩)
        go_roundw
        case rel => exact ⟨k + 1, by omega, by go_num, btrans hb b1, fun j hj => by
          by_cases e : j = k
          · subst e; exact ho'.out
          · exact hall j (by omega)⟩
        case measure => simp [intOf]; omega
    · go_wp2
      go_ret
      refine ⟨-1, rfl, .inl ⟨?_, rfl⟩, hb⟩
      unfold boA
      rw [decide_eq_true_iff]
      exact fun j hj => hall j (by omega)
theorem boCont_any (a : Option Addr) (len cap : Nat) (G : Nat → Fc)  (pb : Nat) (w : World) (hG : FSl w a len G) (hm : len ≤ 1048576)  (hp : w.cell? ⟨pb, 0, none⟩ = some (.func (.func 97) #[] #[]))  :
    Calls Tryz.prog 136 #[.slice a len cap, .func (.func 137) #[] #[.pointer (some ⟨pb, 0, none⟩)]] w fun e w' => e = .returned (.bool (!boA  len G)) ∧ Below w.heap.size w w' := by
  go_enter Tryz.func136, Tryz.ntmps136
  go_wp2_with fail
  refine (boIdx_any a len cap G  pb _ hG hm  hp ).mono ?_
  rintro e w1 ⟨r, rfl, hr, b1⟩
  rcases hr with ⟨hs, rfl⟩ | ⟨hs, hr⟩
  · have hs' : Hid (boA  len G = true) := hs
    clear hs
    go_wp2
    go_ret
    exact ⟨ret_bool (by rw [hs'.out]; rfl), b1⟩
  · have hs' : Hid (boA  len G = false) := hs
    clear hs
    go_wp2
    go_ret
    exact ⟨ret_bool (by rw [hs'.out]; simp <;> omega), b1⟩
theorem boAll_any (a : Option Addr) (len cap : Nat) (G : Nat → Fc)  (w : World) (hG : FSl w a len G) (hm : len ≤ 1048576)   :
    Calls Tryz.prog 96 #[.slice a len cap, (.func (.func 97) #[] #[])] w fun e w' => e = .returned (.bool (boA  len G)) ∧ Below w.heap.size w w' := by
  have b0 := balloc (.cells #[(.func (.func 97) #[] #[])] 96) (Below.refl w.heap.size w)
  have X := Ws.box (w := w) #[(.func (.func 97) #[] #[])] 96
  have dp := X.c 0 (.func (.func 97) #[] #[]) rfl
  go_enter Tryz.func96, Tryz.ntmps96
  go_upto_region 1 with fail
  generalize w.alloc (.cells #[(.func (.func 97) #[] #[])] 96) = u at *
  clear X
  go_wp2_with fail
  refine (boCont_any a len cap G  _ _ (hG.below b0) hm  dp ).mono ?_
  rintro e w1 ⟨rfl, b1⟩
  clear dp
  go_wp2
  go_ret
  exact ⟨ret_bool (by simp), btrans b0 b1⟩
/-- two facts, compared -/
def fcm (f g : Fc) : Int := fcmp f.n f.i f.s f.g g.n g.i g.s g.g
def fle (f g : Fc) : Bool := lessB f.n f.i f.s f.g g.n g.i g.s g.g
/-- facts in order, as the program asks -/
def bornB (len : Nat) (F : Nat → Fc) : Bool := decide (∀ k, k < len → 0 < k → fcm (F (k - 1)) (F k) < 0) && boA len F
set_option maxRecDepth 20000 in
set_option maxHeartbeats 2000000 in
theorem born_any (a : Option Addr) (len cap : Nat) (F : Nat → Fc) (w : World) (h : FSl w a len F) (hl : len ≤ 1048576) :
    Calls Tryz.prog 53 #[.slice a len cap] w fun e w' => e = .returned (.bool (bornB len F)) ∧ Below w.heap.size w w' := by
  go_enter Tryz.func53, Tryz.ntmps53
  go_wp2
  go_loopw [3] (fun i wr => ∃ k : Nat, (k = 0 ∨ k < len) ∧ i = .int .i64 ((k : Int) + 1) ∧ Below w.heap.size w wr ∧ (∀ j, j < k + 1 → 0 < j → fcm (F (j - 1)) (F j) < 0)) (fun i _ => len - (intOf i).toNat)
  case atStart => exact ⟨0, .inl rfl, rfl, Below.refl _ _, fun j hj h0 => by omega⟩
  case round =>
    obtain ⟨k, hk, rfl, hb, hall⟩ := hrel
    by_cases hlt : k + 1 < len
    · obtain ⟨b, off, rfl, hbl, hf⟩ := h (by omega)
      obtain ⟨c0, c1, c2, c3⟩ := (hf.below hb hbl) k (by omega)
      obtain ⟨d0, d1, d2, d3⟩ := (hf.below hb hbl) (k + 1) hlt
      have hw1 : IntKind.i64.wrap ((k : Int) + 1 - 1) = (k : Int) := by rw [IntKind.wrap_i64]; omega
      have i0 : (0 : Int) ≤ (k : Int) := by omega
      have i1 : (k : Int) < (len : Int) := by omega
      have i2 : (0 : Int) ≤ (k : Int) + 1 := by omega
      have i3 : (k : Int) + 1 < (len : Int) := by omega
      have i4 : IntKind.i64.wrap (k : Int) = (k : Int) := by rw [IntKind.wrap_i64]; omega
      obtain ⟨z, hz⟩ : ∃ z, Hid (fcm (F k) (F (k + 1)) = z) := ⟨_, rfl⟩
      have ct : ∀ w : World, Calls Tryz.prog 95 #[.agg #[.int .i64 (F k).n, .int .i64 (F k).i, .int .i64 (F k).s, .bool (F k).g], .agg #[.int .i64 (F (k + 1)).n, .int .i64 (F (k + 1)).i, .int .i64 (F (k + 1)).s, .bool (F (k + 1)).g]] w fun r w' => r = .returned (.int .i64 z) ∧ Below w.heap.size w w' := fun w => by
        rw [← hz.out]; exact fcmp_any _ _ _ _ _ _ _ _ w
      have hall' : Hid (z < 0 → ∀ j, j < k + 1 + 1 → 0 < j → fcm (F (j - 1)) (F j) < 0) := fun q j hj h0 => by
        by_cases e : j = k + 1
        · subst e; rw [Nat.add_sub_cancel, hz.out]; exact q
        · exact hall j (by omega) h0
      have hno : Hid (¬ z < 0 → bornB len F = false) := fun q => by
        unfold bornB
        rw [Bool.and_eq_false_iff]
        refine .inl (decide_eq_false fun hh => q ?_)
        have := hh (k + 1) hlt (by omega)
        rw [Nat.add_sub_cancel, hz.out] at this
        exact this
      clear hall
      generalize F k = x at *
      generalize F (k + 1) = y at *
      obtain ⟨n, i, s, g⟩ := x
      obtain ⟨n', i', s', g'⟩ := y
      dsimp only at c0 c1 c2 c3 d0 d1 d2 d3 ct
      clear hz
      go_wp2_with fail
      go_region_held3 (fun w' => w'.cell? ⟨b, off + k * 4, none⟩ = some (.int .i64 n) ∧ w'.cell? ⟨b, off + k * 4 + 1, none⟩ = some (.int .i64 i) ∧ w'.cell? ⟨b, off + k * 4 + 2, none⟩ = some (.int .i64 s) ∧ w'.cell? ⟨b, off + k * 4 + 3, none⟩ = some (.bool g) ∧ w'.cell? ⟨b, off + (k + 1) * 4, none⟩ = some (.int .i64 n') ∧ w'.cell? ⟨b, off + (k + 1) * 4 + 1, none⟩ = some (.int .i64 i') ∧ w'.cell? ⟨b, off + (k + 1) * 4 + 2, none⟩ = some (.int .i64 s') ∧ w'.cell? ⟨b, off + (k + 1) * 4 + 3, none⟩ = some (.bool g')) (refine ⟨?_, ?_, ?_, ?_, ?_, ?_, ?_, ?_⟩ <;> (repeat (first | with_reducible assumption | with_reducible refine keep_drew ?_ | with_reducible refine keep_below (by assumption) ?_))) (first | (go_at_call 95; refine (ct _).mono ?_; rintro e w1 ⟨rfl, b1⟩))
      clear ct c0 c1 c2 c3 d0 d1 d2 d3
      by_cases hzz : z < 0
      · have e4 := hall'.out hzz
        clear hall' hno
        go_wp2
        go_roundw
        case rel => exact ⟨k + 1, .inr hlt, by go_num, btrans hb.drew b1, e4⟩
        case measure => simp [intOf]; omega
      · have hno' : Hid (bornB len F = false) := hno.out (by omega)
        clear hall' hno
        go_wp2
        go_ret
        exact ⟨ret_bool hno'.out.symm, btrans hb.drew b1⟩
    · go_wp2_with fail
      refine (boAll_any a len cap F _ (h.below hb) hl).mono ?_
      rintro e w1 ⟨rfl, b1⟩
      go_wp2
      go_ret
      refine ⟨ret_bool ?_, btrans hb b1⟩
      unfold bornB
      rw [decide_eq_true fun j hj h0 => hall j (by omega) h0, Bool.true_and]
/-- facts in order, as the document asks -/
def bornS (len : Nat) (F : Nat → Fc) : Bool := decide (∀ k, k < len → fokB (F k).n (F k).i (F k).s = true ∧ (0 < k → fle (F (k - 1)) (F k) = true))
theorem l3_anti {i s i' s' : Int} {g g' : Bool} (h : l3B i s g i' s' g' = true) : l3B i' s' g' i s g = false := by
  unfold l3B at *
  by_cases e1 : i = i'
  · subst e1
    by_cases e2 : s = s'
    · subst e2
      revert h
      cases g <;> cases g' <;> simp
    · have e3 : ¬ s' = s := fun q => e2 q.symm
      simp [e2] at h
      simp [e3]
      omega
  · have e3 : ¬ i' = i := fun q => e1 q.symm
    simp [e1] at h
    simp [e3]
    omega
theorem fcm_less {f g : Fc} (hf : fokB f.n f.i f.s = true) (hg : fokB g.n g.i g.s = true) : fcm f g < 0 ↔ fle f g = true := by
  unfold fcm fle fcmp lessB overB
  rw [hf, hg]
  by_cases e : f.n = g.n
  · simp only [e, Bool.true_and, decide_true, ne_eq, not_true, if_false]
    cases h1 : l3B g.i g.s g.g f.i f.s f.g
    · simp [icmp]
      split <;> omega
    · simp [l3_anti h1]
  · have e' : ¬ g.n = f.n := fun h => e h.symm
    simp [e, e', icmp]
    constructor
    · intro h
      split at h
      · assumption
      · split at h <;> omega
    · intro h
      rw [if_pos h]
      omega
theorem born_same (len : Nat) (F : Nat → Fc) : bornB len F = bornS len F := by
  unfold bornB bornS boA
  by_cases h : ∀ k, k < len → fokB (F k).n (F k).i (F k).s = true
  · rw [decide_eq_true h, Bool.and_true]
    congr 1
    apply propext
    constructor
    · exact fun q k hk => ⟨h k hk, fun h0 => (fcm_less (h _ (by omega)) (h k hk)).1 (q k hk h0)⟩
    · exact fun q k hk h0 => (fcm_less (h _ (by omega)) (h k hk)).2 ((q k hk).2 h0)
  · rw [decide_eq_false h, Bool.and_false]
    symm
    exact decide_eq_false fun q => h fun k hk => (q k hk).1
end Go.Proofs.YtoimfgfhlbkdcaaGreatDoor
/- Worlds: whether a world is ok, as the document asks. -/
namespace Go.Proofs.YtoimfgfhlbkdcaaGreatDoor
open Go.ChangeShapes Go.WideShapes Go.ChangeAt Go.RowKit
/-- nodes in their places, sides -/
def sdnB (nl : Nat) (nd : Nat → Nod) (SD : Nat → Int) : Bool := decide (∀ k, k < nl → nokB k (nd k) = true ∧ inb (SD k) 0 2 = true)
theorem sdn_no {nl : Nat} {nd : Nat → Nod} {SD : Nat → Int} {k : Nat} (hk : k < nl) (q : (nokB k (nd k) && inb (SD k) 0 2) = false) : sdnB nl nd SD = false :=
  decide_eq_false fun hh => by
    rw [(hh k hk).1, (hh k hk).2] at q
    cases q
theorem sdn_yes {nl : Nat} {nd : Nat → Nod} {SD : Nat → Int} (h : ∀ k, k < nl → nokB k (nd k) = true ∧ inb (SD k) 0 2 = true) : sdnB nl nd SD = true := decide_eq_true h
theorem fta_no {rl : Nat} {FR : Nat → Ft} {k : Nat} (hk : k < rl) (q : ftB (FR k).t (FR k).x = false) : ftA rl FR = false :=
  decide_eq_false fun hh => by
    rw [hh k hk] at q
    cases q
theorem fta_yes {rl : Nat} {FR : Nat → Ft} (h : ∀ k, k < rl → ftB (FR k).t (FR k).x = true) : ftA rl FR = true := decide_eq_true h
theorem born_no {bl : Nat} {BF : Nat → Fc} {k : Nat} (hk : k < bl) (q : fokB (BF k).n (BF k).i (BF k).s = false) : bornS bl BF = false :=
  decide_eq_false fun hh => by
    rw [(hh k hk).1] at q
    cases q
theorem born_no2 {bl : Nat} {BF : Nat → Fc} {k : Nat} (hk : k + 1 < bl) (q : fle (BF k) (BF (k + 1)) = false) : bornS bl BF = false :=
  decide_eq_false fun hh => by
    have := (hh (k + 1) hk).2 (by omega)
    rw [Nat.add_sub_cancel, q] at this
    cases this
theorem born_yes {bl : Nat} {BF : Nat → Fc} (h : ∀ k, k < bl → fokB (BF k).n (BF k).i (BF k).s = true ∧ (0 < k → fle (BF (k - 1)) (BF k) = true)) : bornS bl BF = true := decide_eq_true h
/-- a world is ok -/
def wldB (nl : Nat) (nd : Nat → Nod) (rl : Nat) (FR : Nat → Ft) (sl : Nat) (SD : Nat → Int) (bl : Nat) (BF : Nat → Fc) : Bool :=
  decide (nl = 8) && decide (sl = 8) && decide (rl ≤ 60) && sdnB nl nd SD && ftA rl FR && bornS bl BF
/-- a world can be read -/
structure WdR (w : World) (na : Option Addr) (nl : Nat) (ra : Option Addr) (rl : Nat) (sa : Option Addr) (sl : Nat) (ba : Option Addr) (bl : Nat) (nd : Nat → Nod) (FR : Nat → Ft) (SD : Nat → Int) (BF : Nat → Fc) : Prop where
  n : NdL w na nl nd
  r : FtSl w ra rl FR
  s : ISl w sa sl SD
  b : FSl w ba bl BF
  hn : nl ≤ 1048576
  hr : rl ≤ 1048576
  hs : sl ≤ 1048576
  hb : bl ≤ 1048576
theorem WdR.below {w w' : World} {na : Option Addr} {nl : Nat} {ra : Option Addr} {rl : Nat} {sa : Option Addr} {sl : Nat} {ba : Option Addr} {bl : Nat} {nd : Nat → Nod} {FR : Nat → Ft} {SD : Nat → Int} {BF : Nat → Fc} (h : WdR w na nl ra rl sa sl ba bl nd FR SD BF) (k : Below w.heap.size w w') : WdR w' na nl ra rl sa sl ba bl nd FR SD BF :=
  ⟨h.n.below k, h.r.below k, h.s.below k, h.b.below k, h.hn, h.hr, h.hs, h.hb⟩
def s6_6 : List Stp := [⟨some 32, .fieldAddr 34 (.tmp 1) 0, 0, none, 0⟩, ⟨some 33, .load 30 (.tmp 32), 30, none, 0⟩, ⟨some 34, .move (.tmp 3), 3, none, 0⟩, ⟨some 35, .indexAddr 30 (.tmp 33) (.tmp 34), 0, none, 0⟩, ⟨some 36, .fieldAddr 52 (.tmp 35) 0, 0, none, 0⟩, ⟨some 37, .load 3 (.tmp 36), 3, none, 0⟩, ⟨some 38, .move (.tmp 3), 3, none, 0⟩, ⟨some 39, .binOp .neq 3 (.tmp 37) (.tmp 38) 3, 4, none, 2⟩, ⟨some 40, .move (.tmp 39), 4, none, 0⟩, ⟨some 41, .fieldAddr 34 (.tmp 1) 0, 0, some (40, false), 0⟩, ⟨some 42, .load 30 (.tmp 41), 30, some (40, false), 0⟩, ⟨some 43, .move (.tmp 3), 3, some (40, false), 0⟩, ⟨some 44, .indexAddr 30 (.tmp 42) (.tmp 43), 0, some (40, false), 0⟩, ⟨some 45, .fieldAddr 52 (.tmp 44) 3, 0, some (40, false), 0⟩, ⟨some 46, .load 4 (.tmp 45), 4, some (40, false), 0⟩, ⟨some 47, .move (.tmp 3), 3, some (40, false), 0⟩, ⟨some 48, .call { callee := .value (.func 41), args := #[.tmp 47], argTypes := #[3] }, 4, some (40, false), 1⟩, ⟨some 49, .binOp .neq 4 (.tmp 46) (.tmp 48) 4, 4, some (40, false), 2⟩, ⟨some 50, .pick (.tmp 40) (.const (.bool true)) (.tmp 49), 4, none, 0⟩, ⟨some 51, .move (.tmp 50), 4, none, 0⟩, ⟨some 52, .fieldAddr 34 (.tmp 1) 0, 0, some (51, false), 0⟩, ⟨some 53, .load 30 (.tmp 52), 30, some (51, false), 0⟩, ⟨some 54, .move (.tmp 3), 3, some (51, false), 0⟩, ⟨some 55, .indexAddr 30 (.tmp 53) (.tmp 54), 0, some (51, false), 0⟩, ⟨some 56, .load 52 (.tmp 55), 52, some (51, false), 0⟩, ⟨some 57, .call { callee := .value (.func 42), args := #[.tmp 56], argTypes := #[52] }, 4, some (51, false), 1⟩, ⟨some 58, .unOp .not 4 (.tmp 57), 4, some (51, false), 2⟩, ⟨some 59, .pick (.tmp 51) (.const (.bool true)) (.tmp 58), 4, none, 0⟩, ⟨some 60, .move (.tmp 59), 4, none, 0⟩, ⟨some 61, .fieldAddr 34 (.tmp 1) 2, 0, some (60, false), 0⟩, ⟨some 62, .load 24 (.tmp 61), 24, some (60, false), 0⟩, ⟨some 63, .move (.tmp 3), 3, some (60, false), 0⟩, ⟨some 64, .indexAddr 24 (.tmp 62) (.tmp 63), 0, some (60, false), 0⟩, ⟨some 65, .load 3 (.tmp 64), 3, some (60, false), 0⟩, ⟨some 66, .call { callee := .value (.func 43), args := #[.tmp 65, .const (.int .i64 0), .const (.int .i64 2)], argTypes := #[3, 3, 3] }, 4, some (60, false), 1⟩, ⟨some 67, .unOp .not 4 (.tmp 66), 4, some (60, false), 2⟩, ⟨some 68, .pick (.tmp 60) (.const (.bool true)) (.tmp 67), 4, none, 0⟩]
def t6_6 : List (Nat × Nat) := [(0, 0), (1, 0), (2, 0), (3, 0), (4, 0), (5, 0), (6, 0), (7, 2), (8, 0), (9, 0), (10, 0), (11, 0), (12, 0), (13, 0), (14, 0), (15, 0), (16, 1), (17, 2), (18, 0), (19, 0), (20, 0), (21, 0), (22, 0), (23, 0), (24, 0), (25, 1), (26, 2), (27, 0), (28, 0), (29, 0), (30, 0), (31, 0), (32, 0), (33, 0), (34, 1), (35, 2), (36, 0)]
def s6_16 : List Stp := [⟨some 101, .fieldAddr 34 (.tmp 1) 3, 0, none, 0⟩, ⟨some 102, .load 32 (.tmp 101), 32, none, 0⟩, ⟨some 103, .move (.tmp 5), 3, none, 0⟩, ⟨some 104, .indexAddr 32 (.tmp 102) (.tmp 103), 0, none, 0⟩, ⟨some 105, .load 57 (.tmp 104), 57, none, 0⟩, ⟨some 106, .call { callee := .value (.func 44), args := #[.tmp 105], argTypes := #[57] }, 4, none, 1⟩, ⟨some 107, .unOp .not 4 (.tmp 106), 4, none, 2⟩, ⟨some 108, .move (.tmp 107), 4, none, 0⟩, ⟨some 109, .move (.tmp 5), 3, some (108, false), 0⟩, ⟨some 110, .binOp .gtr 3 (.tmp 109) (.const (.int .i64 0)) 3, 4, some (108, false), 2⟩, ⟨some 111, .move (.tmp 110), 4, some (108, false), 0⟩, ⟨some 112, .fieldAddr 34 (.tmp 1) 3, 0, some (111, true), 0⟩, ⟨some 113, .load 32 (.tmp 112), 32, some (111, true), 0⟩, ⟨some 114, .move (.tmp 5), 3, some (111, true), 0⟩, ⟨some 115, .binOp .sub 3 (.tmp 114) (.const (.int .i64 1)) 3, 3, some (111, true), 0⟩, ⟨some 116, .indexAddr 32 (.tmp 113) (.tmp 115), 0, some (111, true), 0⟩, ⟨some 117, .load 57 (.tmp 116), 57, some (111, true), 0⟩, ⟨some 118, .fieldAddr 34 (.tmp 1) 3, 0, some (111, true), 0⟩, ⟨some 119, .load 32 (.tmp 118), 32, some (111, true), 0⟩, ⟨some 120, .move (.tmp 5), 3, some (111, true), 0⟩, ⟨some 121, .indexAddr 32 (.tmp 119) (.tmp 120), 0, some (111, true), 0⟩, ⟨some 122, .load 57 (.tmp 121), 57, some (111, true), 0⟩, ⟨some 123, .call { callee := .value (.func 45), args := #[.tmp 117, .tmp 122], argTypes := #[57, 57] }, 4, some (111, true), 1⟩, ⟨some 124, .unOp .not 4 (.tmp 123), 4, some (111, true), 2⟩, ⟨some 125, .pick (.tmp 111) (.tmp 124) (.const (.bool false)), 4, some (108, false), 0⟩, ⟨some 126, .pick (.tmp 108) (.const (.bool true)) (.tmp 125), 4, none, 0⟩]
def t6_16 : List (Nat × Nat) := [(0, 0), (1, 0), (2, 0), (3, 0), (4, 0), (5, 1), (6, 2), (7, 0), (8, 0), (9, 2), (10, 0), (11, 0), (12, 0), (13, 0), (14, 0), (15, 0), (16, 0), (17, 0), (18, 0), (19, 0), (20, 0), (21, 0), (22, 1), (23, 2), (24, 0), (25, 0)]
set_option maxRecDepth 20000 in
set_option maxHeartbeats 8000000 in
theorem wldS_any (na : Option Addr) (nl nc : Nat) (ra : Option Addr) (rl rc : Nat) (sa : Option Addr) (sl sc : Nat) (ba : Option Addr) (bl bc : Nat) (nd : Nat → Nod) (FR : Nat → Ft) (SD : Nat → Int) (BF : Nat → Fc) (w : World) (h : WdR w na nl ra rl sa sl ba bl nd FR SD BF) :
    Calls Tryz.prog 16 #[.agg #[.slice na nl nc, .slice ra rl rc, .slice sa sl sc, .slice ba bl bc]] w fun e w' => e = .returned (.bool (wldB nl nd rl FR sl SD bl BF)) ∧ Below w.heap.size w w' := by
  have b0 := balloc (.cells #[.slice na nl nc, .slice ra rl rc, .slice sa sl sc, .slice ba bl bc] 34) (Below.refl w.heap.size w)
  have X := Ws.box (w := w) #[.slice na nl nc, .slice ra rl rc, .slice sa sl sc, .slice ba bl bc] 34
  have h0 := h.below b0
  go_enter Tryz.func16, Tryz.ntmps16
  go_upto_region 1 with fail
  generalize w.alloc (.cells #[.slice na nl nc, .slice ra rl rc, .slice sa sl sc, .slice ba bl bc] 34) = u at *
  have e0 := X.c 0 (.slice na nl nc) rfl
  have e1 := X.c 1 (.slice ra rl rc) rfl
  have e2 := X.c 2 (.slice sa sl sc) rfl
  have e3 := X.c 3 (.slice ba bl bc) rfl
  clear X h
  obtain ⟨KB, hKB⟩ : ∃ K, Hid (w.heap.size = K) := ⟨_, rfl⟩
  by_cases h1 : nl = 8
  case neg =>
    have h1' : ¬ (nl : Int) = 8 := by omega
    have hno : Hid (wldB nl nd rl FR sl SD bl BF = false) := by
      unfold Hid wldB
      rw [decide_eq_false h1]
      simp
    clear h1
    go_wp2
    go_ret
    exact ⟨ret_bool hno.out.symm, b0⟩
  subst h1
  by_cases h2 : sl = 8
  case neg =>
    have h2' : ¬ (sl : Int) = 8 := by omega
    have hno : Hid (wldB 8 nd rl FR sl SD bl BF = false) := by
      unfold Hid wldB
      rw [decide_eq_false h2]
      simp
    clear h2
    go_wp2
    go_ret
    exact ⟨ret_bool hno.out.symm, b0⟩
  subst h2
  by_cases h3 : rl ≤ 60
  case neg =>
    have h3' : (60 : Int) < (rl : Int) := by omega
    have hno : Hid (wldB 8 nd rl FR 8 SD bl BF = false) := by
      unfold Hid wldB
      rw [decide_eq_false h3]
      simp
    clear h3
    go_wp2
    go_ret
    exact ⟨ret_bool hno.out.symm, b0⟩
  have h3' : ¬ (60 : Int) < (rl : Int) := by omega
  go_wp2
  go_loopw [3] (fun i wr => ∃ k : Nat, k ≤ 8 ∧ i = .int .i64 k ∧ Below u.heap.size u wr ∧ ∀ j, j < k → nokB j (nd j) = true ∧ inb (SD j) 0 2 = true) (fun i _ => 8 - (intOf i).toNat)
  case atStart => exact ⟨0, Nat.zero_le _, rfl, Below.refl _ _, fun j hj => by omega⟩
  case round =>
    obtain ⟨k, hk, rfl, hb, hall⟩ := hrel
    have x0 := keep_below hb e0
    have x2 := keep_below hb e2
    by_cases hlt : k < 8
    · obtain ⟨b, off, rfl, _, hf⟩ := (h0.n.below hb) (by omega)
      obtain ⟨L, c1, c2⟩ := hf k hlt
      obtain ⟨sb, so, rfl, hsl, hsf⟩ := (h0.s.below hb) (by omega)
      have d0 := hsf k hlt
      have i0 : (0 : Int) ≤ (k : Int) := by omega
      have i1 : (k : Int) < 8 := by omega
      have hno' : Hid ((nokB k (nd k) && inb (SD k) 0 2) = false → wldB 8 nd rl FR 8 SD bl BF = false) := fun q => by
        unfold wldB
        rw [sdn_no hlt q]
        simp
      have hyes : Hid ((nokB k (nd k) && inb (SD k) 0 2) = true → ∀ j, j < k + 1 → nokB j (nd j) = true ∧ inb (SD j) 0 2 = true) := fun q j hj => by
        by_cases e : j = k
        · subst e; simpa using q
        · exact hall j (by omega)
      clear hall hf hsf
      obtain ⟨n, hn⟩ : ∃ n, Hid (nd k = n) := ⟨_, rfl⟩
      obtain ⟨y, hy⟩ : ∃ y, Hid (SD k = y) := ⟨_, rfl⟩
      rw [hn.out, hy.out] at hno' hyes
      rw [hn.out] at c1 c2
      rw [hy.out] at d0
      clear hn hy
      have c0 := c1 0 (.int .i64 n.me) rfl
      have c3 := c1 3 (.bool n.gate) rfl
      simp only [Nat.add_zero] at c0
      obtain ⟨gv, hgv⟩ : ∃ g, Hid (gtB k = g) := ⟨_, rfl⟩
      have gS : ∀ w1, Calls Tryz.prog 41 #[.int .i64 (k : Int)] w1 fun r w' => r = .returned (.bool gv) ∧ Below w1.heap.size w1 w' := fun w1 => (gateS_any k w1).mono (by rintro r w' ⟨rfl, rfl⟩; exact ⟨by rw [hgv.out], Below.refl _ _⟩)
      obtain ⟨qv, hqv⟩ : ∃ g, Hid (nodQ n = g) := ⟨_, rfl⟩
      have ct : ∀ w1, Below wr.heap.size wr w1 → Calls Tryz.prog 42 #[.agg (ndC n L)] w1 fun r w' => r = .returned (.bool qv) ∧ Below w1.heap.size w1 w' := fun w1 q => by
        rw [← hqv.out]
        exact okS_nod n L w1 (c2.below q)
      obtain ⟨sv, hsv⟩ : ∃ g, Hid (inb y 0 2 = g) := ⟨_, rfl⟩
      have li : ∀ w1, Calls Tryz.prog 43 #[.int .i64 y, .int .i64 0, .int .i64 2] w1 fun r w' => r = .returned (.bool sv) ∧ Below w1.heap.size w1 w' := fun w1 => (lin_any y 0 2 w1).mono (by rintro r w' ⟨rfl, rfl⟩; exact ⟨by rw [hsv.out], Below.refl _ _⟩)
      have hnok : Hid ((nokB k n && inb y 0 2) = (decide (n.me = (k : Int)) && decide (n.gate = gv) && qv && sv)) := by
        unfold Hid nokB
        rw [hgv.out, hqv.out, hsv.out]
      clear hgv hqv hsv c2
      rw [hnok.out] at hno' hyes
      clear hnok
      go_upto_region 6 with fail
      by_cases e1 : n.me = (k : Int)
      · have y1 : Hid (n.me = (k : Int)) := e1
        clear e1
        by_cases e2 : n.gate = gv
        · have y2 : Hid (n.gate = gv) := e2
          clear e2
          cases qv
          · have hno : Hid (wldB 8 nd rl FR 8 SD bl BF = false) := hno'.out (by simp)
            clear hno' hyes
            refine wp_region_q s6_6 t6_6 (fun hbq => ?_)
            refine qY ?_
            refine qL ?_
            iterate 3 refine qY ?_
            refine qL ?_
            refine qY ?_
            refine qV (.bool false) ?_ (by (intro w; go_simp; all_goals (first | with_reducible rfl | (simp [y1.out]; done) | assumption | (simp; done) | (simp; omega))))
            iterate 2 refine qY ?_
            refine qL ?_
            iterate 3 refine qY ?_
            refine qL ?_
            refine qY ?_
            refine qC (fun K hK => ?_)
            go_simp
            refine (gS _).mono ?_; rintro r w1 ⟨rfl, k1⟩
            go_wp2_with fail
            refine hK.out _ _ (btrans hbq k1) (.inl ?_)
            clear hK K
            replace hbq := btrans hbq k1
            clear k1
            try simp only [putQ]
            refine qV (.bool false) ?_ (by (intro w; go_simp; all_goals (first | with_reducible rfl | (simp [y2.out]; done) | assumption | (simp; done) | (simp; omega))))
            iterate 3 refine qY ?_
            refine qL ?_
            iterate 2 refine qY ?_
            refine qR ?_
            refine qC (fun K hK => ?_)
            go_simp
            refine (ct _ hbq).mono ?_; rintro r w2 ⟨rfl, k2⟩
            go_wp2_with fail
            refine hK.out _ _ (btrans hbq k2) (.inl ?_)
            clear hK K
            replace hbq := btrans hbq k2
            clear k2
            try simp only [putQ]
            refine qV (.bool true) ?_
            iterate 2 refine qY ?_
            iterate 7 refine qN ?_
            refine qY ?_
            refine qE ?_
            have hb1 := btrans hb hbq
            clear ct gS li c0 c3 c1 d0 x0 x2
            go_wp2
            go_ret
            exact ⟨ret_bool hno.out.symm, btrans b0 hb1⟩
          · cases sv
            · have hno : Hid (wldB 8 nd rl FR 8 SD bl BF = false) := hno'.out (by simp)
              clear hno' hyes
              refine wp_region_q s6_6 t6_6 (fun hbq => ?_)
              refine qY ?_
              refine qL ?_
              iterate 3 refine qY ?_
              refine qL ?_
              refine qY ?_
              refine qV (.bool false) ?_ (by (intro w; go_simp; all_goals (first | with_reducible rfl | (simp [y1.out]; done) | assumption | (simp; done) | (simp; omega))))
              iterate 2 refine qY ?_
              refine qL ?_
              iterate 3 refine qY ?_
              refine qL ?_
              refine qY ?_
              refine qC (fun K hK => ?_)
              go_simp
              refine (gS _).mono ?_; rintro r w1 ⟨rfl, k1⟩
              go_wp2_with fail
              refine hK.out _ _ (btrans hbq k1) (.inl ?_)
              clear hK K
              replace hbq := btrans hbq k1
              clear k1
              try simp only [putQ]
              refine qV (.bool false) ?_ (by (intro w; go_simp; all_goals (first | with_reducible rfl | (simp [y2.out]; done) | assumption | (simp; done) | (simp; omega))))
              iterate 3 refine qY ?_
              refine qL ?_
              iterate 2 refine qY ?_
              refine qR ?_
              refine qC (fun K hK => ?_)
              go_simp
              refine (ct _ hbq).mono ?_; rintro r w2 ⟨rfl, k2⟩
              go_wp2_with fail
              refine hK.out _ _ (btrans hbq k2) (.inl ?_)
              clear hK K
              replace hbq := btrans hbq k2
              clear k2
              try simp only [putQ]
              refine qV (.bool false) ?_
              iterate 3 refine qY ?_
              refine qL ?_
              iterate 2 refine qY ?_
              refine qL ?_
              refine qC (fun K hK => ?_)
              go_simp
              refine (li _).mono ?_; rintro r w3 ⟨rfl, k3⟩
              go_wp2_with fail
              refine hK.out _ _ (btrans hbq k3) (.inl ?_)
              clear hK K
              replace hbq := btrans hbq k3
              clear k3
              try simp only [putQ]
              refine qV (.bool true) ?_
              refine qY ?_
              refine qE ?_
              have hb1 := btrans hb hbq
              clear ct gS li c0 c3 c1 d0 x0 x2
              go_wp2
              go_ret
              exact ⟨ret_bool hno.out.symm, btrans b0 hb1⟩
            · have hya := hyes.out (by rw [y1.out, y2.out]; simp)
              clear hno' hyes
              refine wp_region_q s6_6 t6_6 (fun hbq => ?_)
              refine qY ?_
              refine qL ?_
              iterate 3 refine qY ?_
              refine qL ?_
              refine qY ?_
              refine qV (.bool false) ?_ (by (intro w; go_simp; all_goals (first | with_reducible rfl | (simp [y1.out]; done) | assumption | (simp; done) | (simp; omega))))
              iterate 2 refine qY ?_
              refine qL ?_
              iterate 3 refine qY ?_
              refine qL ?_
              refine qY ?_
              refine qC (fun K hK => ?_)
              go_simp
              refine (gS _).mono ?_; rintro r w1 ⟨rfl, k1⟩
              go_wp2_with fail
              refine hK.out _ _ (btrans hbq k1) (.inl ?_)
              clear hK K
              replace hbq := btrans hbq k1
              clear k1
              try simp only [putQ]
              refine qV (.bool false) ?_ (by (intro w; go_simp; all_goals (first | with_reducible rfl | (simp [y2.out]; done) | assumption | (simp; done) | (simp; omega))))
              iterate 3 refine qY ?_
              refine qL ?_
              iterate 2 refine qY ?_
              refine qR ?_
              refine qC (fun K hK => ?_)
              go_simp
              refine (ct _ hbq).mono ?_; rintro r w2 ⟨rfl, k2⟩
              go_wp2_with fail
              refine hK.out _ _ (btrans hbq k2) (.inl ?_)
              clear hK K
              replace hbq := btrans hbq k2
              clear k2
              try simp only [putQ]
              refine qV (.bool false) ?_
              iterate 3 refine qY ?_
              refine qL ?_
              iterate 2 refine qY ?_
              refine qL ?_
              refine qC (fun K hK => ?_)
              go_simp
              refine (li _).mono ?_; rintro r w3 ⟨rfl, k3⟩
              go_wp2_with fail
              refine hK.out _ _ (btrans hbq k3) (.inl ?_)
              clear hK K
              replace hbq := btrans hbq k3
              clear k3
              try simp only [putQ]
              refine qV (.bool false) ?_
              refine qY ?_
              refine qE ?_
              have hb1 := btrans hb hbq
              clear ct gS li c0 c3 c1 d0 x0 x2
              go_wp2
              go_roundw
              case rel => exact ⟨k + 1, by omega, by go_num, hb1, hya⟩
              case measure => simp [intOf]; omega
        · have hno : Hid (wldB 8 nd rl FR 8 SD bl BF = false) := hno'.out (by simp [e2])
          clear hno' hyes
          refine wp_region_q s6_6 t6_6 (fun hbq => ?_)
          refine qY ?_
          refine qL ?_
          iterate 3 refine qY ?_
          refine qL ?_
          refine qY ?_
          refine qV (.bool false) ?_ (by (intro w; go_simp; all_goals (first | with_reducible rfl | (simp [y1.out]; done) | assumption | (simp; done) | (simp; omega))))
          iterate 2 refine qY ?_
          refine qL ?_
          iterate 3 refine qY ?_
          refine qL ?_
          refine qY ?_
          refine qC (fun K hK => ?_)
          go_simp
          refine (gS _).mono ?_; rintro r w1 ⟨rfl, k1⟩
          go_wp2_with fail
          refine hK.out _ _ (btrans hbq k1) (.inl ?_)
          clear hK K
          replace hbq := btrans hbq k1
          clear k1
          try simp only [putQ]
          refine qV (.bool true) ?_ (by (intro w; go_simp; all_goals (first | with_reducible rfl | (simp [e2]; done) | assumption | (simp; done) | (simp; omega))))
          iterate 2 refine qY ?_
          iterate 7 refine qN ?_
          iterate 2 refine qY ?_
          iterate 7 refine qN ?_
          refine qY ?_
          refine qE ?_
          have hb1 := btrans hb hbq
          clear ct gS li c0 c3 c1 d0 x0 x2
          go_wp2
          go_ret
          exact ⟨ret_bool hno.out.symm, btrans b0 hb1⟩
      · have hno : Hid (wldB 8 nd rl FR 8 SD bl BF = false) := hno'.out (by simp [e1])
        clear hno' hyes
        refine wp_region_q s6_6 t6_6 (fun hbq => ?_)
        refine qY ?_
        refine qL ?_
        iterate 3 refine qY ?_
        refine qL ?_
        refine qY ?_
        refine qV (.bool true) ?_ (by (intro w; go_simp; all_goals (first | with_reducible rfl | (simp [e1]; done) | assumption | (simp; done) | (simp; omega))))
        refine qY ?_
        iterate 9 refine qN ?_
        iterate 2 refine qY ?_
        iterate 7 refine qN ?_
        iterate 2 refine qY ?_
        iterate 7 refine qN ?_
        refine qY ?_
        refine qE ?_
        have hb1 := btrans hb hbq
        clear ct gS li c0 c3 c1 d0 x0 x2
        go_wp2
        go_ret
        exact ⟨ret_bool hno.out.symm, btrans b0 hb1⟩
    · have e : k = 8 := by omega
      subst e
      rw [show ((8 : Nat) : Int) = (8 : Int) from rfl]
      clear hlt hk
      have hN : Hid (∀ j, j < 8 → nokB j (nd j) = true ∧ inb (SD j) 0 2 = true) := hall
      clear hall
      have y1 := keep_below hb e1
      go_wp2
      clear x0 x2 y1
      go_loopw [4] (fun i w2 => ∃ k : Nat, k ≤ rl ∧ i = .int .i64 k ∧ Below u.heap.size u w2 ∧ ∀ j, j < k → ftB (FR j).t (FR j).x = true) (fun i _ => rl - (intOf i).toNat)
      case atStart => exact ⟨0, Nat.zero_le _, rfl, hb, fun j hj => by omega⟩
      case round =>
        obtain ⟨k, hk, rfl, hb2, hall⟩ := hrel
        clear hb
        have x1 := keep_below hb2 e1
        by_cases hlt : k < rl
        · obtain ⟨b, off, rfl, _, hf⟩ := (h0.r.below hb2) (by omega)
          obtain ⟨c0, c1, c2⟩ := hf k hlt
          have i0 : (0 : Int) ≤ (k : Int) := by omega
          have i1 : (k : Int) < (rl : Int) := by omega
          have hno' : Hid (ftB (FR k).t (FR k).x = false → wldB 8 nd rl FR 8 SD bl BF = false) := fun q => by
            unfold wldB
            rw [fta_no hlt q]
            simp
          have hyes : Hid (ftB (FR k).t (FR k).x = true → ∀ j, j < k + 1 → ftB (FR j).t (FR j).x = true) := fun q j hj => by
            by_cases e : j = k
            · subst e; exact q
            · exact hall j (by omega)
          clear hall hf
          obtain ⟨x, hx⟩ : ∃ x, Hid (FR k = x) := ⟨_, rfl⟩
          rw [hx.out] at hno' hyes c0 c1 c2
          clear hx
          obtain ⟨t, x, s⟩ := x
          dsimp only at hno' hyes c0 c1 c2
          obtain ⟨tv, htv⟩ : ∃ g, Hid (inb t 0 7 = g) := ⟨_, rfl⟩
          have li : ∀ w1, Calls Tryz.prog 43 #[.int .i64 t, .int .i64 0, .int .i64 7] w1 fun r w' => r = .returned (.bool tv) ∧ w' = w1 := fun w1 => (lin_any t 0 7 w1).mono (by rintro r w' ⟨rfl, rfl⟩; exact ⟨by rw [htv.out], rfl⟩)
          have hft : Hid (ftB t x = (tv && decide (x.size ≤ 300))) := by
            unfold Hid ftB
            rw [htv.out]
          clear htv
          rw [hft.out] at hno' hyes
          clear hft
          go_wp2_with fail
          refine (li _).mono ?_
          rintro r w3 ⟨rfl, rfl⟩
          cases tv
          · have hno : Hid (wldB 8 nd rl FR 8 SD bl BF = false) := hno'.out (by simp)
            clear hno' hyes
            go_wp2
            go_ret
            exact ⟨ret_bool hno.out.symm, btrans b0 hb2⟩
          · by_cases h300 : x.size ≤ 300
            · have h3a : ¬ (300 : Int) < (x.size : Int) := by omega
              have hya := hyes.out (by simp [h300])
              clear hno' hyes h300
              go_wp2
              go_roundw
              case rel => exact ⟨k + 1, by omega, by go_num, hb2, hya⟩
              case measure => simp [intOf]; omega
            · have h3a : (300 : Int) < (x.size : Int) := by omega
              have hno : Hid (wldB 8 nd rl FR 8 SD bl BF = false) := hno'.out (by simp [h300])
              clear hno' hyes h300
              go_wp2
              go_ret
              exact ⟨ret_bool hno.out.symm, btrans b0 hb2⟩
        · have e : k = rl := by omega
          subst e
          clear hlt hk
          have hT : Hid (∀ j, j < k → ftB (FR j).t (FR j).x = true) := hall
          clear hall
          have y3 := keep_below hb2 e3
          go_wp2
          clear x1 y3
          go_loopw [5] (fun i w2 => ∃ k : Nat, k ≤ bl ∧ i = .int .i64 k ∧ Below u.heap.size u w2 ∧ ∀ j, j < k → fokB (BF j).n (BF j).i (BF j).s = true ∧ (0 < j → fle (BF (j - 1)) (BF j) = true)) (fun i _ => bl - (intOf i).toNat)
          case atStart => exact ⟨0, Nat.zero_le _, rfl, hb2, fun j hj => by omega⟩
          case round =>
            obtain ⟨m, hm, rfl, hb, hall⟩ := hrel
            clear hb2
            have x3 := keep_below hb e3
            by_cases hlt : m < bl
            · obtain ⟨b, off, rfl, _, hf⟩ := (h0.b.below hb) (by omega)
              obtain ⟨c0, c1, c2, c3⟩ := hf m hlt
              have hno' : Hid (fokB (BF m).n (BF m).i (BF m).s = false → wldB 8 nd k FR 8 SD bl BF = false) := fun q => by
                unfold wldB
                rw [born_no hlt q]
                simp
              cases m with
              | zero =>
                have hyes : Hid (fokB (BF 0).n (BF 0).i (BF 0).s = true → ∀ j, j < 0 + 1 → fokB (BF j).n (BF j).i (BF j).s = true ∧ (0 < j → fle (BF (j - 1)) (BF j) = true)) := fun q j hj => by
                  obtain rfl : j = 0 := by omega
                  exact ⟨q, fun z => by omega⟩
                clear hall hf
                obtain ⟨x, hx⟩ : ∃ x, Hid (BF 0 = x) := ⟨_, rfl⟩
                rw [hx.out] at hno' hyes c0 c1 c2 c3
                clear hx
                obtain ⟨n, i, s, g⟩ := x
                dsimp only at hno' hyes c0 c1 c2 c3
                obtain ⟨fv, hfv⟩ : ∃ g, Hid (fokB n i s = g) := ⟨_, rfl⟩
                have fk : ∀ w1, Calls Tryz.prog 44 #[.agg #[.int .i64 n, .int .i64 i, .int .i64 s, .bool g]] w1 fun r w' => r = .returned (.bool fv) ∧ Below w1.heap.size w1 w' := fun w1 => sfok_lit n i s g fv hfv.out w1
                rw [hfv.out] at hno' hyes
                clear hfv
                simp only [Nat.zero_mul, Nat.add_zero] at c0 c1 c2 c3
                have hrg := range4 c0 c1 c2 c3
                have i1 : (0 : Int) < (bl : Int) := by omega
                rw [show ((0 : Nat) : Int) = (0 : Int) from rfl]
                go_upto_region 16 with fail
                cases fv
                · have hno : Hid (wldB 8 nd k FR 8 SD bl BF = false) := hno'.out rfl
                  clear hno' hyes
                  refine wp_region_q s6_16 t6_16 (fun hbq => ?_)
                  refine qY ?_
                  refine qL ?_
                  iterate 2 refine qY ?_
                  refine qR ?_
                  refine qC (fun K hK => ?_)
                  go_simp
                  refine (fk _).mono ?_; rintro r w1 ⟨rfl, k1⟩
                  go_wp2_with fail
                  refine hK.out _ _ (btrans hbq k1) (.inl ?_)
                  clear hK K
                  replace hbq := btrans hbq k1
                  clear k1
                  try simp only [putQ]
                  refine qV (.bool true) ?_
                  refine qY ?_
                  iterate 17 refine qN ?_
                  refine qY ?_
                  refine qE ?_
                  have hb1 := btrans hb hbq
                  clear fk x3 c0 c1 c2 c3 hrg
                  go_wp2
                  go_ret
                  exact ⟨ret_bool hno.out.symm, btrans b0 hb1⟩
                · have hya := hyes.out rfl
                  clear hno' hyes
                  refine wp_region_q s6_16 t6_16 (fun hbq => ?_)
                  refine qY ?_
                  refine qL ?_
                  iterate 2 refine qY ?_
                  refine qR ?_
                  refine qC (fun K hK => ?_)
                  go_simp
                  refine (fk _).mono ?_; rintro r w1 ⟨rfl, k1⟩
                  go_wp2_with fail
                  refine hK.out _ _ (btrans hbq k1) (.inl ?_)
                  clear hK K
                  replace hbq := btrans hbq k1
                  clear k1
                  try simp only [putQ]
                  refine qV (.bool false) ?_
                  iterate 2 refine qY ?_
                  refine qV (.bool false) ?_
                  refine qY ?_
                  iterate 13 refine qN ?_
                  iterate 2 refine qY ?_
                  refine qE ?_
                  have hb1 := btrans hb hbq
                  clear fk x3 c0 c1 c2 c3 hrg
                  go_wp2
                  go_roundw
                  case rel => exact ⟨1, by omega, by go_num, hb1, hya⟩
                  case measure => simp [intOf]; omega
              | succ m =>
                obtain ⟨d0, d1, d2, d3⟩ := hf m (by omega)
                have hno2 : Hid (fle (BF m) (BF (m + 1)) = false → wldB 8 nd k FR 8 SD bl BF = false) := fun q => by
                  unfold wldB
                  rw [born_no2 hlt q]
                  simp
                have hyes : Hid (fokB (BF (m + 1)).n (BF (m + 1)).i (BF (m + 1)).s = true → fle (BF m) (BF (m + 1)) = true → ∀ j, j < m + 1 + 1 → fokB (BF j).n (BF j).i (BF j).s = true ∧ (0 < j → fle (BF (j - 1)) (BF j) = true)) := fun q q2 j hj => by
                  by_cases e : j = m + 1
                  · subst e; exact ⟨q, fun _ => by rw [Nat.add_sub_cancel]; exact q2⟩
                  · exact hall j (by omega)
                clear hall hf
                obtain ⟨x, hx⟩ : ∃ x, Hid (BF (m + 1) = x) := ⟨_, rfl⟩
                obtain ⟨y, hy⟩ : ∃ x, Hid (BF m = x) := ⟨_, rfl⟩
                rw [hx.out] at hno' hno2 hyes c0 c1 c2 c3
                rw [hy.out] at hno2 hyes d0 d1 d2 d3
                clear hx hy
                unfold fle at hno2 hyes
                obtain ⟨n, i, s, g⟩ := x
                obtain ⟨n', i', s', g'⟩ := y
                dsimp only at hno' hno2 hyes c0 c1 c2 c3 d0 d1 d2 d3
                obtain ⟨fv, hfv⟩ : ∃ g, Hid (fokB n i s = g) := ⟨_, rfl⟩
                have fk : ∀ w1, Calls Tryz.prog 44 #[.agg #[.int .i64 n, .int .i64 i, .int .i64 s, .bool g]] w1 fun r w' => r = .returned (.bool fv) ∧ Below w1.heap.size w1 w' := fun w1 => sfok_lit n i s g fv hfv.out w1
                obtain ⟨lv, hlv⟩ : ∃ l, Hid (lessB n' i' s' g' n i s g = l) := ⟨_, rfl⟩
                have ls : ∀ w1, Calls Tryz.prog 45 #[.agg #[.int .i64 n', .int .i64 i', .int .i64 s', .bool g'], .agg #[.int .i64 n, .int .i64 i, .int .i64 s, .bool g]] w1 fun r w' => r = .returned (.bool lv) ∧ Below w1.heap.size w1 w' := fun w1 => by
                  rw [← hlv.out]
                  exact less_any n' i' s' g' n i s g w1
                have hyes' : Hid (fv = true → lv = true → ∀ j, j < m + 1 + 1 → fokB (BF j).n (BF j).i (BF j).s = true ∧ (0 < j → fle (BF (j - 1)) (BF j) = true)) := fun q q2 => hyes.out (hfv.out.trans q) (hlv.out.trans q2)
                rw [hfv.out] at hno'
                rw [hlv.out] at hno2
                clear hfv hlv hyes
                have hrg := range4 c0 c1 c2 c3
                have hrd := range4 d0 d1 d2 d3
                have e9 : ((m + 1 : Nat) : Int) = (m : Int) + 1 := by omega
                rw [e9]
                clear e9
                have hbl := h0.hb
                have i0 : (0 : Int) ≤ (m : Int) := by omega
                have i1 : (m : Int) < (bl : Int) := by omega
                have i2 : (0 : Int) ≤ (m : Int) + 1 := by omega
                have i3 : (m : Int) + 1 < (bl : Int) := by omega
                have i4 : IntKind.i64.wrap (m : Int) = (m : Int) := by have := h0.hb; rw [IntKind.wrap_i64]; omega
                have i5 : IntKind.i64.wrap ((m : Int) + 1 - 1) = (m : Int) := by have := h0.hb; rw [IntKind.wrap_i64]; omega
                have i6 : (0 : Int) < (m : Int) + 1 := by omega
                go_upto_region 16 with fail
                cases fv
                · have hno : Hid (wldB 8 nd k FR 8 SD bl BF = false) := hno'.out rfl
                  clear hno' hno2 hyes'
                  refine wp_region_q s6_16 t6_16 (fun hbq => ?_)
                  refine qY ?_
                  refine qL ?_
                  iterate 2 refine qY ?_
                  refine qR ?_
                  refine qC (fun K hK => ?_)
                  go_simp
                  refine (fk _).mono ?_; rintro r w1 ⟨rfl, k1⟩
                  go_wp2_with fail
                  refine hK.out _ _ (btrans hbq k1) (.inl ?_)
                  clear hK K
                  replace hbq := btrans hbq k1
                  clear k1
                  try simp only [putQ]
                  refine qV (.bool true) ?_
                  refine qY ?_
                  iterate 17 refine qN ?_
                  refine qY ?_
                  refine qE ?_
                  have hb1 := btrans hb hbq
                  clear fk ls x3 c0 c1 c2 c3 d0 d1 d2 d3 hrg hrd
                  go_wp2
                  go_ret
                  exact ⟨ret_bool hno.out.symm, btrans b0 hb1⟩
                · cases lv
                  · have hno : Hid (wldB 8 nd k FR 8 SD bl BF = false) := hno2.out rfl
                    clear hno' hno2 hyes'
                    refine wp_region_q s6_16 t6_16 (fun hbq => ?_)
                    refine qY ?_
                    refine qL ?_
                    iterate 2 refine qY ?_
                    refine qR ?_
                    refine qC (fun K hK => ?_)
                    go_simp
                    refine (fk _).mono ?_; rintro r w1 ⟨rfl, k1⟩
                    go_wp2_with fail
                    refine hK.out _ _ (btrans hbq k1) (.inl ?_)
                    clear hK K
                    replace hbq := btrans hbq k1
                    clear k1
                    try simp only [putQ]
                    refine qV (.bool false) ?_
                    iterate 2 refine qY ?_
                    refine qV (.bool true) ?_
                    iterate 2 refine qY ?_
                    refine qL ?_
                    iterate 3 refine qY ?_
                    refine qR ?_
                    refine qY ?_
                    refine qL ?_
                    iterate 2 refine qY ?_
                    refine qR ?_
                    refine qC (fun K hK => ?_)
                    go_simp
                    refine (ls _).mono ?_; rintro r w2 ⟨rfl, k2⟩
                    go_wp2_with fail
                    refine hK.out _ _ (btrans hbq k2) (.inl ?_)
                    clear hK K
                    replace hbq := btrans hbq k2
                    clear k2
                    try simp only [putQ]
                    refine qV (.bool true) ?_
                    iterate 2 refine qY ?_
                    refine qE ?_
                    have hb1 := btrans hb hbq
                    clear fk ls x3 c0 c1 c2 c3 d0 d1 d2 d3 hrg hrd
                    go_wp2
                    go_ret
                    exact ⟨ret_bool hno.out.symm, btrans b0 hb1⟩
                  · have hya := hyes'.out rfl rfl
                    clear hno' hno2 hyes'
                    refine wp_region_q s6_16 t6_16 (fun hbq => ?_)
                    refine qY ?_
                    refine qL ?_
                    iterate 2 refine qY ?_
                    refine qR ?_
                    refine qC (fun K hK => ?_)
                    go_simp
                    refine (fk _).mono ?_; rintro r w1 ⟨rfl, k1⟩
                    go_wp2_with fail
                    refine hK.out _ _ (btrans hbq k1) (.inl ?_)
                    clear hK K
                    replace hbq := btrans hbq k1
                    clear k1
                    try simp only [putQ]
                    refine qV (.bool false) ?_
                    iterate 2 refine qY ?_
                    refine qV (.bool true) ?_
                    iterate 2 refine qY ?_
                    refine qL ?_
                    iterate 3 refine qY ?_
                    refine qR ?_
                    refine qY ?_
                    refine qL ?_
                    iterate 2 refine qY ?_
                    refine qR ?_
                    refine qC (fun K hK => ?_)
                    go_simp
                    refine (ls _).mono ?_; rintro r w2 ⟨rfl, k2⟩
                    go_wp2_with fail
                    refine hK.out _ _ (btrans hbq k2) (.inl ?_)
                    clear hK K
                    replace hbq := btrans hbq k2
                    clear k2
                    try simp only [putQ]
                    refine qV (.bool false) ?_
                    iterate 2 refine qY ?_
                    refine qE ?_
                    have hb1 := btrans hb hbq
                    clear fk ls x3 c0 c1 c2 c3 d0 d1 d2 d3 hrg hrd
                    go_wp2
                    go_roundw
                    case rel => exact ⟨m + 1 + 1, by omega, by go_num, hb1, hya⟩
                    case measure => simp [intOf]; omega
            · have e : m = bl := by omega
              subst e
              clear hlt hm
              have hyy : Hid (wldB 8 nd k FR 8 SD m BF = true) := by
                unfold Hid wldB
                rw [sdn_yes hN.out, fta_yes hT.out, born_yes hall, decide_eq_true h3]
                rfl
              clear hall hN hT
              go_wp2
              go_ret
              exact ⟨ret_bool hyy.out.symm, btrans b0 hb⟩
end Go.Proofs.YtoimfgfhlbkdcaaGreatDoor
/- Worlds: whether a world is ok, as the program asks; how great a world is; whether worlds are equal. -/
namespace Go.Proofs.YtoimfgfhlbkdcaaGreatDoor
open Go.ChangeShapes Go.WideShapes Go.ChangeAt Go.RowKit
theorem sdn_split (m : Nat) (nd : Nat → Nod) (SD : Nat → Int) : sdnB m nd SD = (decide (∀ k, k < m → nokB k (nd k) = true) && sdA m SD) := by
  unfold sdnB sdA
  rw [← Bool.decide_and]
  congr 1
  apply propext
  exact ⟨fun q => ⟨fun k hk => (q k hk).1, fun k hk => (q k hk).2⟩, fun q k hk => ⟨q.1 k hk, q.2 k hk⟩⟩
theorem wld_same {nl : Nat} {nd : Nat → Nod} {rl : Nat} {FR : Nat → Ft} {sl : Nat} {SD : Nat → Int} {bl : Nat} {BF : Nat → Fc} : (nodesB nl nd && radB rl FR && sidB sl SD && bornB bl BF) = wldB nl nd rl FR sl SD bl BF := by
  rw [born_same]
  unfold wldB nodesB radB sidB
  by_cases h2 : sl = nl
  · subst h2
    rw [sdn_split]
    generalize bornS bl BF = a
    generalize ftA rl FR = b
    generalize sdA sl SD = c
    generalize decide (rl ≤ 60) = d
    generalize decide (∀ k, k < sl → nokB k (nd k) = true) = f
    generalize decide (sl = 8) = e
    revert a b c d f e
    decide
  · by_cases h1 : nl = 8
    · have h3 : ¬ sl = 8 := by omega
      rw [decide_eq_false h3]
      simp
    · rw [decide_eq_false h1]
      simp
set_option maxHeartbeats 1000000 in
theorem wldI_any (na : Option Addr) (nl nc : Nat) (ra : Option Addr) (rl rc : Nat) (sa : Option Addr) (sl sc : Nat) (ba : Option Addr) (bl bc : Nat) (nd : Nat → Nod) (FR : Nat → Ft) (SD : Nat → Int) (BF : Nat → Fc) (w : World) (h : WdR w na nl ra rl sa sl ba bl nd FR SD BF) :
    Calls Tryz.prog 24 #[.agg #[.slice na nl nc, .slice ra rl rc, .slice sa sl sc, .slice ba bl bc]] w fun e w' => e = .returned (.bool (wldB nl nd rl FR sl SD bl BF)) ∧ Below w.heap.size w w' := by
  have hsm := wld_same (nl := nl) (nd := nd) (rl := rl) (FR := FR) (sl := sl) (SD := SD) (bl := bl) (BF := BF)
  obtain ⟨v, hv⟩ : ∃ v, Hid (wldB nl nd rl FR sl SD bl BF = v) := ⟨_, rfl⟩
  rw [hv.out] at hsm
  rw [hv.out]
  clear hv
  have b0 := balloc (.cells #[.slice na nl nc, .slice ra rl rc, .slice sa sl sc, .slice ba bl bc] 34) (Below.refl w.heap.size w)
  have X := Ws.box (w := w) #[.slice na nl nc, .slice ra rl rc, .slice sa sl sc, .slice ba bl bc] 34
  have h0 := h.below b0
  go_enter Tryz.func24, Tryz.ntmps24
  go_upto_region 1 with fail
  generalize w.alloc (.cells #[.slice na nl nc, .slice ra rl rc, .slice sa sl sc, .slice ba bl bc] 34) = u at *
  have e0 := X.c 0 (.slice na nl nc) rfl
  have e1 := X.c 1 (.slice ra rl rc) rfl
  have e2 := X.c 2 (.slice sa sl sc) rfl
  have e3 := X.c 3 (.slice ba bl bc) rfl
  clear X h
  obtain ⟨v0, hv0⟩ : ∃ v, Hid (nodesB nl nd = v) := ⟨_, rfl⟩
  obtain ⟨v1, hv1⟩ : ∃ v, Hid (radB rl FR = v) := ⟨_, rfl⟩
  obtain ⟨v2, hv2⟩ : ∃ v, Hid (sidB sl SD = v) := ⟨_, rfl⟩
  obtain ⟨v3, hv3⟩ : ∃ v, Hid (bornB bl BF = v) := ⟨_, rfl⟩
  rw [hv0.out, hv1.out, hv2.out, hv3.out] at hsm
  have hsm' : Hid ((v0 && v1 && v2 && v3) = v) := hsm
  clear hsm
  go_wp2_with fail
  refine (nodes_any na nl nc nd _ h0.n h0.hn).mono ?_
  rintro r u1 ⟨rfl, k1⟩
  rw [hv0.out]
  have b1 := btrans b0 k1
  have h1 := h0.below k1
  replace e1 := keep_below k1 e1
  replace e2 := keep_below k1 e2
  replace e3 := keep_below k1 e3
  clear e0 hv0 h0 b0 k1
  cases v0
  · clear e1 e2 e3
    go_wp2
    go_ret
    exact ⟨ret_bool (by rw [← hsm'.out]; simp), b1⟩
  go_wp2_with fail
  refine (radio_any ra rl rc FR _ h1.r h1.hr).mono ?_
  rintro r u2 ⟨rfl, k1⟩
  rw [hv1.out]
  have b2 := btrans b1 k1
  have h2 := h1.below k1
  replace e2 := keep_below k1 e2
  replace e3 := keep_below k1 e3
  clear e1 hv1 h1 b1 k1
  cases v1
  · clear e2 e3
    go_wp2
    go_ret
    exact ⟨ret_bool (by rw [← hsm'.out]; simp), b2⟩
  go_wp2_with fail
  refine (sides_any sa sl sc SD _ h2.s h2.hs).mono ?_
  rintro r u3 ⟨rfl, k1⟩
  rw [hv2.out]
  have b3 := btrans b2 k1
  have h3 := h2.below k1
  replace e3 := keep_below k1 e3
  clear e2 hv2 h2 b2 k1
  cases v2
  · clear e3
    go_wp2
    go_ret
    exact ⟨ret_bool (by rw [← hsm'.out]; simp), b3⟩
  go_wp2_with fail
  refine (born_any ba bl bc BF _ h3.b h3.hb).mono ?_
  rintro r u4 ⟨rfl, k1⟩
  rw [hv3.out]
  have b4 := btrans b3 k1
  clear e3 hv3 h3 b3 k1
  go_wp2
  go_ret
  exact ⟨ret_bool (by rw [← hsm'.out]; simp), b4⟩
/-- a world that came in -/
structure WdRaw (w : World) (na : Option Addr) (nl : Nat) (ra : Option Addr) (rl : Nat) (sa : Option Addr) (sl sc : Nat) (ba : Option Addr) (bl bc : Nat) (R : Nat → Rn) (FR : Nat → Ft) (SD : Nat → Int) (BF : Nat → Fc) : Prop where
  n : NSl w na nl R
  nr : ∀ k, k < nl → (R k).Raw w
  r : FtSl w ra rl FR
  rx : ∀ k, k < rl → (FR k).x.size ≤ maxLen
  s : ISl w sa sl SD
  b : FSl w ba bl BF
  hn : nl ≤ maxLen
  hr : rl ≤ maxLen
  hs : sl ≤ maxLen
  hb : bl ≤ maxLen
  cs : sl ≤ sc
  cb : bl ≤ bc
/-- no part of it is too great -/
structure WdMax (nl : Nat) (R : Nat → Rn) (rl sl bl : Nat) : Prop where
  n : nl ≤ 1048576
  nm : ∀ k, k < nl → (R k).Max
  r : rl ≤ 1048576
  s : sl ≤ 1048576
  b : bl ≤ 1048576
theorem WdRaw.below {w w' : World} {na : Option Addr} {nl : Nat} {ra : Option Addr} {rl : Nat} {sa : Option Addr} {sl sc : Nat} {ba : Option Addr} {bl bc : Nat} {R : Nat → Rn} {FR : Nat → Ft} {SD : Nat → Int} {BF : Nat → Fc} (h : WdRaw w na nl ra rl sa sl sc ba bl bc R FR SD BF) (k : Below w.heap.size w w') : WdRaw w' na nl ra rl sa sl sc ba bl bc R FR SD BF :=
  ⟨h.n.below k, fun j hj => NdRaw.below (h.nr j hj) k, h.r.below k, h.rx, h.s.below k, h.b.below k, h.hn, h.hr, h.hs, h.hb, h.cs, h.cb⟩
set_option maxHeartbeats 2000000 in
theorem szWld_any (na : Option Addr) (nl nc : Nat) (ra : Option Addr) (rl rc : Nat) (sa : Option Addr) (sl sc : Nat) (ba : Option Addr) (bl bc : Nat) (R : Nat → Rn) (FR : Nat → Ft) (SD : Nat → Int) (BF : Nat → Fc) (w : World) (h : WdRaw w na nl ra rl sa sl sc ba bl bc R FR SD BF) :
    Calls Tryz.prog 5 #[.agg #[.slice na nl nc, .slice ra rl rc, .slice sa sl sc, .slice ba bl bc], .int .i64 1048576] w fun e w' => (∃ z : Int, e = .returned (.int .i64 z) ∧ (z = -1 ∨ (0 ≤ z ∧ WdMax nl R rl sl bl))) ∧ Below w.heap.size w w' := by
  have b0 := balloc (.cells #[.slice na nl nc, .slice ra rl rc, .slice sa sl sc, .slice ba bl bc] 27) (Below.refl w.heap.size w)
  have X := Ws.box (w := w) #[.slice na nl nc, .slice ra rl rc, .slice sa sl sc, .slice ba bl bc] 27
  have h0 := h.below b0
  go_enter Tryz.func5, Tryz.ntmps5
  go_upto_region 1 with fail
  generalize w.alloc (.cells #[.slice na nl nc, .slice ra rl rc, .slice sa sl sc, .slice ba bl bc] 27) = u at *
  have e0 := X.c 0 (.slice na nl nc) rfl
  have e1 := X.c 1 (.slice ra rl rc) rfl
  have e2 := X.c 2 (.slice sa sl sc) rfl
  have e3 := X.c 3 (.slice ba bl bc) rfl
  clear X h
  go_wp2_with fail
  refine (szNodeS_any na nl nc R 1048576 (by omega) (by omega) _ h0.n h0.nr h0.hn).mono ?_
  rintro r u1 ⟨⟨z1, rfl, hz1⟩, k1⟩
  have b1 := btrans b0 k1
  have h1 := h0.below k1
  replace e1 := keep_below k1 e1
  replace e2 := keep_below k1 e2
  replace e3 := keep_below k1 e3
  clear e0 h0 b0 k1
  rcases hz1 with rfl | ⟨⟨p1, q1⟩, m1, m2⟩
  · clear e1 e2 e3
    go_wp2
    go_ret
    exact ⟨⟨-1, rfl, .inl rfl⟩, b1⟩
  have n1 : ¬ z1 < 0 := by omega
  go_wp2_with fail
  refine (szFts_any ra rl rc FR z1 _ h1.r p1 q1 h1.hr h1.rx).mono ?_
  rintro r u2 ⟨⟨z2, rfl, hz2⟩, k1⟩
  have b2 := btrans b1 k1
  have h2 := h1.below k1
  replace e2 := keep_below k1 e2
  replace e3 := keep_below k1 e3
  clear e1 h1 b1 k1
  rcases hz2 with rfl | ⟨p2, q2, m3, _⟩
  · clear e2 e3
    go_wp2
    go_ret
    exact ⟨⟨-1, rfl, .inl rfl⟩, b2⟩
  have n2 : ¬ z2 < 0 := by omega
  have q2' : z2 ≤ 1048576 := by omega
  clear q2 n1
  go_wp2_with fail
  refine (szInts_any sa sl sc z2 _ p2 q2' h2.hs).mono ?_
  rintro r u3 ⟨rfl, rfl⟩
  clear e2
  by_cases l3 : z2 < (sl : Int)
  · rw [if_pos l3]
    clear e3
    go_wp2
    go_ret
    exact ⟨⟨-1, rfl, .inl rfl⟩, b2⟩
  rw [if_neg l3]
  have m4 : sl ≤ 1048576 := by omega
  obtain ⟨z3, hz3⟩ : ∃ z, Hid (z2 - (sl : Int) = z) := ⟨_, rfl⟩
  have p3 : 0 ≤ z3 := by rw [← hz3.out]; omega
  have q3 : z3 ≤ 1048576 := by rw [← hz3.out]; omega
  rw [hz3.out]
  have n3 : ¬ z3 < 0 := by omega
  clear hz3 l3 n2
  go_wp2_with fail
  refine (szFactS_any ba bl bc z3 _ p3 q3 h2.hb).mono ?_
  rintro r u4 ⟨rfl, rfl⟩
  clear e3
  by_cases l4 : z3 < (bl : Int)
  · rw [if_pos l4]
    go_wp2
    go_ret
    exact ⟨⟨-1, rfl, .inl rfl⟩, b2⟩
  rw [if_neg l4]
  have m5 : bl ≤ 1048576 := by omega
  obtain ⟨z4, hz4⟩ : ∃ z, Hid (z3 - (bl : Int) = z) := ⟨_, rfl⟩
  have p4 : 0 ≤ z4 := by rw [← hz4.out]; omega
  rw [hz4.out]
  have n4 : ¬ z4 < 0 := by omega
  clear hz4 l4
  go_wp2
  go_ret
  exact ⟨⟨z4, rfl, .inr ⟨p4, ⟨m1, m2, m3, m4, m5⟩⟩⟩, b2⟩
set_option maxHeartbeats 2000000 in
theorem eqWld_same (na : Option Addr) (nl nc : Nat) (ra : Option Addr) (rl rc : Nat) (sa : Option Addr) (sl sc : Nat) (ba : Option Addr) (bl bc : Nat) (nd : Nat → Nod) (FR : Nat → Ft) (SD : Nat → Int) (BF : Nat → Fc) (na' : Option Addr) (nc' : Nat) (ra' : Option Addr) (rc' : Nat) (sa' : Option Addr) (sc' : Nat) (ba' : Option Addr) (bc' : Nat) (w : World) (h : WdR w na nl ra rl sa sl ba bl nd FR SD BF) (h' : WdR w na' nl ra' rl sa' sl ba' bl nd FR SD BF) :
    Calls Tryz.prog 9 #[.agg #[.slice na nl nc, .slice ra rl rc, .slice sa sl sc, .slice ba bl bc], .agg #[.slice na' nl nc', .slice ra' rl rc', .slice sa' sl sc', .slice ba' bl bc']] w fun e w' => e = .returned (.bool true) ∧ Below w.heap.size w w' := by
  have b0 := balloc (.cells #[.slice na' nl nc', .slice ra' rl rc', .slice sa' sl sc', .slice ba' bl bc'] 34) (balloc (.cells #[.slice na nl nc, .slice ra rl rc, .slice sa sl sc, .slice ba bl bc] 34) (Below.refl w.heap.size w))
  have X := (Ws.box (w := w) #[.slice na nl nc, .slice ra rl rc, .slice sa sl sc, .slice ba bl bc] 34).alloc (.cells #[.slice na' nl nc', .slice ra' rl rc', .slice sa' sl sc', .slice ba' bl bc'] 34)
  have Y := Ws.box (w := w.alloc (.cells #[.slice na nl nc, .slice ra rl rc, .slice sa sl sc, .slice ba bl bc] 34)) #[.slice na' nl nc', .slice ra' rl rc', .slice sa' sl sc', .slice ba' bl bc'] 34
  have hs : (w.alloc (.cells #[.slice na nl nc, .slice ra rl rc, .slice sa sl sc, .slice ba bl bc] 34)).heap.size = w.heap.size + 1 := by simp [go_sem]
  rw [hs] at Y
  have h0 := h.below b0
  have g0 := h'.below b0
  go_enter Tryz.func9, Tryz.ntmps9
  go_upto_region 1 with fail
  generalize (w.alloc (.cells #[.slice na nl nc, .slice ra rl rc, .slice sa sl sc, .slice ba bl bc] 34)).alloc (.cells #[.slice na' nl nc', .slice ra' rl rc', .slice sa' sl sc', .slice ba' bl bc'] 34) = u at *
  clear hs h h'
  have e0 := X.c 0 (.slice na nl nc) rfl
  have f0 := Y.c 0 (.slice na' nl nc') rfl
  have e1 := X.c 1 (.slice ra rl rc) rfl
  have f1 := Y.c 1 (.slice ra' rl rc') rfl
  have e2 := X.c 2 (.slice sa sl sc) rfl
  have f2 := Y.c 2 (.slice sa' sl sc') rfl
  have e3 := X.c 3 (.slice ba bl bc) rfl
  have f3 := Y.c 3 (.slice ba' bl bc') rfl
  clear X Y
  go_wp2_with fail
  refine (eqNodeS_same na na' nl nc nc' nd _ h0.n g0.n h0.hn).mono ?_
  rintro r u1 ⟨rfl, k1⟩
  replace b0 := btrans b0 k1
  replace h0 := h0.below k1
  replace g0 := g0.below k1
  replace e1 := keep_below k1 e1
  replace f1 := keep_below k1 f1
  replace e2 := keep_below k1 e2
  replace f2 := keep_below k1 f2
  replace e3 := keep_below k1 e3
  replace f3 := keep_below k1 f3
  clear e0 f0 k1
  go_wp2_with fail
  refine (eqFts_same ra ra' rl rc rc' FR _ h0.r g0.r h0.hr).mono ?_
  rintro r u1 ⟨rfl, k1⟩
  replace b0 := btrans b0 k1
  replace h0 := h0.below k1
  replace g0 := g0.below k1
  replace e2 := keep_below k1 e2
  replace f2 := keep_below k1 f2
  replace e3 := keep_below k1 e3
  replace f3 := keep_below k1 f3
  clear e1 f1 k1
  go_wp2_with fail
  refine (eqInts_same sa sa' sl sc sc' SD _ h0.s g0.s h0.hs).mono ?_
  rintro r u1 ⟨rfl, k1⟩
  replace b0 := btrans b0 k1
  replace h0 := h0.below k1
  replace g0 := g0.below k1
  replace e3 := keep_below k1 e3
  replace f3 := keep_below k1 f3
  clear e2 f2 k1
  go_wp2_with fail
  refine (eqFactS_same ba ba' bl bc bc' BF _ h0.b g0.b h0.hb).mono ?_
  rintro r u1 ⟨rfl, k1⟩
  replace b0 := btrans b0 k1
  replace h0 := h0.below k1
  replace g0 := g0.below k1
  clear e3 f3 k1
  go_wp2
  go_ret
  exact ⟨rfl, b0⟩
end Go.Proofs.YtoimfgfhlbkdcaaGreatDoor
/- Worlds: copies of worlds. -/
namespace Go.Proofs.YtoimfgfhlbkdcaaGreatDoor
open Go.ChangeShapes Go.WideShapes Go.ChangeAt Go.RowKit
set_option maxRecDepth 20000 in
set_option maxHeartbeats 2000000 in
theorem toWld_any (na : Option Addr) (nl nc : Nat) (ra : Option Addr) (rl rc : Nat) (sa : Option Addr) (sl sc : Nat) (ba : Option Addr) (bl bc : Nat) (R : Nat → Rn) (FR : Nat → Ft) (SD : Nat → Int) (BF : Nat → Fc) (w : World) (h : WdRaw w na nl ra rl sa sl sc ba bl bc R FR SD BF) (m : WdMax nl R rl sl bl) :
    Calls Tryz.prog 7 #[.agg #[.slice na nl nc, .slice ra rl rc, .slice sa sl sc, .slice ba bl bc]] w fun e w' => ∃ b1 b2 b3 b4, e = .returned (.agg #[.slice (some ⟨b1, 0, none⟩) nl nl, .slice (some ⟨b2, 0, none⟩) rl rl, .slice (some ⟨b3, 0, none⟩) sl sl, .slice (some ⟨b4, 0, none⟩) bl bl]) ∧ WdR w' (some ⟨b1, 0, none⟩) nl (some ⟨b2, 0, none⟩) rl (some ⟨b3, 0, none⟩) sl (some ⟨b4, 0, none⟩) bl (fun k => (R k).nod) FR SD BF ∧ Below w.heap.size w w' := by
  have hs1 : (w.alloc (.cells #[.slice na nl nc, .slice ra rl rc, .slice sa sl sc, .slice ba bl bc] 27)).heap.size = w.heap.size + 1 := by simp [go_sem]
  have hs2 : ((w.alloc (.cells #[.slice na nl nc, .slice ra rl rc, .slice sa sl sc, .slice ba bl bc] 27)).alloc (.cells #[.slice none 0 0, .slice none 0 0, .slice none 0 0, .slice none 0 0] 34)).heap.size = w.heap.size + 1 + 1 := by simp [go_sem]
  have X := ((Ws.box (w := w) #[.slice na nl nc, .slice ra rl rc, .slice sa sl sc, .slice ba bl bc] 27).alloc (.cells #[.slice none 0 0, .slice none 0 0, .slice none 0 0, .slice none 0 0] 34)).alloc (.cells #[.slice none 0 0, .slice none 0 0, .slice none 0 0, .slice none 0 0] 34)
  have K := (Ws.box (w := w.alloc (.cells #[.slice na nl nc, .slice ra rl rc, .slice sa sl sc, .slice ba bl bc] 27)) #[.slice none 0 0, .slice none 0 0, .slice none 0 0, .slice none 0 0] 34).alloc (.cells #[.slice none 0 0, .slice none 0 0, .slice none 0 0, .slice none 0 0] 34)
  have Y := Ws.box (w := (w.alloc (.cells #[.slice na nl nc, .slice ra rl rc, .slice sa sl sc, .slice ba bl bc] 27)).alloc (.cells #[.slice none 0 0, .slice none 0 0, .slice none 0 0, .slice none 0 0] 34)) #[.slice none 0 0, .slice none 0 0, .slice none 0 0, .slice none 0 0] 34
  rw [hs1] at K
  rw [hs2] at Y
  have b0 := balloc (.cells #[.slice none 0 0, .slice none 0 0, .slice none 0 0, .slice none 0 0] 34) (balloc (.cells #[.slice none 0 0, .slice none 0 0, .slice none 0 0, .slice none 0 0] 34) (balloc (.cells #[.slice na nl nc, .slice ra rl rc, .slice sa sl sc, .slice ba bl bc] 27) (Below.refl w.heap.size w)))
  clear hs1 hs2
  go_enter Tryz.func7, Tryz.ntmps7
  go_upto_region 2 with fail
  generalize ((w.alloc (.cells #[.slice na nl nc, .slice ra rl rc, .slice sa sl sc, .slice ba bl bc] 27)).alloc (.cells #[.slice none 0 0, .slice none 0 0, .slice none 0 0, .slice none 0 0] 34)).alloc (.cells #[.slice none 0 0, .slice none 0 0, .slice none 0 0, .slice none 0 0] 34) = u at *
  have n1 : w.heap.size ≠ w.heap.size + 1 + 1 := by omega
  have n2 : w.heap.size + 1 ≠ w.heap.size + 1 + 1 := by omega
  have g1 : w.heap.size ≤ w.heap.size + 1 := by omega
  have g2 : w.heap.size ≤ w.heap.size + 1 + 1 := by omega
  have n3 : w.heap.size + 1 < w.heap.size + 1 + 1 := by omega
  generalize w.heap.size + 1 + 1 = KO at *
  generalize w.heap.size + 1 = KR at *
  have dx := X.c 0 (.slice na nl nc) rfl
  go_wp2_with fail
  refine (toNodeS_any na nl nc R _ (h.below b0).n (h.below b0).nr m.nm m.n).mono ?_
  rintro r w2 ⟨b1, C, rfl, hD0, k1⟩
  have lt0KO : KO < u.heap.size := Y.lt
  have lt0KR : KR < u.heap.size := K.lt
  replace X := X.below k1
  replace K := K.below k1
  replace Y := Y.below k1
  replace b0 := btrans b0 k1
  clear k1 dx
  have yy := Y.c 0 (.slice none 0 0) rfl
  have zz := Y.z 0
  go_upto_region 3 with fail
  have X' := X.far (k := 0) (v := (.slice (some ⟨b1, 0, none⟩) nl nl)) n1
  have K' := K.far (k := 0) (v := (.slice (some ⟨b1, 0, none⟩) nl nl)) n2
  have Y' : Ws _ KO [.slice (some ⟨b1, 0, none⟩) nl nl, .slice none 0 0, .slice none 0 0, .slice none 0 0] := Y.set 0 (by simp) (.slice (some ⟨b1, 0, none⟩) nl nl)
  have b0' := b0.setCell (p := ⟨KO, 0, none⟩) g2 (.slice (some ⟨b1, 0, none⟩) nl nl)
  have hD0' := hD0.but (But2.set (c := KO) (d := KO) (k := 0) (.slice (some ⟨b1, 0, none⟩) nl nl)) lt0KO
  clear yy zz X K Y b0 hD0
  generalize w2.setCell ⟨KO, 0, none⟩ (.slice (some ⟨b1, 0, none⟩) nl nl) = u1 at *
  have X := X'
  have K := K'
  have Y := Y'
  have b0 := b0'
  have hD0 := hD0'
  clear X' K' Y' b0' hD0'
  have dx := X.c 1 (.slice ra rl rc) rfl
  go_wp2_with fail
  refine (toFts_any ra rl rc FR _ (h.below b0).r m.r).mono ?_
  rintro r w2 ⟨b2, rfl, hD1, lb1, k1⟩
  have q1KO : b2 ≠ KO := fun q => by have := Y.lt; omega
  have q1KR : b2 ≠ KR := fun q => by have := K.lt; omega
  clear lb1
  replace hD0 := hD0.below k1
  replace X := X.below k1
  replace K := K.below k1
  replace Y := Y.below k1
  replace b0 := btrans b0 k1
  clear k1 dx
  have yy := Y.c 1 (.slice none 0 0) rfl
  have zz := Y.z 1
  go_upto_region 4 with fail
  have X' := X.far (k := 1) (v := (.slice (some ⟨b2, 0, none⟩) rl rl)) n1
  have K' := K.far (k := 1) (v := (.slice (some ⟨b2, 0, none⟩) rl rl)) n2
  have Y' : Ws _ KO [.slice (some ⟨b1, 0, none⟩) nl nl, .slice (some ⟨b2, 0, none⟩) rl rl, .slice none 0 0, .slice none 0 0] := Y.set 1 (by simp) (.slice (some ⟨b2, 0, none⟩) rl rl)
  have b0' := b0.setCell (p := ⟨KO, 1, none⟩) g2 (.slice (some ⟨b2, 0, none⟩) rl rl)
  have hD0' := hD0.but (But2.set (c := KO) (d := KO) (k := 1) (.slice (some ⟨b2, 0, none⟩) rl rl)) lt0KO
  have hD1' := row_but hD1 (But2.set (c := KO) (d := KO) (k := 1) (.slice (some ⟨b2, 0, none⟩) rl rl)) q1KO q1KO
  clear yy zz X K Y b0 hD0 hD1
  generalize w2.setCell ⟨KO, 1, none⟩ (.slice (some ⟨b2, 0, none⟩) rl rl) = u2 at *
  have X := X'
  have K := K'
  have Y := Y'
  have b0 := b0'
  have hD0 := hD0'
  have hD1 := hD1'
  clear X' K' Y' b0' hD0' hD1'
  have dx := X.c 2 (.slice sa sl sc) rfl
  go_wp2_with fail
  refine (toInts_any sa sl sc SD _ (h.below b0).s m.s h.cs).mono ?_
  rintro r w2 ⟨b3, rfl, hD2, lb2, k1⟩
  have q2KO : b3 ≠ KO := fun q => by have := Y.lt; omega
  have q2KR : b3 ≠ KR := fun q => by have := K.lt; omega
  clear lb2
  replace hD0 := hD0.below k1
  replace hD1 := row_below hD1 k1
  replace X := X.below k1
  replace K := K.below k1
  replace Y := Y.below k1
  replace b0 := btrans b0 k1
  clear k1 dx
  have yy := Y.c 2 (.slice none 0 0) rfl
  have zz := Y.z 2
  go_upto_region 5 with fail
  have X' := X.far (k := 2) (v := (.slice (some ⟨b3, 0, none⟩) sl sl)) n1
  have K' := K.far (k := 2) (v := (.slice (some ⟨b3, 0, none⟩) sl sl)) n2
  have Y' : Ws _ KO [.slice (some ⟨b1, 0, none⟩) nl nl, .slice (some ⟨b2, 0, none⟩) rl rl, .slice (some ⟨b3, 0, none⟩) sl sl, .slice none 0 0] := Y.set 2 (by simp) (.slice (some ⟨b3, 0, none⟩) sl sl)
  have b0' := b0.setCell (p := ⟨KO, 2, none⟩) g2 (.slice (some ⟨b3, 0, none⟩) sl sl)
  have hD0' := hD0.but (But2.set (c := KO) (d := KO) (k := 2) (.slice (some ⟨b3, 0, none⟩) sl sl)) lt0KO
  have hD1' := row_but hD1 (But2.set (c := KO) (d := KO) (k := 2) (.slice (some ⟨b3, 0, none⟩) sl sl)) q1KO q1KO
  have hD2' := hD2.far (b' := KO) (k := 2) (v := (.slice (some ⟨b3, 0, none⟩) sl sl)) q2KO
  clear yy zz X K Y b0 hD0 hD1 hD2
  generalize w2.setCell ⟨KO, 2, none⟩ (.slice (some ⟨b3, 0, none⟩) sl sl) = u3 at *
  have X := X'
  have K := K'
  have Y := Y'
  have b0 := b0'
  have hD0 := hD0'
  have hD1 := hD1'
  have hD2 := hD2'
  clear X' K' Y' b0' hD0' hD1' hD2'
  have dx := X.c 3 (.slice ba bl bc) rfl
  go_wp2_with fail
  refine (toFactsR_any ba bl bc BF _ (h.below b0).b m.b h.cb).mono ?_
  rintro r w2 ⟨b4, rfl, hD3, lb3, k1⟩
  have q3KO : b4 ≠ KO := fun q => by have := Y.lt; omega
  have q3KR : b4 ≠ KR := fun q => by have := K.lt; omega
  clear lb3
  replace hD0 := hD0.below k1
  replace hD1 := row_below hD1 k1
  replace hD2 := hD2.below k1
  replace X := X.below k1
  replace K := K.below k1
  replace Y := Y.below k1
  replace b0 := btrans b0 k1
  clear k1 dx
  have yy := Y.c 3 (.slice none 0 0) rfl
  have zz := Y.z 3
  go_upto_region 6 with fail
  have X' := X.far (k := 3) (v := (.slice (some ⟨b4, 0, none⟩) bl bl)) n1
  have K' := K.far (k := 3) (v := (.slice (some ⟨b4, 0, none⟩) bl bl)) n2
  have Y' : Ws _ KO [.slice (some ⟨b1, 0, none⟩) nl nl, .slice (some ⟨b2, 0, none⟩) rl rl, .slice (some ⟨b3, 0, none⟩) sl sl, .slice (some ⟨b4, 0, none⟩) bl bl] := Y.set 3 (by simp) (.slice (some ⟨b4, 0, none⟩) bl bl)
  have b0' := b0.setCell (p := ⟨KO, 3, none⟩) g2 (.slice (some ⟨b4, 0, none⟩) bl bl)
  have hD0' := hD0.but (But2.set (c := KO) (d := KO) (k := 3) (.slice (some ⟨b4, 0, none⟩) bl bl)) lt0KO
  have hD1' := row_but hD1 (But2.set (c := KO) (d := KO) (k := 3) (.slice (some ⟨b4, 0, none⟩) bl bl)) q1KO q1KO
  have hD2' := hD2.far (b' := KO) (k := 3) (v := (.slice (some ⟨b4, 0, none⟩) bl bl)) q2KO
  have hD3' := hD3.far (b' := KO) (k := 3) (v := (.slice (some ⟨b4, 0, none⟩) bl bl)) q3KO
  clear yy zz X K Y b0 hD0 hD1 hD2 hD3
  generalize w2.setCell ⟨KO, 3, none⟩ (.slice (some ⟨b4, 0, none⟩) bl bl) = u4 at *
  have X := X'
  have K := K'
  have Y := Y'
  have b0 := b0'
  have hD0 := hD0'
  have hD1 := hD1'
  have hD2 := hD2'
  have hD3 := hD3'
  clear X' K' Y' b0' hD0' hD1' hD2' hD3'
  have y0 := Y.c 0 (.slice (some ⟨b1, 0, none⟩) nl nl) rfl
  have r0 := K.c 0 (.slice none 0 0) rfl
  have z0 := K.z 0
  have y1 := Y.c 1 (.slice (some ⟨b2, 0, none⟩) rl rl) rfl
  have r1 := K.c 1 (.slice none 0 0) rfl
  have z1 := K.z 1
  have y2 := Y.c 2 (.slice (some ⟨b3, 0, none⟩) sl sl) rfl
  have r2 := K.c 2 (.slice none 0 0) rfl
  have z2 := K.z 2
  have y3 := Y.c 3 (.slice (some ⟨b4, 0, none⟩) bl bl) rfl
  have r3 := K.c 3 (.slice none 0 0) rfl
  have z3 := K.z 3
  go_wp2
  have R2 : Ws _ KR [.slice (some ⟨b1, 0, none⟩) nl nl, .slice (some ⟨b2, 0, none⟩) rl rl, .slice (some ⟨b3, 0, none⟩) sl sl, .slice (some ⟨b4, 0, none⟩) bl bl] := ((((K.set 0 (by simp) (.slice (some ⟨b1, 0, none⟩) nl nl)).set 1 (by simp) (.slice (some ⟨b2, 0, none⟩) rl rl)).set 2 (by simp) (.slice (some ⟨b3, 0, none⟩) sl sl)).set 3 (by simp) (.slice (some ⟨b4, 0, none⟩) bl bl))
  refine bodyPost_ret (v := .agg #[.slice (some ⟨b1, 0, none⟩) nl nl, .slice (some ⟨b2, 0, none⟩) rl rl, .slice (some ⟨b3, 0, none⟩) sl sl, .slice (some ⟨b4, 0, none⟩) bl bl]) (by simp [results, Tryz.results7, go_sem, R2.c 0 (.slice (some ⟨b1, 0, none⟩) nl nl) rfl, R2.c 1 (.slice (some ⟨b2, 0, none⟩) rl rl) rfl, R2.c 2 (.slice (some ⟨b3, 0, none⟩) sl sl) rfl, R2.c 3 (.slice (some ⟨b4, 0, none⟩) bl bl) rfl]) rfl ⟨b1, b2, b3, b4, rfl, ⟨((((hD0.but (But2.set (c := KR) (d := KR) (k := 0) (.slice (some ⟨b1, 0, none⟩) nl nl)) lt0KR).but (But2.set (c := KR) (d := KR) (k := 1) (.slice (some ⟨b2, 0, none⟩) rl rl)) lt0KR).but (But2.set (c := KR) (d := KR) (k := 2) (.slice (some ⟨b3, 0, none⟩) sl sl)) lt0KR).but (But2.set (c := KR) (d := KR) (k := 3) (.slice (some ⟨b4, 0, none⟩) bl bl)) lt0KR).toL m.nm, ftrow_sl (row_but (row_but (row_but (row_but hD1 (But2.set (c := KR) (d := KR) (k := 0) (.slice (some ⟨b1, 0, none⟩) nl nl)) q1KR q1KR) (But2.set (c := KR) (d := KR) (k := 1) (.slice (some ⟨b2, 0, none⟩) rl rl)) q1KR q1KR) (But2.set (c := KR) (d := KR) (k := 2) (.slice (some ⟨b3, 0, none⟩) sl sl)) q1KR q1KR) (But2.set (c := KR) (d := KR) (k := 3) (.slice (some ⟨b4, 0, none⟩) bl bl)) q1KR q1KR), ((((hD2.far (b' := KR) (k := 0) (v := (.slice (some ⟨b1, 0, none⟩) nl nl)) q2KR).far (b' := KR) (k := 1) (v := (.slice (some ⟨b2, 0, none⟩) rl rl)) q2KR).far (b' := KR) (k := 2) (v := (.slice (some ⟨b3, 0, none⟩) sl sl)) q2KR).far (b' := KR) (k := 3) (v := (.slice (some ⟨b4, 0, none⟩) bl bl)) q2KR).sl, ((((hD3.far (b' := KR) (k := 0) (v := (.slice (some ⟨b1, 0, none⟩) nl nl)) q3KR).far (b' := KR) (k := 1) (v := (.slice (some ⟨b2, 0, none⟩) rl rl)) q3KR).far (b' := KR) (k := 2) (v := (.slice (some ⟨b3, 0, none⟩) sl sl)) q3KR).far (b' := KR) (k := 3) (v := (.slice (some ⟨b4, 0, none⟩) bl bl)) q3KR).sl, m.n, m.r, m.s, m.b⟩, ((((b0.setCell (p := ⟨KR, 0, none⟩) g1 (.slice (some ⟨b1, 0, none⟩) nl nl)).setCell (p := ⟨KR, 1, none⟩) g1 (.slice (some ⟨b2, 0, none⟩) rl rl)).setCell (p := ⟨KR, 2, none⟩) g1 (.slice (some ⟨b3, 0, none⟩) sl sl)).setCell (p := ⟨KR, 3, none⟩) g1 (.slice (some ⟨b4, 0, none⟩) bl bl))⟩
end Go.Proofs.YtoimfgfhlbkdcaaGreatDoor
/- A list of facts that came in, opened. -/
namespace Go.Proofs.YtoimfgfhlbkdcaaGreatDoor
open Go.ChangeShapes Go.WideShapes Go.ChangeAt Go.RowKit Go.Joins Go.Deep
theorem plain_of_cell {w : World} {a : Addr} {v : Value} (h : w.cell? a = some v) : a = ⟨a.block, a.off, none⟩ := by
  unfold World.cell? at h
  obtain ⟨b, o, s⟩ := a
  cases s with
  | none => rfl
  | some s => split at h <;> simp at h
section
variable {H : Type} {enc : TypeId × Value → H} {W : World} {base : Nat} {spare : Nat → Bool} {held : Bool}
set_option maxRecDepth 20000 in
theorem open_facts {fuel : Nat} {a : Option Addr} {len cap : Nat} {x : DataW H × List MemPlace} (t e : TypeId) (ht : Tryz.prog.underlying t = some (.slice e)) {f0 f1 f2 f3 : Field} (he : Tryz.prog.underlying e = some (.struct #[f0, f1, f2, f3])) (hone : oneCellFields Tryz.prog #[f0, f1, f2, f3] = true) (ce : Tryz.prog.cellsOf e = 4)
    (t0 : Tryz.prog.underlying f0.type = some (.int .i64)) (t1 : Tryz.prog.underlying f1.type = some (.int .i64)) (t2 : Tryz.prog.underlying f2.type = some (.int .i64)) (t3 : Tryz.prog.underlying f3.type = some .bool)
    (h : DataW.trod enc Tryz.prog W base spare held fuel t [.slice a len cap] = some x) :
    ∃ F : Nat → Fc, len ≤ cap ∧ len ≤ maxLen ∧ FSl W a len F := by
  rcases open_slice ht h with ⟨hcs, _⟩ | ⟨a', len', cap', m, n, D, Pl, hcs, hb, hl, hm, hmm, rfl, hx⟩
  · simp at hcs
    obtain ⟨rfl, rfl, rfl⟩ := hcs
    exact ⟨fun _ => Fc.zero, by omega, by omega, fun h => by omega⟩
  · simp at hcs
    obtain ⟨rfl, rfl, rfl⟩ := hcs
    have hlm : len ≤ m := by rw [hmm]; split <;> omega
    have each : ∀ i, i < m → ∃ q : Fc, W.cell? (a'.add (i * 4)) = some (.int .i64 q.n) ∧ W.cell? (a'.add (i * 4 + 1)) = some (.int .i64 q.i) ∧ W.cell? (a'.add (i * 4 + 2)) = some (.int .i64 q.s) ∧ W.cell? (a'.add (i * 4 + 3)) = some (.bool q.g) := by
      intro i hi
      obtain ⟨cs', h1, h2⟩ := hx i hi
      rw [ce] at h1
      obtain ⟨_, hlen, hcell⟩ := World.cells?_some h1
      obtain ⟨y0, y1, y2, y3, k, _, _, g0, g1, g2, g3⟩ := trod_struct4 he h2
      obtain ⟨o0, k0⟩ := hone_of hone 0 f0 rfl
      obtain ⟨o1, k1⟩ := hone_of hone 1 f1 rfl
      obtain ⟨o2, k2⟩ := hone_of hone 2 f2 rfl
      obtain ⟨o3, k3⟩ := hone_of hone 3 f3 rfl
      match cs', hlen with
      | [v0, v1, v2, v3], _ =>
        simp [o0, k0] at g0
        simp [o1, k1] at g1
        simp [o2, k2] at g2
        simp [o3, k3] at g3
        obtain ⟨x0, ea, _, _⟩ := DataW.trod_int t0 g0
        obtain ⟨x1, eb, _, _⟩ := DataW.trod_int t1 g1
        obtain ⟨x2, ec, _, _⟩ := DataW.trod_int t2 g2
        obtain ⟨x3, ed, _, _⟩ := DataW.trod_bool t3 g3
        simp at ea eb ec ed
        subst ea eb ec ed
        have e0 := hcell 0 (by omega)
        have e1 := hcell 1 (by omega)
        have e2 := hcell 2 (by omega)
        have e3 := hcell 3 (by omega)
        rw [add_add] at e0 e1 e2 e3
        exact ⟨⟨x0, x1, x2, x3⟩, by simpa using e0, by simpa using e1, by simpa using e2, by simpa using e3⟩
    have inh : Inhabited Fc := ⟨Fc.zero⟩
    obtain ⟨F, hF⟩ := choose_lt each
    refine ⟨F, hl, by omega, fun h0 => ?_⟩
    have hp := plain_of_cell (hF 0 (by omega)).1
    simp [Addr.add] at hp
    obtain ⟨b, off, sp⟩ := a'
    obtain rfl : sp = none := by simpa using hp
    refine ⟨b, off, rfl, ?_, fun k hk => ?_⟩
    · have := World.block_lt_of_cell? W _ (hF 0 (by omega)).1
      simpa [Addr.add] using this
    · have := hF k (by omega)
      rw [add_plain, add_plain, add_plain, add_plain] at this
      simpa [Nat.add_assoc] using this
end
end Go.Proofs.YtoimfgfhlbkdcaaGreatDoor
/- A list of items that came in, opened. -/
namespace Go.Proofs.YtoimfgfhlbkdcaaGreatDoor
open Go.ChangeShapes Go.WideShapes Go.ChangeAt Go.RowKit Go.Joins Go.Deep
section
variable {H : Type} {enc : TypeId × Value → H} {W : World} {base : Nat} {spare : Nat → Bool} {held : Bool}
set_option maxRecDepth 20000 in
theorem open_items {fuel : Nat} {a : Option Addr} {len cap : Nat} {x : DataW H × List MemPlace} (t e : TypeId) (ht : Tryz.prog.underlying t = some (.slice e)) {g0 g1 : Field} (he : Tryz.prog.underlying e = some (.struct #[g0, g1])) (ce : Tryz.prog.cellsOf e = 5)
    (o0 : g0.offset = 0) (k0 : Tryz.prog.cellsOf g0.type = 4) (o1 : g1.offset = 4) (k1 : Tryz.prog.cellsOf g1.type = 1) (tl : Tryz.prog.underlying g1.type = some (.int .i64))
    {f0 f1 f2 f3 : Field} (he2 : Tryz.prog.underlying g0.type = some (.struct #[f0, f1, f2, f3])) (hone : oneCellFields Tryz.prog #[f0, f1, f2, f3] = true)
    (t0 : Tryz.prog.underlying f0.type = some (.int .i64)) (t1 : Tryz.prog.underlying f1.type = some (.int .i64)) (t2 : Tryz.prog.underlying f2.type = some (.int .i64)) (t3 : Tryz.prog.underlying f3.type = some .bool)
    (h : DataW.trod enc Tryz.prog W base spare held fuel t [.slice a len cap] = some x) :
    ∃ F : Nat → It, len ≤ cap ∧ len ≤ maxLen ∧ TSl W a len F := by
  rcases open_slice ht h with ⟨hcs, _⟩ | ⟨a', len', cap', m, n, D, Pl, hcs, hb, hl, hm, hmm, rfl, hx⟩
  · simp at hcs
    obtain ⟨rfl, rfl, rfl⟩ := hcs
    exact ⟨fun _ => It.zero, by omega, by omega, fun h => by omega⟩
  · simp at hcs
    obtain ⟨rfl, rfl, rfl⟩ := hcs
    have hlm : len ≤ m := by rw [hmm]; split <;> omega
    have each : ∀ i, i < m → ∃ q : It, W.cell? (a'.add (i * 5)) = some (.int .i64 q.n) ∧ W.cell? (a'.add (i * 5 + 1)) = some (.int .i64 q.i) ∧ W.cell? (a'.add (i * 5 + 2)) = some (.int .i64 q.s) ∧ W.cell? (a'.add (i * 5 + 3)) = some (.bool q.g) ∧ W.cell? (a'.add (i * 5 + 4)) = some (.int .i64 q.l) := by
      intro i hi
      obtain ⟨cs', h1, h2⟩ := hx i hi
      rw [ce] at h1
      obtain ⟨_, hlen, hcell⟩ := World.cells?_some h1
      obtain ⟨z0, z1, kk, _, _, q0, q1⟩ := trod_struct2 he h2
      match cs', hlen with
      | [v0, v1, v2, v3, v4], _ =>
        simp [o0, k0] at q0
        simp [o1, k1] at q1
        obtain ⟨y0, y1, y2, y3, k, _, _, g0', g1', g2', g3'⟩ := trod_struct4 he2 q0
        obtain ⟨o0', k0'⟩ := hone_of hone 0 f0 rfl
        obtain ⟨o1', k1'⟩ := hone_of hone 1 f1 rfl
        obtain ⟨o2', k2'⟩ := hone_of hone 2 f2 rfl
        obtain ⟨o3', k3'⟩ := hone_of hone 3 f3 rfl
        simp [o0', k0'] at g0'
        simp [o1', k1'] at g1'
        simp [o2', k2'] at g2'
        simp [o3', k3'] at g3'
        obtain ⟨x0, ea, _, _⟩ := DataW.trod_int t0 g0'
        obtain ⟨x1, eb, _, _⟩ := DataW.trod_int t1 g1'
        obtain ⟨x2, ec, _, _⟩ := DataW.trod_int t2 g2'
        obtain ⟨x3, ed, _, _⟩ := DataW.trod_bool t3 g3'
        obtain ⟨x4, ee, _, _⟩ := DataW.trod_int tl q1
        simp at ea eb ec ed ee
        subst ea eb ec ed ee
        have e0 := hcell 0 (by omega)
        have e1 := hcell 1 (by omega)
        have e2 := hcell 2 (by omega)
        have e3 := hcell 3 (by omega)
        have e4 := hcell 4 (by omega)
        rw [add_add] at e0 e1 e2 e3 e4
        exact ⟨⟨x0, x1, x2, x3, x4⟩, by simpa using e0, by simpa using e1, by simpa using e2, by simpa using e3, by simpa using e4⟩
    have inh : Inhabited It := ⟨It.zero⟩
    obtain ⟨F, hF⟩ := choose_lt each
    refine ⟨F, hl, by omega, fun h0 => ?_⟩
    have hp := plain_of_cell (hF 0 (by omega)).1
    simp [Addr.add] at hp
    obtain ⟨b, off, sp⟩ := a'
    obtain rfl : sp = none := by simpa using hp
    refine ⟨b, off, rfl, ?_, fun k hk => ?_⟩
    · have := World.block_lt_of_cell? W _ (hF 0 (by omega)).1
      simpa [Addr.add] using this
    · have := hF k (by omega)
      rw [add_plain, add_plain, add_plain, add_plain, add_plain] at this
      simpa [Nat.add_assoc] using this
end
end Go.Proofs.YtoimfgfhlbkdcaaGreatDoor
/- A word that came in, opened. -/
namespace Go.Proofs.YtoimfgfhlbkdcaaGreatDoor
open Go.ChangeShapes Go.WideShapes Go.ChangeAt Go.RowKit Go.Joins Go.Deep
theorem array11 {α : Type} {cs : Array α} (h : cs.size = 11) : ∃ c0 c1 c2 c3 c4 c5 c6 c7 c8 c9 c10, cs = #[c0, c1, c2, c3, c4, c5, c6, c7, c8, c9, c10] := by
  obtain ⟨l⟩ := cs
  match l, h with
  | [c0, c1, c2, c3, c4, c5, c6, c7, c8, c9, c10], _ => exact ⟨c0, c1, c2, c3, c4, c5, c6, c7, c8, c9, c10, rfl⟩
theorem cellsOf3 : Tryz.prog.cellsOf 3 = 1 := by kernel_rfl
theorem cellsOf48 : Tryz.prog.cellsOf 84 = 4 := by kernel_rfl
theorem cellsOf30 : Tryz.prog.cellsOf 25 = 1 := by kernel_rfl
section
variable {H : Type} {enc : TypeId × Value → H} {W : World} {base : Nat} {spare : Nat → Bool} {held : Bool}
theorem int_of {n : Nat} {v : Value} {x : Option (DataW H × List MemPlace)} (h : DataW.trod enc Tryz.prog W base spare held n 3 [v] = x) (hx : x.isSome = true) : ∃ z : Int, v = .int .i64 z := by
  obtain ⟨y, rfl⟩ := Option.isSome_iff_exists.1 hx
  obtain ⟨z, e, _, _⟩ := DataW.trod_int Tryz.underlying3 h
  simp at e
  exact ⟨z, e⟩
end
end Go.Proofs.YtoimfgfhlbkdcaaGreatDoor
/- A node that came in, opened. -/
namespace Go.Proofs.YtoimfgfhlbkdcaaGreatDoor
open Go.ChangeShapes Go.WideShapes Go.ChangeAt Go.RowKit Go.Joins Go.Deep
theorem cellsOf4 : Tryz.prog.cellsOf 4 = 1 := by kernel_rfl
theorem cellsOf59 : Tryz.prog.cellsOf 24 = 1 := by kernel_rfl
section
variable {H : Type} {enc : TypeId × Value → H} {W : World} {base : Nat} {spare : Nat → Bool} {held : Bool}
theorem bool_of {n : Nat} {v : Value} {x : Option (DataW H × List MemPlace)} (h : DataW.trod enc Tryz.prog W base spare held n 4 [v] = x) (hx : x.isSome = true) : ∃ z : Bool, v = .bool z := by
  obtain ⟨y, rfl⟩ := Option.isSome_iff_exists.1 hx
  obtain ⟨z, e, _, _⟩ := DataW.trod_bool Tryz.underlying4 h
  simp at e
  exact ⟨z, e⟩
theorem slice_of {n : Nat} {t e : TypeId} (ht : Tryz.prog.underlying t = some (.slice e)) {v : Value} {x : DataW H × List MemPlace} (h : DataW.trod enc Tryz.prog W base spare held n t [v] = some x) : ∃ a len cap, v = .slice a len cap := by
  rcases open_slice ht h with ⟨hcs, _⟩ | ⟨a', len', cap', _, _, _, _, hcs, _⟩
  · simp at hcs; exact ⟨_, _, _, hcs⟩
  · simp at hcs; exact ⟨_, _, _, hcs⟩
set_option maxRecDepth 20000 in
theorem open_ints {fuel : Nat} {a : Option Addr} {len cap : Nat} {x : DataW H × List MemPlace} (h : DataW.trod enc Tryz.prog W base spare held fuel 24 [.slice a len cap] = some x) :
    ∃ f : Nat → Int, len ≤ cap ∧ len ≤ maxLen ∧ ISl W a len f := by
  rcases open_slice Tryz.underlying24 h with ⟨hcs, _⟩ | ⟨a', len', cap', m, n, D, PLc, hcs, hb, hl, hm, hmm, rfl, hx⟩
  · simp at hcs
    obtain ⟨rfl, rfl, rfl⟩ := hcs
    exact ⟨fun _ => 0, by omega, by omega, fun h => by omega⟩
  · simp at hcs
    obtain ⟨rfl, rfl, rfl⟩ := hcs
    have hlm : len ≤ m := by rw [hmm]; split <;> omega
    have each : ∀ i, i < m → ∃ q : Int, W.cell? (a'.add (i * 1)) = some (.int .i64 q) := by
      intro i hi
      obtain ⟨cs', h1, h2⟩ := hx i hi
      rw [cellsOf3] at h1
      obtain ⟨_, hlen, hcell⟩ := World.cells?_some h1
      match cs', hlen with
      | [v0], _ =>
        obtain ⟨z, rfl⟩ := int_of h2 rfl
        have e0 := hcell 0 (by omega)
        rw [add_add] at e0
        exact ⟨z, by simpa using e0⟩
    obtain ⟨F, hF⟩ := choose_lt each
    refine ⟨F, hl, by omega, fun h0 => ?_⟩
    have hp := plain_of_cell (hF 0 (by omega))
    simp [Addr.add] at hp
    obtain ⟨b, off, sp⟩ := a'
    obtain rfl : sp = none := by simpa using hp
    refine ⟨b, off, rfl, ?_, fun k hk => ?_⟩
    · have := World.block_lt_of_cell? W _ (hF 0 (by omega))
      simpa [Addr.add] using this
    · have := hF k (by omega)
      rw [add_plain] at this
      simpa [Nat.add_assoc] using this
theorem cellsOf22 : Tryz.prog.cellsOf 25 = 1 := by kernel_rfl
theorem open_facts22 {fuel : Nat} {a : Option Addr} {len cap : Nat} {x : DataW H × List MemPlace} (h : DataW.trod enc Tryz.prog W base spare held fuel 25 [.slice a len cap] = some x) : ∃ F : Nat → Fc, len ≤ cap ∧ len ≤ maxLen ∧ FSl W a len F :=
  open_facts 25 104 Tryz.underlying25 Tryz.underlying104 (by kernel_rfl) (by kernel_rfl) Tryz.underlying3 Tryz.underlying3 Tryz.underlying3 Tryz.underlying4 h
theorem coord_of {n : Nat} {c0 c1 c2 c3 : Value} {x : DataW H × List MemPlace} (h : DataW.trod enc Tryz.prog W base spare held n 84 [c0, c1, c2, c3] = some x) : ∃ x y z e : Int, c0 = .int .i64 x ∧ c1 = .int .i64 y ∧ c2 = .int .i64 z ∧ c3 = .int .i64 e := by
  obtain ⟨u0, u1, u2, u3, m, _, _, k0, k1, k2, k3⟩ := trod_struct4 Tryz.underlying84 h
  dsimp only at k0 k1 k2 k3
  rw [cellsOf3] at k0 k1 k2 k3
  simp only [List.drop, List.take] at k0 k1 k2 k3
  obtain ⟨z6, rfl⟩ := int_of k0 rfl
  obtain ⟨z7, rfl⟩ := int_of k1 rfl
  obtain ⟨z8, rfl⟩ := int_of k2 rfl
  obtain ⟨z9, rfl⟩ := int_of k3 rfl
  exact ⟨z6, z7, z8, z9, rfl, rfl, rfl, rfl⟩
set_option maxRecDepth 20000 in
theorem open_doubts {fuel : Nat} {a : Option Addr} {len cap : Nat} {x : DataW H × List MemPlace} (h : DataW.trod enc Tryz.prog W base spare held fuel 83 [.slice a len cap] = some x) :
    ∃ F : Nat → Dt, len ≤ cap ∧ len ≤ maxLen ∧ DtSl W a len F ∧ ∀ j, j < len → ISl W (F j).ba (F j).bl (F j).bf ∧ (F j).bl ≤ maxLen ∧ (F j).bl ≤ (F j).bc := by
  rcases open_slice Tryz.underlying83 h with ⟨hcs, _⟩ | ⟨a', len', cap', m, n, D, PLc, hcs, hb, hl, hm, hmm, rfl, hx⟩
  · simp at hcs
    obtain ⟨rfl, rfl, rfl⟩ := hcs
    exact ⟨fun _ => Dt.zero, by omega, by omega, fun h => by omega, fun j hj => by omega⟩
  · simp at hcs
    obtain ⟨rfl, rfl, rfl⟩ := hcs
    have hlm : len ≤ m := by rw [hmm]; split <;> omega
    have ce : Tryz.prog.cellsOf 153 = 4 := by kernel_rfl
    have each : ∀ i, i < m → ∃ q : Dt, (W.cell? (a'.add (i * 4)) = some (.int .i64 q.n) ∧ W.cell? (a'.add (i * 4 + 1)) = some (.int .i64 q.i) ∧ W.cell? (a'.add (i * 4 + 2)) = some (.int .i64 q.s) ∧ W.cell? (a'.add (i * 4 + 3)) = some (.slice q.ba q.bl q.bc)) ∧ ISl W q.ba q.bl q.bf ∧ q.bl ≤ maxLen ∧ q.bl ≤ q.bc := by
      intro i hi
      obtain ⟨cs', h1, h2⟩ := hx i hi
      rw [ce] at h1
      obtain ⟨_, hlen, hcell⟩ := World.cells?_some h1
      match cs', hlen with
      | [v0, v1, v2, v3], _ =>
        obtain ⟨u0, u1, u2, u3, m', _, _, k0, k1, k2, k3⟩ := trod_struct4 Tryz.underlying153 h2
        dsimp only at k0 k1 k2 k3
        rw [cellsOf3] at k0 k1 k2
        rw [cellsOf59] at k3
        simp only [List.drop, List.take] at k0 k1 k2 k3
        obtain ⟨z0, rfl⟩ := int_of k0 rfl
        obtain ⟨z1, rfl⟩ := int_of k1 rfl
        obtain ⟨z2, rfl⟩ := int_of k2 rfl
        obtain ⟨ba, bl, bc, rfl⟩ := slice_of Tryz.underlying24 k3
        obtain ⟨bf, hC, hM, hI⟩ := open_ints k3
        have e0 := hcell 0 (by omega)
        have e1 := hcell 1 (by omega)
        have e2 := hcell 2 (by omega)
        have e3 := hcell 3 (by omega)
        rw [add_add] at e0 e1 e2 e3
        exact ⟨⟨z0, z1, z2, ba, bl, bc, bf⟩, ⟨by simpa using e0, by simpa using e1, by simpa using e2, by simpa using e3⟩, hI, hM, hC⟩
    have inh : Inhabited Dt := ⟨Dt.zero⟩
    obtain ⟨F, hF⟩ := choose_lt each
    refine ⟨F, hl, by omega, fun h0 => ?_, fun j hj => (hF j (by omega)).2⟩
    have hp := plain_of_cell (hF 0 (by omega)).1.1
    simp [Addr.add] at hp
    obtain ⟨b, off, sp⟩ := a'
    obtain rfl : sp = none := by simpa using hp
    refine ⟨b, off, rfl, ?_, fun k hk => ?_⟩
    · have := World.block_lt_of_cell? W _ (hF 0 (by omega)).1.1
      simpa [Addr.add] using this
    · have := (hF k (by omega)).1
      rw [add_plain, add_plain, add_plain, add_plain] at this
      simpa [Nat.add_assoc] using this
set_option maxRecDepth 20000 in
theorem open_places {fuel : Nat} {a : Option Addr} {len cap : Nat} {x : DataW H × List MemPlace} (h : DataW.trod enc Tryz.prog W base spare held fuel 85 [.slice a len cap] = some x) :
    ∃ F : Nat → Pl, len ≤ cap ∧ len ≤ maxLen ∧ PlSl W a len F ∧ ∀ j, j < len → ISl W (F j).ba (F j).bl (F j).bf ∧ (F j).bl ≤ maxLen ∧ (F j).bl ≤ (F j).bc := by
  rcases open_slice Tryz.underlying85 h with ⟨hcs, _⟩ | ⟨a', len', cap', m, n, D, PLc, hcs, hb, hl, hm, hmm, rfl, hx⟩
  · simp at hcs
    obtain ⟨rfl, rfl, rfl⟩ := hcs
    exact ⟨fun _ => Pl.zero, by omega, by omega, fun h => by omega, fun j hj => by omega⟩
  · simp at hcs
    obtain ⟨rfl, rfl, rfl⟩ := hcs
    have hlm : len ≤ m := by rw [hmm]; split <;> omega
    have ce : Tryz.prog.cellsOf 156 = 6 := by kernel_rfl
    have each : ∀ i, i < m → ∃ q : Pl, (W.cell? (a'.add (i * 6)) = some (.int .i64 q.n) ∧ W.cell? (a'.add (i * 6 + 1)) = some (.int .i64 q.x) ∧ W.cell? (a'.add (i * 6 + 2)) = some (.int .i64 q.y) ∧ W.cell? (a'.add (i * 6 + 3)) = some (.int .i64 q.h) ∧ W.cell? (a'.add (i * 6 + 4)) = some (.int .i64 q.e) ∧ W.cell? (a'.add (i * 6 + 5)) = some (.slice q.ba q.bl q.bc)) ∧ ISl W q.ba q.bl q.bf ∧ q.bl ≤ maxLen ∧ q.bl ≤ q.bc := by
      intro i hi
      obtain ⟨cs', h1, h2⟩ := hx i hi
      rw [ce] at h1
      obtain ⟨_, hlen, hcell⟩ := World.cells?_some h1
      match cs', hlen with
      | [v0, v1, v2, v3, v4, v5], _ =>
        obtain ⟨u0, u1, u2, m', _, _, k0, k1, k2⟩ := trod_struct3 Tryz.underlying156 h2
        dsimp only at k0 k1 k2
        rw [cellsOf3] at k0
        rw [cellsOf48] at k1
        rw [cellsOf59] at k2
        simp only [List.drop, List.take] at k0 k1 k2
        obtain ⟨z0, rfl⟩ := int_of k0 rfl
        obtain ⟨z1, z2, z3, z4, rfl, rfl, rfl, rfl⟩ := coord_of k1
        obtain ⟨ba, bl, bc, rfl⟩ := slice_of Tryz.underlying24 k2
        obtain ⟨bf, hC, hM, hI⟩ := open_ints k2
        have e0 := hcell 0 (by omega)
        have e1 := hcell 1 (by omega)
        have e2 := hcell 2 (by omega)
        have e3 := hcell 3 (by omega)
        have e4 := hcell 4 (by omega)
        have e5 := hcell 5 (by omega)
        rw [add_add] at e0 e1 e2 e3 e4 e5
        exact ⟨⟨z0, z1, z2, z3, z4, ba, bl, bc, bf⟩, ⟨by simpa using e0, by simpa using e1, by simpa using e2, by simpa using e3, by simpa using e4, by simpa using e5⟩, hI, hM, hC⟩
    have inh : Inhabited Pl := ⟨Pl.zero⟩
    obtain ⟨F, hF⟩ := choose_lt each
    refine ⟨F, hl, by omega, fun h0 => ?_, fun j hj => (hF j (by omega)).2⟩
    have hp := plain_of_cell (hF 0 (by omega)).1.1
    simp [Addr.add] at hp
    obtain ⟨b, off, sp⟩ := a'
    obtain rfl : sp = none := by simpa using hp
    refine ⟨b, off, rfl, ?_, fun k hk => ?_⟩
    · have := World.block_lt_of_cell? W _ (hF 0 (by omega)).1.1
      simpa [Addr.add] using this
    · have := (hF k (by omega)).1
      rw [add_plain, add_plain, add_plain, add_plain, add_plain, add_plain] at this
      simpa [Nat.add_assoc] using this
set_option maxRecDepth 20000 in
theorem open_foreigns {fuel : Nat} {a : Option Addr} {len cap : Nat} {x : DataW H × List MemPlace} (h : DataW.trod enc Tryz.prog W base spare held fuel 86 [.slice a len cap] = some x) :
    ∃ F : Nat → Fg, len ≤ cap ∧ len ≤ maxLen ∧ FgSl W a len F ∧ ∀ j, j < len → FSl W (F j).ba (F j).bl (F j).bf ∧ (F j).bl ≤ maxLen ∧ (F j).bl ≤ (F j).bc := by
  rcases open_slice Tryz.underlying86 h with ⟨hcs, _⟩ | ⟨a', len', cap', m, n, D, PLc, hcs, hb, hl, hm, hmm, rfl, hx⟩
  · simp at hcs
    obtain ⟨rfl, rfl, rfl⟩ := hcs
    exact ⟨fun _ => Fg.zero, by omega, by omega, fun h => by omega, fun j hj => by omega⟩
  · simp at hcs
    obtain ⟨rfl, rfl, rfl⟩ := hcs
    have hlm : len ≤ m := by rw [hmm]; split <;> omega
    have ce : Tryz.prog.cellsOf 159 = 2 := by kernel_rfl
    have each : ∀ i, i < m → ∃ q : Fg, (W.cell? (a'.add (i * 2)) = some (.int .i64 q.n) ∧ W.cell? (a'.add (i * 2 + 1)) = some (.slice q.ba q.bl q.bc)) ∧ FSl W q.ba q.bl q.bf ∧ q.bl ≤ maxLen ∧ q.bl ≤ q.bc := by
      intro i hi
      obtain ⟨cs', h1, h2⟩ := hx i hi
      rw [ce] at h1
      obtain ⟨_, hlen, hcell⟩ := World.cells?_some h1
      match cs', hlen with
      | [v0, v1], _ =>
        obtain ⟨u0, u1, m', _, _, k0, k1⟩ := trod_struct2 Tryz.underlying159 h2
        dsimp only at k0 k1
        rw [cellsOf3] at k0
        rw [cellsOf22] at k1
        simp only [List.drop, List.take] at k0 k1
        obtain ⟨z0, rfl⟩ := int_of k0 rfl
        obtain ⟨ba, bl, bc, rfl⟩ := slice_of Tryz.underlying25 k1
        obtain ⟨bf, hC, hM, hI⟩ := open_facts22 k1
        have e0 := hcell 0 (by omega)
        have e1 := hcell 1 (by omega)
        rw [add_add] at e0 e1
        exact ⟨⟨z0, ba, bl, bc, bf⟩, ⟨by simpa using e0, by simpa using e1⟩, hI, hM, hC⟩
    have inh : Inhabited Fg := ⟨Fg.zero⟩
    obtain ⟨F, hF⟩ := choose_lt each
    refine ⟨F, hl, by omega, fun h0 => ?_, fun j hj => (hF j (by omega)).2⟩
    have hp := plain_of_cell (hF 0 (by omega)).1.1
    simp [Addr.add] at hp
    obtain ⟨b, off, sp⟩ := a'
    obtain rfl : sp = none := by simpa using hp
    refine ⟨b, off, rfl, ?_, fun k hk => ?_⟩
    · have := World.block_lt_of_cell? W _ (hF 0 (by omega)).1.1
      simpa [Addr.add] using this
    · have := (hF k (by omega)).1
      rw [add_plain, add_plain] at this
      simpa [Nat.add_assoc] using this
theorem array21 {α : Type} {cs : Array α} (h : cs.size = 21) : ∃ c0 c1 c2 c3 c4 c5 c6 c7 c8 c9 c10 c11 c12 c13 c14 c15 c16 c17 c18 c19 c20, cs = #[c0, c1, c2, c3, c4, c5, c6, c7, c8, c9, c10, c11, c12, c13, c14, c15, c16, c17, c18, c19, c20] := by
  obtain ⟨l⟩ := cs
  match l, h with
  | [c0, c1, c2, c3, c4, c5, c6, c7, c8, c9, c10, c11, c12, c13, c14, c15, c16, c17, c18, c19, c20], _ => exact ⟨c0, c1, c2, c3, c4, c5, c6, c7, c8, c9, c10, c11, c12, c13, c14, c15, c16, c17, c18, c19, c20, rfl⟩
theorem cellsOf23 : Tryz.prog.cellsOf 81 = 1 := by kernel_rfl
theorem cellsOf25 : Tryz.prog.cellsOf 82 = 4 := by kernel_rfl
theorem cellsOf26 : Tryz.prog.cellsOf 83 = 1 := by kernel_rfl
theorem cellsOf29 : Tryz.prog.cellsOf 85 = 1 := by kernel_rfl
theorem cellsOf30' : Tryz.prog.cellsOf 86 = 1 := by kernel_rfl
theorem probe_of {n : Nat} {c0 c1 c2 c3 : Value} {x : DataW H × List MemPlace} (h : DataW.trod enc Tryz.prog W base spare held n 82 [c0, c1, c2, c3] = some x) : ∃ (x y z : Int) (e : Bool), c0 = .int .i64 x ∧ c1 = .int .i64 y ∧ c2 = .int .i64 z ∧ c3 = .bool e := by
  obtain ⟨u0, u1, u2, u3, m, _, _, k0, k1, k2, k3⟩ := trod_struct4 Tryz.underlying82 h
  dsimp only at k0 k1 k2 k3
  rw [cellsOf3] at k0 k1 k2
  rw [cellsOf4] at k3
  simp only [List.drop, List.take] at k0 k1 k2 k3
  obtain ⟨z6, rfl⟩ := int_of k0 rfl
  obtain ⟨z7, rfl⟩ := int_of k1 rfl
  obtain ⟨z8, rfl⟩ := int_of k2 rfl
  obtain ⟨z9, rfl⟩ := bool_of k3 rfl
  exact ⟨z6, z7, z8, z9, rfl, rfl, rfl, rfl⟩
/-- a node's value that came in -/
def NdVal (W : World) (v : Value) : Prop := ∃ (me : Int) (up gone gate : Bool) (inc now sq turn : Int) (ta : Option Addr) (tl tc : Nat) (ca : Option Addr) (cl cc : Nat) (pn ps pq : Int) (pa : Bool) (da : Option Addr) (dl dc : Nat) (cx cy ch ce : Int) (pla : Option Addr) (pll plc : Nat) (oa : Option Addr) (ol oc : Nat) (F : Nat → Fc) (GI : Nat → It) (GD : Nat → Dt) (GP : Nat → Pl) (GO : Nat → Fg), v = .agg #[.int .i64 me, .bool up, .bool gone, .bool gate, .int .i64 inc, .int .i64 now, .int .i64 sq, .int .i64 turn, .slice ta tl tc, .slice ca cl cc, .int .i64 pn, .int .i64 ps, .int .i64 pq, .bool pa, .slice da dl dc, .int .i64 cx, .int .i64 cy, .int .i64 ch, .int .i64 ce, .slice pla pll plc, .slice oa ol oc] ∧ NdRaw W ta tl tc F ca cl cc GI da dl GD pla pll GP oa ol GO
set_option maxRecDepth 20000 in
set_option maxHeartbeats 1000000 in
theorem open_nodeC {fuel : Nat} {c0 c1 c2 c3 c4 c5 c6 c7 c8 c9 c10 c11 c12 c13 c14 c15 c16 c17 c18 c19 c20 : Value} {x : DataW H × List MemPlace} (hf : DataW.trod enc Tryz.prog W base spare held fuel 88 [c0, c1, c2, c3, c4, c5, c6, c7, c8, c9, c10, c11, c12, c13, c14, c15, c16, c17, c18, c19, c20] = some x) : NdVal W (.agg #[c0, c1, c2, c3, c4, c5, c6, c7, c8, c9, c10, c11, c12, c13, c14, c15, c16, c17, c18, c19, c20]) := by
  obtain ⟨xs, n, _, _, _, hlen, hfs⟩ := DataW.trod_struct Tryz.underlying88 hf
  have hsome : ∀ i, i < 15 → (xs[i]?).isSome = true := fun i hi => by
    have : i < xs.length := by rw [hlen]; exact hi
    simp [this]
  have g0 := hfs 0 ⟨"Me", 3, 0, false, "", "", 0⟩ rfl
  have g1 := hfs 1 ⟨"Up", 4, 1, false, "", "", 8⟩ rfl
  have g2 := hfs 2 ⟨"Gone", 4, 2, false, "", "", 9⟩ rfl
  have g3 := hfs 3 ⟨"Gate", 4, 3, false, "", "", 10⟩ rfl
  have g4 := hfs 4 ⟨"Inc", 3, 4, false, "", "", 16⟩ rfl
  have g5 := hfs 5 ⟨"Now", 3, 5, false, "", "", 24⟩ rfl
  have g6 := hfs 6 ⟨"Seq", 3, 6, false, "", "", 32⟩ rfl
  have g7 := hfs 7 ⟨"Turn", 3, 7, false, "", "", 40⟩ rfl
  have g8 := hfs 8 ⟨"Table", 25, 8, false, "", "", 48⟩ rfl
  have g9 := hfs 9 ⟨"Cast", 81, 9, false, "", "", 72⟩ rfl
  have g10 := hfs 10 ⟨"Probe", 82, 10, false, "", "", 96⟩ rfl
  have g11 := hfs 11 ⟨"Doubts", 83, 14, false, "", "", 128⟩ rfl
  have g12 := hfs 12 ⟨"Coord", 84, 15, false, "", "", 152⟩ rfl
  have g13 := hfs 13 ⟨"Places", 85, 19, false, "", "", 184⟩ rfl
  have g14 := hfs 14 ⟨"Others", 86, 20, false, "", "", 208⟩ rfl
  dsimp only at g0 g1 g2 g3 g4 g5 g6 g7 g8 g9 g10 g11 g12 g13 g14
  rw [cellsOf3] at g0 g4 g5 g6 g7
  rw [cellsOf4] at g1 g2 g3
  rw [cellsOf22] at g8
  rw [cellsOf23] at g9
  rw [cellsOf25] at g10
  rw [cellsOf26] at g11
  rw [cellsOf48] at g12
  rw [cellsOf29] at g13
  rw [cellsOf30'] at g14
  simp only [List.drop, List.take] at g0 g1 g2 g3 g4 g5 g6 g7 g8 g9 g10 g11 g12 g13 g14
  obtain ⟨z0, rfl⟩ := int_of g0 (hsome 0 (by omega))
  obtain ⟨z1, rfl⟩ := bool_of g1 (hsome 1 (by omega))
  obtain ⟨z2, rfl⟩ := bool_of g2 (hsome 2 (by omega))
  obtain ⟨z3, rfl⟩ := bool_of g3 (hsome 3 (by omega))
  obtain ⟨z4, rfl⟩ := int_of g4 (hsome 4 (by omega))
  obtain ⟨z5, rfl⟩ := int_of g5 (hsome 5 (by omega))
  obtain ⟨z6, rfl⟩ := int_of g6 (hsome 6 (by omega))
  obtain ⟨z7, rfl⟩ := int_of g7 (hsome 7 (by omega))
  obtain ⟨y8, e8⟩ := Option.isSome_iff_exists.1 (hsome 8 (by omega))
  rw [e8] at g8
  obtain ⟨y9, e9⟩ := Option.isSome_iff_exists.1 (hsome 9 (by omega))
  rw [e9] at g9
  obtain ⟨y10, e10⟩ := Option.isSome_iff_exists.1 (hsome 10 (by omega))
  rw [e10] at g10
  obtain ⟨y11, e11⟩ := Option.isSome_iff_exists.1 (hsome 11 (by omega))
  rw [e11] at g11
  obtain ⟨y12, e12⟩ := Option.isSome_iff_exists.1 (hsome 12 (by omega))
  rw [e12] at g12
  obtain ⟨y13, e13⟩ := Option.isSome_iff_exists.1 (hsome 13 (by omega))
  rw [e13] at g13
  obtain ⟨y14, e14⟩ := Option.isSome_iff_exists.1 (hsome 14 (by omega))
  rw [e14] at g14
  obtain ⟨p0, p1, p2, p3, rfl, rfl, rfl, rfl⟩ := probe_of g10
  obtain ⟨q0, q1, q2, q3, rfl, rfl, rfl, rfl⟩ := coord_of g12
  obtain ⟨ta, tl, tc, rfl⟩ := slice_of Tryz.underlying25 g8
  obtain ⟨ca, cl, cc, rfl⟩ := slice_of Tryz.underlying81 g9
  obtain ⟨da, dl, dc, rfl⟩ := slice_of Tryz.underlying83 g11
  obtain ⟨pla, pll, plc, rfl⟩ := slice_of Tryz.underlying85 g13
  obtain ⟨oa, ol, oc, rfl⟩ := slice_of Tryz.underlying86 g14
  obtain ⟨F, f1, f2, f3⟩ := open_facts22 g8
  obtain ⟨GI, i1, i2, i3⟩ := open_items 81 168 Tryz.underlying81 Tryz.underlying168 (by kernel_rfl) rfl (by kernel_rfl) rfl (by kernel_rfl) Tryz.underlying3 Tryz.underlying104 (by kernel_rfl) Tryz.underlying3 Tryz.underlying3 Tryz.underlying3 Tryz.underlying4 g9
  obtain ⟨GD, d1, d2, d3, d4⟩ := open_doubts g11
  obtain ⟨GP, r1, r2, r3, r4⟩ := open_places g13
  obtain ⟨GO, s1, s2, s3, s4⟩ := open_foreigns g14
  exact ⟨z0, z1, z2, z3, z4, z5, z6, z7, ta, tl, tc, ca, cl, cc, p0, p1, p2, p3, da, dl, dc, q0, q1, q2, q3, pla, pll, plc, oa, ol, oc, F, GI, GD, GP, GO, rfl, ⟨f3, i3, d3, r3, s3, d4, r4, s4, f2, i2, d2, r2, s2, f1, i1⟩⟩
end
end Go.Proofs.YtoimfgfhlbkdcaaGreatDoor
/- Exact WorldOk, walked. -/
namespace Go.Proofs.YtoimfgfhlbkdcaaGreatDoor
open Go.ChangeShapes Go.WideShapes Go.ChangeAt Go.RowKit
def s3_10 : List Stp := [⟨some 22, .load 34 (.tmp 5), 34, none, 0⟩, ⟨some 23, .load 27 (.tmp 1), 27, none, 0⟩, ⟨some 24, .call { callee := .value (.func 7), args := #[.tmp 23], argTypes := #[27] }, 34, none, 1⟩, ⟨some 25, .call { callee := .value (.func 9), args := #[.tmp 22, .tmp 24], argTypes := #[34, 34] }, 4, none, 1⟩, ⟨some 26, .unOp .not 4 (.tmp 25), 4, none, 0⟩]
def t3_10 : List (Nat × Nat) := [(0, 0), (1, 0), (2, 1), (3, 1), (4, 0)]
end Go.Proofs.YtoimfgfhlbkdcaaGreatDoor
/- A world that came in, opened. -/
namespace Go.Proofs.YtoimfgfhlbkdcaaGreatDoor
open Go.ChangeShapes Go.WideShapes Go.ChangeAt Go.RowKit Go.Joins Go.Deep
def Rn.zero : Rn := ⟨0, false, false, false, 0, 0, 0, 0, none, 0, 0, none, 0, 0, 0, 0, 0, false, none, 0, 0, 0, 0, 0, 0, none, 0, 0, none, 0, 0, fun _ => Fc.zero, fun _ => It.zero, fun _ => Dt.zero, fun _ => Pl.zero, fun _ => Fg.zero⟩
theorem cells86 : Tryz.prog.cellsOf 88 = 21 := by kernel_rfl
theorem cells88 : Tryz.prog.cellsOf 91 = 3 := by kernel_rfl
theorem cells9 : Tryz.prog.cellsOf 9 = 1 := by kernel_rfl
theorem cells22 : Tryz.prog.cellsOf 22 = 1 := by kernel_rfl
theorem cells23 : Tryz.prog.cellsOf 23 = 1 := by kernel_rfl
section
variable {H : Type} {enc : TypeId × Value → H} {W : World} {base : Nat} {spare : Nat → Bool} {held : Bool}
theorem list21 {l : List Value} (h : l.length = 21) : ∃ v0 v1 v2 v3 v4 v5 v6 v7 v8 v9 v10 v11 v12 v13 v14 v15 v16 v17 v18 v19 v20, l = [v0, v1, v2, v3, v4, v5, v6, v7, v8, v9, v10, v11, v12, v13, v14, v15, v16, v17, v18, v19, v20] := by
  match l, h with
  | [v0, v1, v2, v3, v4, v5, v6, v7, v8, v9, v10, v11, v12, v13, v14, v15, v16, v17, v18, v19, v20], _ => exact ⟨v0, v1, v2, v3, v4, v5, v6, v7, v8, v9, v10, v11, v12, v13, v14, v15, v16, v17, v18, v19, v20, rfl⟩
set_option maxRecDepth 20000 in
theorem open_nodes {fuel : Nat} {a : Option Addr} {len cap : Nat} {x : DataW H × List MemPlace} (h : DataW.trod enc Tryz.prog W base spare held fuel 22 [.slice a len cap] = some x) :
    ∃ R : Nat → Rn, len ≤ maxLen ∧ NSl W a len R ∧ ∀ j, j < len → (R j).Raw W := by
  rcases open_slice Tryz.underlying22 h with ⟨hcs, _⟩ | ⟨a', len', cap', m, n, D, PLc, hcs, hb, hl, hm, hmm, rfl, hx⟩
  · simp at hcs
    obtain ⟨rfl, rfl, rfl⟩ := hcs
    exact ⟨fun _ => Rn.zero, by omega, fun h => by omega, fun j hj => by omega⟩
  · simp at hcs
    obtain ⟨rfl, rfl, rfl⟩ := hcs
    have hlm : len ≤ m := by rw [hmm]; split <;> omega
    have each : ∀ i, i < m → ∃ q : Rn, (∀ j v, q.cells.toList[j]? = some v → W.cell? (a'.add (i * 21 + j)) = some v) ∧ q.Raw W := by
      intro i hi
      obtain ⟨cs', h1, h2⟩ := hx i hi
      rw [cells86] at h1
      obtain ⟨_, hlen, hcell⟩ := World.cells?_some h1
      obtain ⟨v0, v1, v2, v3, v4, v5, v6, v7, v8, v9, v10, v11, v12, v13, v14, v15, v16, v17, v18, v19, v20, rfl⟩ := list21 hlen
      obtain ⟨me, up, gone, gate, inc, now, sq, turn, ta, tl, tc, ca, cl, cc, pn, ps, pq, pa, da, dl, dc, cx, cy, ch, ce, pla, pll, plc, oa, ol, oc, F, GI, GD, GP, GO, hv, hraw⟩ := open_nodeC h2
      refine ⟨⟨me, up, gone, gate, inc, now, sq, turn, ta, tl, tc, ca, cl, cc, pn, ps, pq, pa, da, dl, dc, cx, cy, ch, ce, pla, pll, plc, oa, ol, oc, F, GI, GD, GP, GO⟩, fun j v hj => ?_, hraw⟩
      have hj' : j < 21 := by
        have := (List.getElem?_eq_some_iff.1 hj).1
        exact this
      have ev : (#[v0, v1, v2, v3, v4, v5, v6, v7, v8, v9, v10, v11, v12, v13, v14, v15, v16, v17, v18, v19, v20] : Array Value) = Rn.cells ⟨me, up, gone, gate, inc, now, sq, turn, ta, tl, tc, ca, cl, cc, pn, ps, pq, pa, da, dl, dc, cx, cy, ch, ce, pla, pll, plc, oa, ol, oc, F, GI, GD, GP, GO⟩ := by
        injection hv
      rw [← ev] at hj
      have := hcell j (by simpa using hj')
      rw [add_add] at this
      rw [this]
      exact hj
    have inh : Inhabited Rn := ⟨Rn.zero⟩
    obtain ⟨F, hF⟩ := choose_lt each
    refine ⟨F, by omega, fun h0 => ?_, fun j hj => (hF j (by omega)).2⟩
    have hp := plain_of_cell ((hF 0 (by omega)).1 0 _ rfl)
    simp [Addr.add] at hp
    obtain ⟨b, off, sp⟩ := a'
    obtain rfl : sp = none := by simpa using hp
    refine ⟨b, off, rfl, ?_, fun k hk j v hj => ?_⟩
    · have := World.block_lt_of_cell? W _ ((hF 0 (by omega)).1 0 _ rfl)
      simpa [Addr.add] using this
    · have := (hF k (by omega)).1 j v hj
      rw [add_plain] at this
      simpa [Nat.add_assoc] using this
set_option maxRecDepth 20000 in
theorem open_flights {fuel : Nat} {a : Option Addr} {len cap : Nat} {x : DataW H × List MemPlace} (h : DataW.trod enc Tryz.prog W base spare held fuel 23 [.slice a len cap] = some x) :
    ∃ F : Nat → Ft, len ≤ maxLen ∧ FtSl W a len F ∧ ∀ j, j < len → (F j).x.size ≤ maxLen := by
  rcases open_slice Tryz.underlying23 h with ⟨hcs, _⟩ | ⟨a', len', cap', m, n, D, PLc, hcs, hb, hl, hm, hmm, rfl, hx⟩
  · simp at hcs
    obtain ⟨rfl, rfl, rfl⟩ := hcs
    exact ⟨fun _ => Ft.zero, by omega, fun h => by omega, fun j hj => by omega⟩
  · simp at hcs
    obtain ⟨rfl, rfl, rfl⟩ := hcs
    have hlm : len ≤ m := by rw [hmm]; split <;> omega
    have each : ∀ i, i < m → ∃ q : Ft, (W.cell? (a'.add (i * 3)) = some (.int .i64 q.t) ∧ W.cell? (a'.add (i * 3 + 1)) = some (.string q.x) ∧ W.cell? (a'.add (i * 3 + 2)) = some (.bool q.s)) ∧ q.x.size ≤ maxLen := by
      intro i hi
      obtain ⟨cs', h1, h2⟩ := hx i hi
      rw [cells88] at h1
      obtain ⟨_, hlen, hcell⟩ := World.cells?_some h1
      match cs', hlen with
      | [v0, v1, v2], _ =>
        obtain ⟨u0, u1, u2, m', _, _, k0, k1, k2⟩ := trod_struct3 Tryz.underlying91 h2
        dsimp only at k0 k1 k2
        rw [cellsOf3] at k0
        rw [cells9] at k1
        rw [cellsOf4] at k2
        simp only [List.drop, List.take] at k0 k1 k2
        obtain ⟨z0, rfl⟩ := int_of k0 rfl
        obtain ⟨s1, e1, _, hs1⟩ := DataW.trod_string Tryz.underlying9 k1
        obtain rfl : v1 = .string s1 := by simpa using e1
        obtain ⟨z2, rfl⟩ := bool_of k2 rfl
        have e0 := hcell 0 (by omega)
        have e1 := hcell 1 (by omega)
        have e2 := hcell 2 (by omega)
        rw [add_add] at e0 e1 e2
        exact ⟨⟨z0, s1, z2⟩, ⟨by simpa using e0, by simpa using e1, by simpa using e2⟩, hs1⟩
    have inh : Inhabited Ft := ⟨Ft.zero⟩
    obtain ⟨F, hF⟩ := choose_lt each
    refine ⟨F, by omega, fun h0 => ?_, fun j hj => (hF j (by omega)).2⟩
    have hp := plain_of_cell (hF 0 (by omega)).1.1
    simp [Addr.add] at hp
    obtain ⟨b, off, sp⟩ := a'
    obtain rfl : sp = none := by simpa using hp
    refine ⟨b, off, rfl, ?_, fun k hk => ?_⟩
    · have := World.block_lt_of_cell? W _ (hF 0 (by omega)).1.1
      simpa [Addr.add] using this
    · have := (hF k (by omega)).1
      rw [add_plain, add_plain, add_plain] at this
      simpa [Nat.add_assoc] using this
/-- a world's value that came in -/
def WdVal (W : World) (v : Value) : Prop := ∃ (na : Option Addr) (nl nc : Nat) (ra : Option Addr) (rl rc : Nat) (sa : Option Addr) (sl sc : Nat) (ba : Option Addr) (bl bc : Nat) (R : Nat → Rn) (FR : Nat → Ft) (SD : Nat → Int) (BF : Nat → Fc), v = .agg #[.slice na nl nc, .slice ra rl rc, .slice sa sl sc, .slice ba bl bc] ∧ WdRaw W na nl ra rl sa sl sc ba bl bc R FR SD BF
set_option maxRecDepth 20000 in
theorem open_world {r : Reach} {b0 : Nat} {v : Value} {d : DataW H} {p : List MemPlace} (hv : Value.okWide Tryz.prog W r b0 27 v) (h : DataW.Trod enc Tryz.prog W base spare held 27 v d p) : WdVal W v := by
  obtain ⟨cs, rfl, hsz⟩ := okWide_struct Tryz.underlying27 hv
  have hs4 : cs.size = 4 := hsz.trans (by kernel_rfl)
  obtain ⟨l⟩ := cs
  match l, hs4 with
  | [c0, c1, c2, c3], _ =>
    obtain ⟨fuel, hf⟩ := h
    obtain ⟨u0, u1, u2, u3, m, _, _, k0, k1, k2, k3⟩ := trod_struct4 Tryz.underlying27 hf
    simp only [Value.cells] at k0 k1 k2 k3
    rw [cells22] at k0
    rw [cells23] at k1
    rw [cellsOf59] at k2
    rw [cellsOf22] at k3
    simp only [List.drop, List.take] at k0 k1 k2 k3
    obtain ⟨na, nl, nc, rfl⟩ := slice_of Tryz.underlying22 k0
    obtain ⟨ra, rl, rc, rfl⟩ := slice_of Tryz.underlying23 k1
    obtain ⟨sa, sl, sc, rfl⟩ := slice_of Tryz.underlying24 k2
    obtain ⟨ba, bl, bc, rfl⟩ := slice_of Tryz.underlying25 k3
    obtain ⟨R, n1, n2, n3⟩ := open_nodes k0
    obtain ⟨FR, r1, r2, r3⟩ := open_flights k1
    obtain ⟨SD, s1, s2, s3⟩ := open_ints k2
    obtain ⟨BF, f1, f2, f3⟩ := open_facts22 k3
    exact ⟨na, nl, nc, ra, rl, rc, sa, sl, sc, ba, bl, bc, R, FR, SD, BF, rfl, ⟨n2, n3, r2, r3, s3, f3, n1, r1, s2, f2, s1, f1⟩⟩
end
end Go.Proofs.YtoimfgfhlbkdcaaGreatDoor
