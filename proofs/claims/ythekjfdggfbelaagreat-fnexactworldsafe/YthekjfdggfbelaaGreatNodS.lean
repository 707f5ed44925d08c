/- A node as data, and where its lists lie. -/
import Derived.Test.YthekjfdggfbelaaGreatNd24
import Derived.Test.YthekjfdggfbelaaGreatNd25
import Derived.Test.YthekjfdggfbelaaGreatSq
namespace Go.Proofs.YthekjfdggfbelaaGreat
open Go.ChangeShapes Go.WideShapes Go.ChangeAt Go.RowKit
/-- a doubt as data -/
structure Dd where
  n : Int
  i : Int
  s : Int
  bs : List Int
def Dd.zero : Dd := ⟨0, 0, 0, []⟩
/-- a place as data -/
structure Pd where
  n : Int
  x : Int
  y : Int
  h : Int
  e : Int
  ts : List Int
def Pd.zero : Pd := ⟨0, 0, 0, 0, 0, []⟩
/-- what is known of another site, as data -/
structure Od where
  n : Int
  fs : List Fc
def Od.zero : Od := ⟨0, []⟩
/-- a node as data -/
structure Nod where
  me : Int
  up : Bool
  gone : Bool
  gate : Bool
  inc : Int
  now : Int
  sq : Int
  turn : Int
  T : List Fc
  C : List It
  pn : Int
  ps : Int
  pq : Int
  pa : Bool
  D : List Dd
  cx : Int
  cy : Int
  ch : Int
  ce : Int
  P : List Pd
  O : List Od
/-- where its lists lie -/
structure Loc where
  ta : Option Addr
  tc : Nat
  ca : Option Addr
  cc : Nat
  da : Option Addr
  dc : Nat
  dA : Nat → Option Addr
  dC : Nat → Nat
  pla : Option Addr
  plc : Nat
  pA : Nat → Option Addr
  pC : Nat → Nat
  oa : Option Addr
  oc : Nat
  oA : Nat → Option Addr
  oC : Nat → Nat
def Loc.none : Loc := ⟨.none, 0, .none, 0, .none, 0, fun _ => .none, fun _ => 0, .none, 0, fun _ => .none, fun _ => 0, .none, 0, fun _ => .none, fun _ => 0⟩
def tF (l : List Fc) (k : Nat) : Fc := l.getD k Fc.zero
def cF (l : List It) (k : Nat) : It := l.getD k It.zero
def iF (l : List Int) (k : Nat) : Int := l.getD k 0
def dF (l : List Dd) (a : Nat → Option Addr) (c : Nat → Nat) (k : Nat) : Dt := ⟨(l.getD k Dd.zero).n, (l.getD k Dd.zero).i, (l.getD k Dd.zero).s, a k, (l.getD k Dd.zero).bs.length, c k, iF (l.getD k Dd.zero).bs⟩
def pF (l : List Pd) (a : Nat → Option Addr) (c : Nat → Nat) (k : Nat) : Pl := ⟨(l.getD k Pd.zero).n, (l.getD k Pd.zero).x, (l.getD k Pd.zero).y, (l.getD k Pd.zero).h, (l.getD k Pd.zero).e, a k, (l.getD k Pd.zero).ts.length, c k, iF (l.getD k Pd.zero).ts⟩
def oF (l : List Od) (a : Nat → Option Addr) (c : Nat → Nat) (k : Nat) : Fg := ⟨(l.getD k Od.zero).n, a k, (l.getD k Od.zero).fs.length, c k, tF (l.getD k Od.zero).fs⟩
/-- a node's value -/
def ndV (n : Nod) (L : Loc) : Value := .agg #[.int .i64 n.me, .bool n.up, .bool n.gone, .bool n.gate, .int .i64 n.inc, .int .i64 n.now, .int .i64 n.sq, .int .i64 n.turn, .slice L.ta n.T.length L.tc, .slice L.ca n.C.length L.cc, .int .i64 n.pn, .int .i64 n.ps, .int .i64 n.pq, .bool n.pa, .slice L.da n.D.length L.dc, .int .i64 n.cx, .int .i64 n.cy, .int .i64 n.ch, .int .i64 n.ce, .slice L.pla n.P.length L.plc, .slice L.oa n.O.length L.oc]
/-- a node can be read -/
def NdR (w : World) (n : Nod) (L : Loc) : Prop := NdIn w L.ta n.T.length (tF n.T) L.ca n.C.length (cF n.C) L.da n.D.length (dF n.D L.dA L.dC) L.pla n.P.length (pF n.P L.pA L.pC) L.oa n.O.length (oF n.O L.oA L.oC)
theorem NdR.below {w w' : World} {n : Nod} {L : Loc} (h : NdR w n L) (k : Below w.heap.size w w') : NdR w' n L := NdIn.below h k
/-- a node is ok -/
def nodQ (n : Nod) : Bool := nodB n.me n.up n.gone n.gate n.inc n.now n.sq n.turn n.T.length (tF n.T) n.C.length (cF n.C) n.pn n.ps n.pq n.pa n.D.length (dF n.D (fun _ => none) fun _ => 0) n.cx n.cy n.ch n.ce n.P.length (pF n.P (fun _ => none) fun _ => 0) n.O.length (oF n.O (fun _ => none) fun _ => 0)
theorem dF_eq (l : List Dd) (a a' : Nat → Option Addr) (c c' : Nat → Nat) (j : Nat) : DtEq (dF l a c j) (dF l a' c' j) := ⟨rfl, rfl, rfl, rfl, rfl⟩
theorem pF_eq (l : List Pd) (a a' : Nat → Option Addr) (c c' : Nat → Nat) (j : Nat) : PlEq (pF l a c j) (pF l a' c' j) := ⟨rfl, rfl, rfl, rfl, rfl, rfl, rfl⟩
theorem oF_eq (l : List Od) (a a' : Nat → Option Addr) (c c' : Nat → Nat) (j : Nat) : FgEq (oF l a c j) (oF l a' c' j) := ⟨rfl, rfl, rfl⟩
theorem nodQ_at (n : Nod) (L : Loc) : nodB n.me n.up n.gone n.gate n.inc n.now n.sq n.turn n.T.length (tF n.T) n.C.length (cF n.C) n.pn n.ps n.pq n.pa n.D.length (dF n.D L.dA L.dC) n.cx n.cy n.ch n.ce n.P.length (pF n.P L.pA L.pC) n.O.length (oF n.O L.oA L.oC) = nodQ n :=
  nod_congr _ _ _ _ _ _ _ _ _ _ _ _ _ _ _ _ _ _ _ _ _ _ _ _ _ _ _ _ _ (fun _ => dF_eq _ _ _ _ _ _) (fun _ => pF_eq _ _ _ _ _ _) (fun _ => oF_eq _ _ _ _ _ _)
theorem okI_nod (n : Nod) (L : Loc) (w : World) (h : NdR w n L) : Calls Tryz.prog 56 #[ndV n L] w fun r w' => r = .returned (.bool (nodQ n)) ∧ Below w.heap.size w w' := by
  rw [← nodQ_at n L]
  exact nodeOk11_any _ _ _ _ _ _ _ _ _ _ _ _ _ _ _ _ _ _ _ _ _ _ _ _ _ _ _ _ _ _ _ _ _ _ _ _ w h
theorem okS_nod (n : Nod) (L : Loc) (w : World) (h : NdR w n L) : Calls Tryz.prog 17 #[ndV n L] w fun r w' => r = .returned (.bool (nodQ n)) ∧ Below w.heap.size w w' := by
  rw [← nodQ_at n L, nod_same]
  exact nodeOk9_any _ _ _ _ _ _ _ _ _ _ _ _ _ _ _ _ _ _ _ _ _ _ _ _ _ _ _ _ _ _ _ _ _ _ _ _ w h
theorem eqNod (n : Nod) (L L' : Loc) (w : World) (h : NdR w n L) (h' : NdR w n L') : Calls Tryz.prog 65 #[ndV n L, ndV n L'] w fun r w' => r = .returned (.bool true) ∧ Below w.heap.size w w' :=
  eqNode_same _ _ _ _ _ _ _ _ _ _ _ _ _ _ _ _ _ _ _ _ _ _ _ _ _ _ _ _ _ _ _ _ _ _ _ _ _ _ _ _ _ _ _ _ _ _ _ _ _ w h h' (fun _ => dF_eq _ _ _ _ _ _) (fun _ => pF_eq _ _ _ _ _ _) (fun _ => oF_eq _ _ _ _ _ _)
/-- a node out of functions -/
def dL (n : Nat) (G : Nat → Dt) : List Dd := (List.range n).map fun k => ⟨(G k).n, (G k).i, (G k).s, (List.range (G k).bl).map (G k).bf⟩
def pL (n : Nat) (G : Nat → Pl) : List Pd := (List.range n).map fun k => ⟨(G k).n, (G k).x, (G k).y, (G k).h, (G k).e, (List.range (G k).bl).map (G k).bf⟩
def oL (n : Nat) (G : Nat → Fg) : List Od := (List.range n).map fun k => ⟨(G k).n, seqF (G k).bf (G k).bl⟩
def cL (n : Nat) (G : Nat → It) : List It := (List.range n).map G
theorem tF_seq (F : Nat → Fc) (n k : Nat) (h : k < n) : tF (seqF F n) k = F k := by simp [tF, seqF, List.getD, h]
theorem cF_seq (F : Nat → It) (n k : Nat) (h : k < n) : cF (cL n F) k = F k := by simp [cF, cL, List.getD, h]
theorem iF_seq (f : Nat → Int) (n k : Nat) (h : k < n) : iF ((List.range n).map f) k = f k := by simp [iF, List.getD, h]
theorem dL_get (n : Nat) (G : Nat → Dt) (k : Nat) (h : k < n) : (dL n G).getD k Dd.zero = ⟨(G k).n, (G k).i, (G k).s, (List.range (G k).bl).map (G k).bf⟩ := by simp [dL, List.getD, h]
theorem pL_get (n : Nat) (G : Nat → Pl) (k : Nat) (h : k < n) : (pL n G).getD k Pd.zero = ⟨(G k).n, (G k).x, (G k).y, (G k).h, (G k).e, (List.range (G k).bl).map (G k).bf⟩ := by simp [pL, List.getD, h]
theorem oL_get (n : Nat) (G : Nat → Fg) (k : Nat) (h : k < n) : (oL n G).getD k Od.zero = ⟨(G k).n, seqF (G k).bf (G k).bl⟩ := by simp [oL, List.getD, h]
def nodOf (me : Int) (up gone gate : Bool) (inc now sq turn : Int) (tl : Nat) (F : Nat → Fc) (cl : Nat) (GI : Nat → It) (pn ps pq : Int) (pa : Bool) (dl : Nat) (GD : Nat → Dt) (cx cy ch ce : Int) (pll : Nat) (GP : Nat → Pl) (ol : Nat) (GO : Nat → Fg) : Nod := ⟨me, up, gone, gate, inc, now, sq, turn, seqF F tl, cL cl GI, pn, ps, pq, pa, dL dl GD, cx, cy, ch, ce, pL pll GP, oL ol GO⟩
def locOf (ta : Option Addr) (tc : Nat) (ca : Option Addr) (cc : Nat) (da : Option Addr) (dc : Nat) (GD : Nat → Dt) (pla : Option Addr) (plc : Nat) (GP : Nat → Pl) (oa : Option Addr) (oc : Nat) (GO : Nat → Fg) : Loc := ⟨ta, tc, ca, cc, da, dc, fun k => (GD k).ba, fun k => (GD k).bc, pla, plc, fun k => (GP k).ba, fun k => (GP k).bc, oa, oc, fun k => (GO k).ba, fun k => (GO k).bc⟩
theorem fslC {w : World} {a : Option Addr} {len : Nat} {F G : Nat → Fc} (h : FSl w a len F) (e : ∀ k, k < len → F k = G k) : FSl w a len G := fun hl => by
  obtain ⟨b, off, rfl, hb, hf⟩ := h hl
  exact ⟨b, off, rfl, hb, fun k hk => by rw [← e k hk]; exact hf k hk⟩
theorem islC {w : World} {a : Option Addr} {len : Nat} {F G : Nat → Int} (h : ISl w a len F) (e : ∀ k, k < len → F k = G k) : ISl w a len G := fun hl => by
  obtain ⟨b, off, rfl, hb, hf⟩ := h hl
  exact ⟨b, off, rfl, hb, fun k hk => by rw [← e k hk]; exact hf k hk⟩
theorem tslC {w : World} {a : Option Addr} {len : Nat} {F G : Nat → It} (h : TSl w a len F) (e : ∀ k, k < len → F k = G k) : TSl w a len G := fun hl => by
  obtain ⟨b, off, rfl, hb, hf⟩ := h hl
  exact ⟨b, off, rfl, hb, fun k hk => by rw [← e k hk]; exact hf k hk⟩
theorem dslC {w : World} {a : Option Addr} {len : Nat} {F G : Nat → Dt} (h : DtSl w a len F) (e : ∀ k, k < len → (F k).n = (G k).n ∧ (F k).i = (G k).i ∧ (F k).s = (G k).s ∧ (F k).ba = (G k).ba ∧ (F k).bl = (G k).bl ∧ (F k).bc = (G k).bc) : DtSl w a len G := fun hl => by
  obtain ⟨b, off, rfl, hb, hf⟩ := h hl
  refine ⟨b, off, rfl, hb, fun k hk => ?_⟩
  obtain ⟨e1, e2, e3, e4, e5, e6⟩ := e k hk
  rw [← e1, ← e2, ← e3, ← e4, ← e5, ← e6]
  exact hf k hk
theorem pslC {w : World} {a : Option Addr} {len : Nat} {F G : Nat → Pl} (h : PlSl w a len F) (e : ∀ k, k < len → (F k).n = (G k).n ∧ (F k).x = (G k).x ∧ (F k).y = (G k).y ∧ (F k).h = (G k).h ∧ (F k).e = (G k).e ∧ (F k).ba = (G k).ba ∧ (F k).bl = (G k).bl ∧ (F k).bc = (G k).bc) : PlSl w a len G := fun hl => by
  obtain ⟨b, off, rfl, hb, hf⟩ := h hl
  refine ⟨b, off, rfl, hb, fun k hk => ?_⟩
  obtain ⟨e1, e2, e3, e4, e5, e6, e7, e8⟩ := e k hk
  rw [← e1, ← e2, ← e3, ← e4, ← e5, ← e6, ← e7, ← e8]
  exact hf k hk
theorem oslC {w : World} {a : Option Addr} {len : Nat} {F G : Nat → Fg} (h : FgSl w a len F) (e : ∀ k, k < len → (F k).n = (G k).n ∧ (F k).ba = (G k).ba ∧ (F k).bl = (G k).bl ∧ (F k).bc = (G k).bc) : FgSl w a len G := fun hl => by
  obtain ⟨b, off, rfl, hb, hf⟩ := h hl
  refine ⟨b, off, rfl, hb, fun k hk => ?_⟩
  obtain ⟨e1, e2, e3, e4⟩ := e k hk
  rw [← e1, ← e2, ← e3, ← e4]
  exact hf k hk
/-- a node that can be read, by its functions, is one that can be read, by its lists -/
theorem canon {w : World} (me : Int) (up gone gate : Bool) (inc now sq turn : Int) (ta : Option Addr) (tl tc : Nat) (ca : Option Addr) (cl cc : Nat) (pn ps pq : Int) (pa : Bool) (da : Option Addr) (dl dc : Nat) (cx cy ch ce : Int) (pla : Option Addr) (pll plc : Nat) (oa : Option Addr) (ol oc : Nat) (F : Nat → Fc) (GI : Nat → It) (GD : Nat → Dt) (GP : Nat → Pl) (GO : Nat → Fg) (h : NdIn w ta tl F ca cl GI da dl GD pla pll GP oa ol GO) :
    NdR w (nodOf me up gone gate inc now sq turn tl F cl GI pn ps pq pa dl GD cx cy ch ce pll GP ol GO) (locOf ta tc ca cc da dc GD pla plc GP oa oc GO) := by
  have l1 : (seqF F tl).length = tl := seqF_len F tl
  have l2 : (cL cl GI).length = cl := by simp [cL]
  have l3 : (dL dl GD).length = dl := by simp [dL]
  have l4 : (pL pll GP).length = pll := by simp [pL]
  have l5 : (oL ol GO).length = ol := by simp [oL]
  unfold NdR nodOf locOf
  dsimp only
  rw [l1, l2, l3, l4, l5]
  refine ⟨fslC h.f fun k hk => (tF_seq F tl k hk).symm, tslC h.i fun k hk => (cF_seq GI cl k hk).symm, dslC h.d fun k hk => ?_, fun k hk => ?_, pslC h.p fun k hk => ?_, fun k hk => ?_, oslC h.o fun k hk => ?_, fun k hk => ?_, h.hf, h.hi, h.hd, h.hp, h.ho⟩
  · simp only [dF, dL_get dl GD k hk]; simp
  · obtain ⟨q1, q2⟩ := h.db k hk
    have e : (dF (dL dl GD) (fun k => (GD k).ba) (fun k => (GD k).bc) k).bl = (GD k).bl := by simp only [dF, dL_get dl GD k hk]; simp
    refine ⟨?_, by rw [e]; exact q2⟩
    rw [e]
    refine islC q1 fun j hj => ?_
    simp only [dF, dL_get dl GD k hk]
    exact (iF_seq _ _ _ hj).symm
  · simp only [pF, pL_get pll GP k hk]; simp
  · obtain ⟨q1, q2⟩ := h.pb k hk
    have e : (pF (pL pll GP) (fun k => (GP k).ba) (fun k => (GP k).bc) k).bl = (GP k).bl := by simp only [pF, pL_get pll GP k hk]; simp
    refine ⟨?_, by rw [e]; exact q2⟩
    rw [e]
    refine islC q1 fun j hj => ?_
    simp only [pF, pL_get pll GP k hk]
    exact (iF_seq _ _ _ hj).symm
  · simp only [oF, oL_get ol GO k hk]; simp [seqF_len]
  · obtain ⟨q1, q2⟩ := h.ob k hk
    have e : (oF (oL ol GO) (fun k => (GO k).ba) (fun k => (GO k).bc) k).bl = (GO k).bl := by simp only [oF, oL_get ol GO k hk]; simp [seqF_len]
    refine ⟨?_, by rw [e]; exact q2⟩
    rw [e]
    refine fslC q1 fun j hj => ?_
    simp only [oF, oL_get ol GO k hk]
    exact (tF_seq _ _ _ hj).symm
end Go.Proofs.YthekjfdggfbelaaGreat
