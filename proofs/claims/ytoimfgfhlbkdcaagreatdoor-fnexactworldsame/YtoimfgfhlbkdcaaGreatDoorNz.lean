/- Nodes: the program's word and the model's are the same. -/
import Derived.Test.YtoimfgfhlbkdcaaGreatDoorNd19
import Derived.Test.YtoimfgfhlbkdcaaGreatDoorNd24
import Derived.Test.YtoimfgfhlbkdcaaGreatDoorFacts
namespace Go.Proofs.YtoimfgfhlbkdcaaGreatDoor
theorem tok_at {tl : Nat} {F : Nat → Fc} (h : tokB tl F = true) {k : Nat} (hk : k < tl) : fokB (F k).n (F k).i (F k).s = true := by
  unfold tokB allB at h
  rw [Bool.and_eq_true, decide_eq_true_iff] at h
  exact h.1 k hk
theorem fok_parts {n i s : Int} (h : fokB n i s = true) : (0 ≤ n ∧ n ≤ 7) ∧ (1 ≤ s ∧ s ≤ 4) := by
  unfold fokB inb at h
  simp only [Bool.and_eq_true, decide_eq_true_eq] at h
  omega
theorem cast_same {tl : Nat} {F : Nat → Fc} (h : tokB tl F = true) (cl : Nat) (GI : Nat → It) : castB tl F cl GI = scastB tl F cl GI := by
  unfold castB scastB
  cases hc : cokB cl GI
  · rfl
  · rw [Bool.true_and, Bool.true_and]
    unfold cinA
    have hI : ∀ k, k < cl → fokB (GI k).n (GI k).i (GI k).s = true := by
      intro k hk
      unfold cokB callB at hc
      rw [Bool.and_eq_true, decide_eq_true_iff] at hc
      have := hc.1 k hk
      unfold iokB at this
      rw [Bool.and_eq_true] at this
      exact this.1
    have e : ∀ k, k < cl → cinB tl F (GI k).n (GI k).i (GI k).s (GI k).g = scinB tl F (GI k).n (GI k).i (GI k).s (GI k).g := by
      intro k hk
      unfold cinB scinB
      cases ef : fnd tl F (GI k).n with
      | none => rfl
      | some j =>
        simp only [Option.isSome_some, Bool.true_and, fo]
        unfold overB
        rw [hI k hk, tok_at h (fnd_lt ef), fnd_n ef]
        simp
    congr 1
    exact propext ⟨fun q k hk => by rw [← e k hk]; exact q k hk, fun q k hk => by rw [e k hk]; exact q k hk⟩
theorem probe_same {tl : Nat} {F : Nat → Fc} (h : tokB tl F = true) (me now sq pn ps pq : Int) (pa : Bool) : prbB me now sq tl F pn ps pq pa = sprbB me now sq tl F pn ps pq pa := by
  unfold prbB sprbB peqB stn
  have hs : ∀ key, decide ((fo F (fnd tl F key)).s ≠ 0) = (fnd tl F key).isSome := by
    intro key
    cases ef : fnd tl F key with
    | none => rfl
    | some j =>
      have := fok_parts (tok_at h (fnd_lt ef))
      simp only [fo, Option.isSome_some]
      exact decide_eq_true (by omega)
  by_cases e : pn = -1
  · subst e
    have hn : fnd tl F (-1) = none := by
      cases ef : fnd tl F (-1) with
      | none => rfl
      | some j =>
        have h1 := fok_parts (tok_at h (fnd_lt ef))
        have h2 := fnd_n ef
        omega
    rw [if_pos rfl, hs, hn]
    simp
  · rw [if_neg e, hs]
    simp [e]
theorem doubts_same {tl : Nat} {F : Nat → Fc} (h : tokB tl F = true) (me now : Int) (dl : Nat) (GD : Nat → Dt) : dbsB me now tl F dl GD = sdbsB me now tl F dl GD := by
  unfold dbsB sdbsB cntT
  rw [if_pos h]
  have : ((dl : Int) == (cntN F 2 tl : Int)) = ((cntN F 2 tl : Int) == (dl : Int)) := by
    rw [Bool.eq_iff_iff]; simp only [beq_iff_eq]; exact ⟨Eq.symm, Eq.symm⟩
  rw [this]
  cases Dtasc dl GD <;> cases dbA me now tl F dl GD <;> cases ((cntN F 2 tl : Int) == (dl : Int)) <;> rfl
theorem nod_same (me : Int) (up gone gate : Bool) (inc now sq turn : Int) (tl : Nat) (F : Nat → Fc) (cl : Nat) (GI : Nat → It) (pn ps pq : Int) (pa : Bool) (dl : Nat) (GD : Nat → Dt) (cx cy ch ce : Int) (pll : Nat) (GP : Nat → Pl) (ol : Nat) (GO : Nat → Fg) : nodB me up gone gate inc now sq turn tl F cl GI pn ps pq pa dl GD cx cy ch ce pll GP ol GO = snodB me up gone gate inc now sq turn tl F cl GI pn ps pq pa dl GD cx cy ch ce pll GP ol GO := by
  unfold nodB snodB
  cases numB me now sq turn inc
  · rfl
  rw [Bool.true_and, Bool.true_and]
  cases up
  · simp
  · have hd : dwn true gone inc now sq turn tl cl dl pll ol pn ps pq pa cx cy ch ce = false := by simp [dwn]
    rw [hd, Bool.false_or, Bool.true_and, if_pos rfl]
    unfold upB tbB sslfB
    cases ht : tokB tl F
    · simp
    · rw [cast_same ht, probe_same ht, doubts_same ht]
      simp only [Bool.true_and]
      generalize cok cx cy ch ce = a1
      generalize sitB tl F (ste me) = a2
      generalize feqB (fo F (fnd tl F me)) (slf me gone gate inc) = a3
      generalize scastB tl F cl GI = a4
      generalize sprbB me now sq tl F pn ps pq pa = a5
      generalize sdbsB me now tl F dl GD = a6
      generalize plsB me pll GP = a7
      generalize othsB me ol GO = a8
      cases a1 <;> cases a2 <;> cases a3 <;> cases a4 <;> cases a5 <;> cases a6 <;> simp
theorem dbs_congr {G G' : Nat → Dt} (h : ∀ j, DtEq (G j) (G' j)) (me now : Int) (tl : Nat) (F : Nat → Fc) (len : Nat) : dbsB me now tl F len G = dbsB me now tl F len G' := by
  have e0 : (fun k => (G k).n) = fun k => (G' k).n := funext fun k => (h k).1
  unfold dbsB Dtasc dbA
  rw [e0]
  have e : ∀ k, dbtB me now tl F (G k).n (G k).i (G k).s (G k).bl (G k).bf = dbtB me now tl F (G' k).n (G' k).i (G' k).s (G' k).bl (G' k).bf := fun k => by
    obtain ⟨h1, h2, h3, h4, h5⟩ := h k
    rw [h1, h2, h3, h4, h5]
  simp only [e]
theorem pls_congr {G G' : Nat → Pl} (h : ∀ j, PlEq (G j) (G' j)) (me : Int) (len : Nat) : plsB me len G = plsB me len G' := by
  have e0 : (fun k => (G k).n) = fun k => (G' k).n := funext fun k => (h k).1
  unfold plsB Plasc plA
  rw [e0]
  have e : ∀ k, plcB me (G k).n (G k).x (G k).y (G k).h (G k).e (G k).bl (G k).bf = plcB me (G' k).n (G' k).x (G' k).y (G' k).h (G' k).e (G' k).bl (G' k).bf := fun k => by
    obtain ⟨h1, h2, h3, h4, h5, h6, h7⟩ := h k
    rw [h1, h2, h3, h4, h5, h6, h7]
  simp only [e]
theorem oths_congr {G G' : Nat → Fg} (h : ∀ j, FgEq (G j) (G' j)) (me : Int) (len : Nat) : othsB me len G = othsB me len G' := by
  have e0 : (fun k => (G k).n) = fun k => (G' k).n := funext fun k => (h k).1
  unfold othsB Fgasc otA
  rw [e0]
  have e : ∀ k, othB me (G k).n (G k).bl (G k).bf = othB me (G' k).n (G' k).bl (G' k).bf := fun k => by
    obtain ⟨h1, h2, h3⟩ := h k
    rw [h1, h2, h3]
  simp only [e]
theorem nod_congr (me : Int) (up gone gate : Bool) (inc now sq turn : Int) (tl : Nat) (F : Nat → Fc) (cl : Nat) (GI : Nat → It) (pn ps pq : Int) (pa : Bool) (dl : Nat) (GD : Nat → Dt) (cx cy ch ce : Int) (pll : Nat) (GP : Nat → Pl) (ol : Nat) (GO : Nat → Fg) (GD' : Nat → Dt) (GP' : Nat → Pl) (GO' : Nat → Fg) (hD : ∀ j, DtEq (GD' j) (GD j)) (hP : ∀ j, PlEq (GP' j) (GP j)) (hO : ∀ j, FgEq (GO' j) (GO j)) : nodB me up gone gate inc now sq turn tl F cl GI pn ps pq pa dl GD' cx cy ch ce pll GP' ol GO' = nodB me up gone gate inc now sq turn tl F cl GI pn ps pq pa dl GD cx cy ch ce pll GP ol GO := by
  unfold nodB upB
  rw [dbs_congr hD, pls_congr hP, oths_congr hO]
end Go.Proofs.YtoimfgfhlbkdcaaGreatDoor
/- Lists out of functions. -/
namespace Go.Proofs.YtoimfgfhlbkdcaaGreatDoor
def seqF (F : Nat → Fc) (n : Nat) : List Fc := (List.range n).map F
theorem seqF_len (F : Nat → Fc) (n : Nat) : (seqF F n).length = n := by simp [seqF]
end Go.Proofs.YtoimfgfhlbkdcaaGreatDoor
/- A node as data, and where its lists lie. -/
namespace Go.Proofs.YtoimfgfhlbkdcaaGreatDoor
open Go.ChangeShapes Go.WideShapes Go.ChangeAt Go.RowKit
/-- a doubt as data -/
structure Dd where
  n : Int
  i : Int
  s : Int
  bs : List Int
def Dd.zero : Dd := ⟨0, 0, 0, []⟩
/-- a place as data -/
structure Pd where
  n : Int
  x : Int
  y : Int
  h : Int
  e : Int
  ts : List Int
def Pd.zero : Pd := ⟨0, 0, 0, 0, 0, []⟩
/-- what is known of another site, as data -/
structure Od where
  n : Int
  fs : List Fc
def Od.zero : Od := ⟨0, []⟩
/-- a node as data -/
structure Nod where
  me : Int
  up : Bool
  gone : Bool
  gate : Bool
  inc : Int
  now : Int
  sq : Int
  turn : Int
  T : List Fc
  C : List It
  pn : Int
  ps : Int
  pq : Int
  pa : Bool
  D : List Dd
  cx : Int
  cy : Int
  ch : Int
  ce : Int
  P : List Pd
  O : List Od
/-- where its lists lie -/
structure Loc where
  ta : Option Addr
  tc : Nat
  ca : Option Addr
  cc : Nat
  da : Option Addr
  dc : Nat
  dA : Nat → Option Addr
  dC : Nat → Nat
  pla : Option Addr
  plc : Nat
  pA : Nat → Option Addr
  pC : Nat → Nat
  oa : Option Addr
  oc : Nat
  oA : Nat → Option Addr
  oC : Nat → Nat
def Loc.none : Loc := ⟨.none, 0, .none, 0, .none, 0, fun _ => .none, fun _ => 0, .none, 0, fun _ => .none, fun _ => 0, .none, 0, fun _ => .none, fun _ => 0⟩
def tF (l : List Fc) (k : Nat) : Fc := l.getD k Fc.zero
def cF (l : List It) (k : Nat) : It := l.getD k It.zero
def iF (l : List Int) (k : Nat) : Int := l.getD k 0
def dF (l : List Dd) (a : Nat → Option Addr) (c : Nat → Nat) (k : Nat) : Dt := ⟨(l.getD k Dd.zero).n, (l.getD k Dd.zero).i, (l.getD k Dd.zero).s, a k, (l.getD k Dd.zero).bs.length, c k, iF (l.getD k Dd.zero).bs⟩
def pF (l : List Pd) (a : Nat → Option Addr) (c : Nat → Nat) (k : Nat) : Pl := ⟨(l.getD k Pd.zero).n, (l.getD k Pd.zero).x, (l.getD k Pd.zero).y, (l.getD k Pd.zero).h, (l.getD k Pd.zero).e, a k, (l.getD k Pd.zero).ts.length, c k, iF (l.getD k Pd.zero).ts⟩
def oF (l : List Od) (a : Nat → Option Addr) (c : Nat → Nat) (k : Nat) : Fg := ⟨(l.getD k Od.zero).n, a k, (l.getD k Od.zero).fs.length, c k, tF (l.getD k Od.zero).fs⟩
/-- a node's value -/
def ndV (n : Nod) (L : Loc) : Value := .agg #[.int .i64 n.me, .bool n.up, .bool n.gone, .bool n.gate, .int .i64 n.inc, .int .i64 n.now, .int .i64 n.sq, .int .i64 n.turn, .slice L.ta n.T.length L.tc, .slice L.ca n.C.length L.cc, .int .i64 n.pn, .int .i64 n.ps, .int .i64 n.pq, .bool n.pa, .slice L.da n.D.length L.dc, .int .i64 n.cx, .int .i64 n.cy, .int .i64 n.ch, .int .i64 n.ce, .slice L.pla n.P.length L.plc, .slice L.oa n.O.length L.oc]
/-- a node can be read -/
def NdR (w : World) (n : Nod) (L : Loc) : Prop := NdIn w L.ta n.T.length (tF n.T) L.ca n.C.length (cF n.C) L.da n.D.length (dF n.D L.dA L.dC) L.pla n.P.length (pF n.P L.pA L.pC) L.oa n.O.length (oF n.O L.oA L.oC)
theorem NdR.below {w w' : World} {n : Nod} {L : Loc} (h : NdR w n L) (k : Below w.heap.size w w') : NdR w' n L := NdIn.below h k
/-- a node is ok -/
def nodQ (n : Nod) : Bool := nodB n.me n.up n.gone n.gate n.inc n.now n.sq n.turn n.T.length (tF n.T) n.C.length (cF n.C) n.pn n.ps n.pq n.pa n.D.length (dF n.D (fun _ => none) fun _ => 0) n.cx n.cy n.ch n.ce n.P.length (pF n.P (fun _ => none) fun _ => 0) n.O.length (oF n.O (fun _ => none) fun _ => 0)
theorem dF_eq (l : List Dd) (a a' : Nat → Option Addr) (c c' : Nat → Nat) (j : Nat) : DtEq (dF l a c j) (dF l a' c' j) := ⟨rfl, rfl, rfl, rfl, rfl⟩
theorem pF_eq (l : List Pd) (a a' : Nat → Option Addr) (c c' : Nat → Nat) (j : Nat) : PlEq (pF l a c j) (pF l a' c' j) := ⟨rfl, rfl, rfl, rfl, rfl, rfl, rfl⟩
theorem oF_eq (l : List Od) (a a' : Nat → Option Addr) (c c' : Nat → Nat) (j : Nat) : FgEq (oF l a c j) (oF l a' c' j) := ⟨rfl, rfl, rfl⟩
theorem nodQ_at (n : Nod) (L : Loc) : nodB n.me n.up n.gone n.gate n.inc n.now n.sq n.turn n.T.length (tF n.T) n.C.length (cF n.C) n.pn n.ps n.pq n.pa n.D.length (dF n.D L.dA L.dC) n.cx n.cy n.ch n.ce n.P.length (pF n.P L.pA L.pC) n.O.length (oF n.O L.oA L.oC) = nodQ n :=
  nod_congr _ _ _ _ _ _ _ _ _ _ _ _ _ _ _ _ _ _ _ _ _ _ _ _ _ _ _ _ _ (fun _ => dF_eq _ _ _ _ _ _) (fun _ => pF_eq _ _ _ _ _ _) (fun _ => oF_eq _ _ _ _ _ _)
theorem okI_nod (n : Nod) (L : Loc) (w : World) (h : NdR w n L) : Calls Tryz.prog 54 #[ndV n L] w fun r w' => r = .returned (.bool (nodQ n)) ∧ Below w.heap.size w w' := by
  rw [← nodQ_at n L]
  exact nodeOk11_any _ _ _ _ _ _ _ _ _ _ _ _ _ _ _ _ _ _ _ _ _ _ _ _ _ _ _ _ _ _ _ _ _ _ _ _ w h
theorem okS_nod (n : Nod) (L : Loc) (w : World) (h : NdR w n L) : Calls Tryz.prog 42 #[ndV n L] w fun r w' => r = .returned (.bool (nodQ n)) ∧ Below w.heap.size w w' := by
  rw [← nodQ_at n L, nod_same]
  exact nodeOk9_any _ _ _ _ _ _ _ _ _ _ _ _ _ _ _ _ _ _ _ _ _ _ _ _ _ _ _ _ _ _ _ _ _ _ _ _ w h
theorem eqNod (n : Nod) (L L' : Loc) (w : World) (h : NdR w n L) (h' : NdR w n L') : Calls Tryz.prog 61 #[ndV n L, ndV n L'] w fun r w' => r = .returned (.bool true) ∧ Below w.heap.size w w' :=
  eqNode_same _ _ _ _ _ _ _ _ _ _ _ _ _ _ _ _ _ _ _ _ _ _ _ _ _ _ _ _ _ _ _ _ _ _ _ _ _ _ _ _ _ _ _ _ _ _ _ _ _ w h h' (fun _ => dF_eq _ _ _ _ _ _) (fun _ => pF_eq _ _ _ _ _ _) (fun _ => oF_eq _ _ _ _ _ _)
/-- a node out of functions -/
def dL (n : Nat) (G : Nat → Dt) : List Dd := (List.range n).map fun k => ⟨(G k).n, (G k).i, (G k).s, (List.range (G k).bl).map (G k).bf⟩
def pL (n : Nat) (G : Nat → Pl) : List Pd := (List.range n).map fun k => ⟨(G k).n, (G k).x, (G k).y, (G k).h, (G k).e, (List.range (G k).bl).map (G k).bf⟩
def oL (n : Nat) (G : Nat → Fg) : List Od := (List.range n).map fun k => ⟨(G k).n, seqF (G k).bf (G k).bl⟩
def cL (n : Nat) (G : Nat → It) : List It := (List.range n).map G
theorem tF_seq (F : Nat → Fc) (n k : Nat) (h : k < n) : tF (seqF F n) k = F k := by simp [tF, seqF, List.getD, h]
theorem cF_seq (F : Nat → It) (n k : Nat) (h : k < n) : cF (cL n F) k = F k := by simp [cF, cL, List.getD, h]
theorem iF_seq (f : Nat → Int) (n k : Nat) (h : k < n) : iF ((List.range n).map f) k = f k := by simp [iF, List.getD, h]
theorem dL_get (n : Nat) (G : Nat → Dt) (k : Nat) (h : k < n) : (dL n G).getD k Dd.zero = ⟨(G k).n, (G k).i, (G k).s, (List.range (G k).bl).map (G k).bf⟩ := by simp [dL, List.getD, h]
theorem pL_get (n : Nat) (G : Nat → Pl) (k : Nat) (h : k < n) : (pL n G).getD k Pd.zero = ⟨(G k).n, (G k).x, (G k).y, (G k).h, (G k).e, (List.range (G k).bl).map (G k).bf⟩ := by simp [pL, List.getD, h]
theorem oL_get (n : Nat) (G : Nat → Fg) (k : Nat) (h : k < n) : (oL n G).getD k Od.zero = ⟨(G k).n, seqF (G k).bf (G k).bl⟩ := by simp [oL, List.getD, h]
def nodOf (me : Int) (up gone gate : Bool) (inc now sq turn : Int) (tl : Nat) (F : Nat → Fc) (cl : Nat) (GI : Nat → It) (pn ps pq : Int) (pa : Bool) (dl : Nat) (GD : Nat → Dt) (cx cy ch ce : Int) (pll : Nat) (GP : Nat → Pl) (ol : Nat) (GO : Nat → Fg) : Nod := ⟨me, up, gone, gate, inc, now, sq, turn, seqF F tl, cL cl GI, pn, ps, pq, pa, dL dl GD, cx, cy, ch, ce, pL pll GP, oL ol GO⟩
def locOf (ta : Option Addr) (tc : Nat) (ca : Option Addr) (cc : Nat) (da : Option Addr) (dc : Nat) (GD : Nat → Dt) (pla : Option Addr) (plc : Nat) (GP : Nat → Pl) (oa : Option Addr) (oc : Nat) (GO : Nat → Fg) : Loc := ⟨ta, tc, ca, cc, da, dc, fun k => (GD k).ba, fun k => (GD k).bc, pla, plc, fun k => (GP k).ba, fun k => (GP k).bc, oa, oc, fun k => (GO k).ba, fun k => (GO k).bc⟩
theorem fslC {w : World} {a : Option Addr} {len : Nat} {F G : Nat → Fc} (h : FSl w a len F) (e : ∀ k, k < len → F k = G k) : FSl w a len G := fun hl => by
  obtain ⟨b, off, rfl, hb, hf⟩ := h hl
  exact ⟨b, off, rfl, hb, fun k hk => by rw [← e k hk]; exact hf k hk⟩
theorem islC {w : World} {a : Option Addr} {len : Nat} {F G : Nat → Int} (h : ISl w a len F) (e : ∀ k, k < len → F k = G k) : ISl w a len G := fun hl => by
  obtain ⟨b, off, rfl, hb, hf⟩ := h hl
  exact ⟨b, off, rfl, hb, fun k hk => by rw [← e k hk]; exact hf k hk⟩
theorem tslC {w : World} {a : Option Addr} {len : Nat} {F G : Nat → It} (h : TSl w a len F) (e : ∀ k, k < len → F k = G k) : TSl w a len G := fun hl => by
  obtain ⟨b, off, rfl, hb, hf⟩ := h hl
  exact ⟨b, off, rfl, hb, fun k hk => by rw [← e k hk]; exact hf k hk⟩
theorem dslC {w : World} {a : Option Addr} {len : Nat} {F G : Nat → Dt} (h : DtSl w a len F) (e : ∀ k, k < len → (F k).n = (G k).n ∧ (F k).i = (G k).i ∧ (F k).s = (G k).s ∧ (F k).ba = (G k).ba ∧ (F k).bl = (G k).bl ∧ (F k).bc = (G k).bc) : DtSl w a len G := fun hl => by
  obtain ⟨b, off, rfl, hb, hf⟩ := h hl
  refine ⟨b, off, rfl, hb, fun k hk => ?_⟩
  obtain ⟨e1, e2, e3, e4, e5, e6⟩ := e k hk
  rw [← e1, ← e2, ← e3, ← e4, ← e5, ← e6]
  exact hf k hk
theorem pslC {w : World} {a : Option Addr} {len : Nat} {F G : Nat → Pl} (h : PlSl w a len F) (e : ∀ k, k < len → (F k).n = (G k).n ∧ (F k).x = (G k).x ∧ (F k).y = (G k).y ∧ (F k).h = (G k).h ∧ (F k).e = (G k).e ∧ (F k).ba = (G k).ba ∧ (F k).bl = (G k).bl ∧ (F k).bc = (G k).bc) : PlSl w a len G := fun hl => by
  obtain ⟨b, off, rfl, hb, hf⟩ := h hl
  refine ⟨b, off, rfl, hb, fun k hk => ?_⟩
  obtain ⟨e1, e2, e3, e4, e5, e6, e7, e8⟩ := e k hk
  rw [← e1, ← e2, ← e3, ← e4, ← e5, ← e6, ← e7, ← e8]
  exact hf k hk
theorem oslC {w : World} {a : Option Addr} {len : Nat} {F G : Nat → Fg} (h : FgSl w a len F) (e : ∀ k, k < len → (F k).n = (G k).n ∧ (F k).ba = (G k).ba ∧ (F k).bl = (G k).bl ∧ (F k).bc = (G k).bc) : FgSl w a len G := fun hl => by
  obtain ⟨b, off, rfl, hb, hf⟩ := h hl
  refine ⟨b, off, rfl, hb, fun k hk => ?_⟩
  obtain ⟨e1, e2, e3, e4⟩ := e k hk
  rw [← e1, ← e2, ← e3, ← e4]
  exact hf k hk
/-- a node that can be read, by its functions, is one that can be read, by its lists -/
theorem canon {w : World} (me : Int) (up gone gate : Bool) (inc now sq turn : Int) (ta : Option Addr) (tl tc : Nat) (ca : Option Addr) (cl cc : Nat) (pn ps pq : Int) (pa : Bool) (da : Option Addr) (dl dc : Nat) (cx cy ch ce : Int) (pla : Option Addr) (pll plc : Nat) (oa : Option Addr) (ol oc : Nat) (F : Nat → Fc) (GI : Nat → It) (GD : Nat → Dt) (GP : Nat → Pl) (GO : Nat → Fg) (h : NdIn w ta tl F ca cl GI da dl GD pla pll GP oa ol GO) :
    NdR w (nodOf me up gone gate inc now sq turn tl F cl GI pn ps pq pa dl GD cx cy ch ce pll GP ol GO) (locOf ta tc ca cc da dc GD pla plc GP oa oc GO) := by
  have l1 : (seqF F tl).length = tl := seqF_len F tl
  have l2 : (cL cl GI).length = cl := by simp [cL]
  have l3 : (dL dl GD).length = dl := by simp [dL]
  have l4 : (pL pll GP).length = pll := by simp [pL]
  have l5 : (oL ol GO).length = ol := by simp [oL]
  unfold NdR nodOf locOf
  dsimp only
  rw [l1, l2, l3, l4, l5]
  refine ⟨fslC h.f fun k hk => (tF_seq F tl k hk).symm, tslC h.i fun k hk => (cF_seq GI cl k hk).symm, dslC h.d fun k hk => ?_, fun k hk => ?_, pslC h.p fun k hk => ?_, fun k hk => ?_, oslC h.o fun k hk => ?_, fun k hk => ?_, h.hf, h.hi, h.hd, h.hp, h.ho⟩
  · simp only [dF, dL_get dl GD k hk]; simp
  · obtain ⟨q1, q2⟩ := h.db k hk
    have e : (dF (dL dl GD) (fun k => (GD k).ba) (fun k => (GD k).bc) k).bl = (GD k).bl := by simp only [dF, dL_get dl GD k hk]; simp
    refine ⟨?_, by rw [e]; exact q2⟩
    rw [e]
    refine islC q1 fun j hj => ?_
    simp only [dF, dL_get dl GD k hk]
    exact (iF_seq _ _ _ hj).symm
  · simp only [pF, pL_get pll GP k hk]; simp
  · obtain ⟨q1, q2⟩ := h.pb k hk
    have e : (pF (pL pll GP) (fun k => (GP k).ba) (fun k => (GP k).bc) k).bl = (GP k).bl := by simp only [pF, pL_get pll GP k hk]; simp
    refine ⟨?_, by rw [e]; exact q2⟩
    rw [e]
    refine islC q1 fun j hj => ?_
    simp only [pF, pL_get pll GP k hk]
    exact (iF_seq _ _ _ hj).symm
  · simp only [oF, oL_get ol GO k hk]; simp [seqF_len]
  · obtain ⟨q1, q2⟩ := h.ob k hk
    have e : (oF (oL ol GO) (fun k => (GO k).ba) (fun k => (GO k).bc) k).bl = (GO k).bl := by simp only [oF, oL_get ol GO k hk]; simp [seqF_len]
    refine ⟨?_, by rw [e]; exact q2⟩
    rw [e]
    refine fslC q1 fun j hj => ?_
    simp only [oF, oL_get ol GO k hk]
    exact (tF_seq _ _ _ hj).symm
end Go.Proofs.YtoimfgfhlbkdcaaGreatDoor
