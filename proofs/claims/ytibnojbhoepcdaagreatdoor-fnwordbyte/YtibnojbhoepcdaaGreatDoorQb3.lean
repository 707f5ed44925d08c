/- Texts of the proof, laid together: Regof, List, Of, L3, L3b, Tput, Txt2, PStr, PMath, PNum, Laid, Laid2, Pick, Draw, Frame. -/
import Derived.Test.YtibnojbhoepcdaaGreatDoorQb2
import Derived.Laws.AppendOwn
import Derived.Lib.Split
import Derived.Lib.IndexBytes
import Derived.Lib.AtoiAll
import Derived.Lib.ItoaNum
import Derived.Lib.Join
import Derived.Lib.SlicesS
import Derived.Lib.AtoiErrMem
import Derived.Test.YtibnojbhoepcdaaGreatDoorRows
import Derived.WalkKit
import Derived.ProofKit
import Derived.OpenShut
import Derived.Lib.LaidTab
import Derived.Lay
import Derived.Stop.LaidErr
import Derived.Deep.DeepHandedRow
import Derived.Deep.DeepWitnessRowRef
import Derived.Test.YtibnojbhoepcdaaGreatDoorProg
import Derived.LoopTactic
import Derived.Deep.QuietTactic
import Derived.BigQuiet
import Derived.Laws.Bits64
import Derived.Below
import Derived.Test.YtibnojbhoepcdaaGreatDoorQb1
import Derived.WalkLawsBesides
import Derived.ShutString
import Derived.ChangeOld
/- Registers of lists, and what they tell: the program's tables. -/
namespace Go.Proofs.YtibnojbhoepcdaaGreatDoor
open Go.ChangeShapes Go.WideShapes Go.ChangeAt Go.RowKit
attribute [local go_sem ↓] Go.wp_at_zero Go.wp_at_succ
/-- a list of facts -/
def seqF (F : Nat → Fc) (n : Nat) : List Fc := (List.range n).map F
set_option maxRecDepth 20000 in
theorem seqF_succ (F : Nat → Fc) (n : Nat) : seqF F (n + 1) = seqF F n ++ [F n] := by simp [seqF, List.range_succ]
set_option maxRecDepth 20000 in
theorem seqF_len (F : Nat → Fc) (n : Nat) : (seqF F n).length = n := by simp [seqF]
set_option maxRecDepth 20000 in
theorem seqF_mem {F : Nat → Fc} {n : Nat} {f : Fc} (h : f ∈ seqF F n) : ∃ k, k < n ∧ F k = f := by
  obtain ⟨k, hk, rfl⟩ := List.mem_map.1 h
  exact ⟨k, by simpa using hk, rfl⟩
set_option maxRecDepth 20000 in
theorem asc_mono {F : Nat → Fc} {len : Nat} (h : ∀ k, k < len → 0 < k → (F (k - 1)).n < (F k).n) : ∀ j k, j < k → k < len → (F j).n < (F k).n
  | j, 0, h1, _ => by omega
  | j, k + 1, h1, h2 => by
    have e := h (k + 1) h2 (by omega)
    simp at e
    rcases Nat.lt_or_ge j k with h3 | h3
    · have := asc_mono h j k h3 (by omega); omega
    · obtain rfl : j = k := by omega
      exact e
set_option maxRecDepth 20000 in
theorem tok_all {len : Nat} {F : Nat → Fc} (h : tokB len F = true) : (∀ k, k < len → fok (F k) = true) ∧ ∀ j k, j < k → k < len → (F j).n < (F k).n := by
  unfold tokB at h
  rw [Bool.and_eq_true] at h
  exact ⟨fun k hk => (of_decide_eq_true h.1) k hk, asc_mono (of_decide_eq_true h.2)⟩
set_option maxRecDepth 20000 in
theorem seqF_asc {F : Nat → Fc} {len : Nat} (h : ∀ j k, j < k → k < len → (F j).n < (F k).n) : ∀ n, n ≤ len → Asc (seqF F n)
  | 0, _ => List.Pairwise.nil
  | n + 1, hn => by
    rw [seqF_succ]
    unfold Asc
    rw [List.pairwise_append]
    refine ⟨seqF_asc h n (by omega), List.pairwise_singleton _ _, fun a ha b hb => ?_⟩
    obtain ⟨k, hk, rfl⟩ := seqF_mem ha
    simp at hb
    subst hb
    exact h k n hk (by omega)
set_option maxRecDepth 20000 in
theorem tok_len {len : Nat} {F : Nat → Fc} (h : tokB len F = true) : len ≤ 8 := by
  obtain ⟨h1, h2⟩ := tok_all h
  rcases asc_short (seqF F len) 0 (seqF_asc h2 len (Nat.le_refl _)) (fun g hg => by obtain ⟨k, hk, rfl⟩ := seqF_mem hg; have := h1 k hk; unfold fok fokB inb at this; simp at this; omega) with h | h
  · rw [seqF_len] at h; omega
  · have := congrArg List.length h; rw [seqF_len] at this; simp at this; omega
/-- the facts as cells -/
def fl (T : List Fc) : List Value := T.flatMap fun f => [.int .i64 f.n, .int .i64 f.i, .int .i64 f.s, .bool f.g]
set_option maxRecDepth 20000 in
theorem fl_len (T : List Fc) : (fl T).length = T.length * 4 := by
  induction T with
  | nil => rfl
  | cons f r ih => simp [fl] at *; omega
set_option maxRecDepth 20000 in
theorem fl_snoc (T : List Fc) (f : Fc) : fl (T ++ [f]) = fl T ++ [.int .i64 f.n, .int .i64 f.i, .int .i64 f.s, .bool f.g] := by simp [fl]
set_option maxRecDepth 20000 in
theorem fl_append (T T' : List Fc) : fl (T ++ T') = fl T ++ fl T' := by simp [fl]
set_option maxRecDepth 20000 in
theorem fl_get (T : List Fc) : ∀ k, k < T.length → (fl T)[k * 4]? = some (.int .i64 (T.getD k Fc.zero).n) ∧ (fl T)[k * 4 + 1]? = some (.int .i64 (T.getD k Fc.zero).i) ∧ (fl T)[k * 4 + 2]? = some (.int .i64 (T.getD k Fc.zero).s) ∧ (fl T)[k * 4 + 3]? = some (.bool (T.getD k Fc.zero).g) := by
  induction T with
  | nil => intro k hk; simp at hk
  | cons f r ih =>
    intro k hk
    have e : fl (f :: r) = [.int .i64 f.n, .int .i64 f.i, .int .i64 f.s, .bool f.g] ++ fl r := by simp [fl]
    rw [e]
    match k, hk with
    | 0, _ => simp
    | k + 1, hk =>
      have := ih k (by simpa using hk)
      rw [show (k + 1) * 4 = k * 4 + 4 by omega]
      simpa [List.getElem?_append] using this
set_option maxRecDepth 20000 in
/-- a list of its own, as the laws read it -/
theorem own_facts {w : World} {base : Nat} {v : Value} {n : Nat} {T : List Fc} (h : w.ownsRow base 53 4 v n (fl T)) : ∃ a cap, v = .slice a n cap ∧ n ≤ cap ∧ T.length = n ∧ FSl w a n (fun k => T.getD k Fc.zero) := by
  have h0 := h
  have hl : T.length = n := by have := h.1; rw [fl_len] at this; omega
  rcases h.2 with ⟨rfl, rfl⟩ | ⟨g, cap, cur, rfl, hg, hh, hc, _⟩
  · exact ⟨none, 0, rfl, Nat.le_refl _, hl, fun h => by omega⟩
  · refine ⟨_, cap, rfl, hc, hl, fun _ => ⟨g, 0, rfl, lt_of_block hh, fun k hk => ?_⟩⟩
    obtain ⟨e0, e1, e2, e3⟩ := fl_get T k (by omega)
    simp only [Nat.zero_add]
    exact ⟨(h0.cellAt _ (by omega)).trans e0, (h0.cellAt _ (by omega)).trans e1, (h0.cellAt _ (by omega)).trans e2, (h0.cellAt _ (by omega)).trans e3⟩
end Go.Proofs.YtibnojbhoepcdaaGreatDoor
/- What a register tells; the program's TableOf, TablePut, TableJoin. -/
namespace Go.Proofs.YtibnojbhoepcdaaGreatDoor
open Go.ChangeShapes Go.WideShapes Go.ChangeAt Go.RowKit
attribute [local go_sem ↓] Go.wp_at_zero Go.wp_at_succ
end Go.Proofs.YtibnojbhoepcdaaGreatDoor
/- What a table says of a node: the program's way and the model's; the exact law. -/
namespace Go.Proofs.YtibnojbhoepcdaaGreatDoor
open Go.ChangeShapes Go.WideShapes Go.ChangeAt Go.RowKit
attribute [local go_sem ↓] Go.wp_at_zero Go.wp_at_succ
/-- what a table says of a node -/
def tof (len : Nat) (F : Nat → Fc) (x : Int) : Option Fc := if tokB len F = true then tget (seqF F len) x else none
set_option maxRecDepth 20000 in
theorem blk_below {w w' : World} {b : Nat} {o : Obj} (hb : Below w.heap.size w w') (h : w.heap[b]? = some o) : w'.heap[b]? = some o := (hb.block b (lt_of_block h)).trans h
set_option maxRecDepth 20000 in
theorem set4 {w w' : World} {x y z e : Value} (h : Below w.heap.size w w') :
    Below w.heap.size w ((((w'.setCell ⟨w.heap.size, 0, none⟩ x).setCell ⟨w.heap.size, 1, none⟩ y).setCell ⟨w.heap.size, 2, none⟩ z).setCell ⟨w.heap.size, 3, none⟩ e) :=
  (((h.setCell (p := ⟨w.heap.size, 0, none⟩) (Nat.le_refl _) x).setCell (p := ⟨w.heap.size, 1, none⟩) (Nat.le_refl _) y).setCell (p := ⟨w.heap.size, 2, none⟩) (Nat.le_refl _) z).setCell (p := ⟨w.heap.size, 3, none⟩) (Nat.le_refl _) e
/-- where the first fact of a node lies -/
def Found (len : Nat) (F : Nat → Fc) (x r : Int) : Prop := (r = -1 ∧ ∀ k, k < len → (F k).n ≠ x) ∨ ∃ k : Nat, k < len ∧ r = k ∧ (F k).n = x ∧ ∀ j, j < k → (F j).n ≠ x
set_option maxRecDepth 20000 in
theorem found_none {len : Nat} {F : Nat → Fc} {x : Int} (h : ∀ k, k < len → (F k).n ≠ x) : tget (seqF F len) x = none := by
  unfold tget
  rw [List.find?_eq_none]
  intro g hg
  obtain ⟨k, hk, rfl⟩ := seqF_mem hg
  simpa using h k hk
set_option maxRecDepth 20000 in
theorem found_some {len k : Nat} {F : Nat → Fc} {x : Int} (hk : k < len) (e : (F k).n = x) (h : ∀ j, j < k → (F j).n ≠ x) : tget (seqF F len) x = some (F k) := by
  induction len with
  | zero => omega
  | succ n ih =>
    rw [seqF_succ]
    unfold tget
    rw [List.find?_append]
    rcases Nat.lt_or_ge k n with h1 | h1
    · have := ih h1
      unfold tget at this
      rw [this]
      rfl
    · obtain rfl : k = n := by omega
      have := found_none h
      unfold tget at this
      rw [this]
      simp [e]
end Go.Proofs.YtibnojbhoepcdaaGreatDoor
/- A fact more, the model's way: one of a node that was not known. -/
namespace Go.Proofs.YtibnojbhoepcdaaGreatDoor
open Go.ChangeShapes Go.WideShapes Go.ChangeAt Go.RowKit
attribute [local go_sem ↓] Go.wp_at_zero Go.wp_at_succ
set_option maxRecDepth 20000 in
theorem facts_cell {w : World} {b off n : Nat} {T : List Fc} (h : FactsIn w b off n (fun k => T.getD k Fc.zero)) (hl : T.length = n) : ∀ j u, (fl T)[j]? = some u → w.cell? ((⟨b, off, none⟩ : Addr).add j) = some u := by
  intro j u hj
  have e : (⟨b, off, none⟩ : Addr).add j = ⟨b, off + j, none⟩ := by unfold Addr.add; split <;> simp_all
  rw [e]
  have hlt : j < n * 4 := by
    have := (List.getElem?_eq_some_iff.1 hj).1
    rw [fl_len] at this
    omega
  obtain ⟨h0, h1, h2, h3⟩ := h (j / 4) (by omega)
  obtain ⟨e0, e1, e2, e3⟩ := fl_get T (j / 4) (by omega)
  have : j % 4 = 0 ∨ j % 4 = 1 ∨ j % 4 = 2 ∨ j % 4 = 3 := by omega
  rcases this with hr | hr | hr | hr
  · rw [show j / 4 * 4 = j by omega] at e0 h0
    rw [e0] at hj
    rw [h0, ← hj]
  · rw [show off + j / 4 * 4 + 1 = off + j by omega] at h1
    rw [show j / 4 * 4 + 1 = j by omega] at e1
    rw [e1] at hj
    rw [h1, ← hj]
  · rw [show off + j / 4 * 4 + 2 = off + j by omega] at h2
    rw [show j / 4 * 4 + 2 = j by omega] at e2
    rw [e2] at hj
    rw [h2, ← hj]
  · rw [show off + j / 4 * 4 + 3 = off + j by omega] at h3
    rw [show j / 4 * 4 + 3 = j by omega] at e3
    rw [e3] at hj
    rw [h3, ← hj]
set_option maxRecDepth 20000 in
theorem fl_one {T : List Fc} : ∀ u ∈ fl T, u.oneCell' = true := by
  intro u hu
  obtain ⟨f, _, hf⟩ := List.mem_flatMap.1 hu
  simp at hf
  rcases hf with rfl | rfl | rfl | rfl <;> rfl
set_option maxRecDepth 20000 in
theorem own_sliceF {w : World} {base n : Nat} {v : Value} {xs : List Value} (h : w.ownsRow base 53 4 v n xs) : (v = .slice none 0 0 ∧ n = 0) ∨ ∃ g cap, v = .slice (some ⟨g, 0, none⟩) n cap ∧ base ≤ g ∧ g < w.heap.size ∧ n ≤ cap := by
  rcases h.2 with ⟨rfl, hn⟩ | ⟨g, cap, cur, rfl, hg, hh, hc, _⟩
  · exact .inl ⟨rfl, hn⟩
  · exact .inr ⟨g, cap, rfl, hg, lt_of_block hh, hc⟩
set_option maxRecDepth 20000 in
theorem step_appF {w : World} {ops : Array Oper} {o : Oper} {a : Act} {K : Act → World → Prop} {Q : Exit → Act → World → Prop} {E : Prop} (hgd : o.guard = none) (s x : Operand)
    (ho : o.op = .call { callee := .builtin .append, args := #[s, x], argTypes := #[24, 24] })
    (base : Nat) (v : Value) (n : Nat) (T : List Fc) (hs : a.eval s = v) (hv : v ≠ .slice none 0 0) (hown : w.ownsRow base 53 4 v n (fl T))
    (ao : Option Addr) (g o' : Nat) (hao : ao = some ⟨g, o', none⟩) (m c : Nat) (T' : List Fc) (hx : a.eval x = .slice ao m c) (hl : T'.length = m)
    (hnews : FactsIn w g o' m (fun k => T'.getD k Fc.zero)) (nm : Nat) (hnm : n + m = nm) (hn : nm ≤ 2000000) (hbase : base ≤ w.heap.size)
    (h : ∀ g' cap' w', w'.ownsRow base 53 4 (.slice (some ⟨g', 0, none⟩) nm cap') nm (fl (T ++ T')) → w.grownBy w' v.ownBlock → nm ≤ cap' → K (a.put o.dst (.slice (some ⟨g', 0, none⟩) nm cap')) w') :
    if Region.wanted o (yielded ops a.tmps) = true then Oper.wp Tryz.prog o a w K Q else E := by
  have hw : Region.wanted o (yielded ops a.tmps) = true := by simp [Region.wanted, hgd]
  rw [if_pos hw]
  subst hao hnm
  obtain ⟨ti, hi, hz0, hz1, hz2⟩ := info_parts info24
  refine wp_append_own w s x 24 ho base 53 ti (fval Fc.zero) 4 32 Tryz.underlying24 hi hz0 hz1 hz2 rfl (by decide) v n (fl T) hs hown ⟨g, o', none⟩ m c (fl T') hx (by rw [fl_len, hl]) (facts_cell hnews hl) fl_one (by unfold maxLen; omega) (by omega) hbase (fun v' w' h1 h2 h3 => ?_)
  rw [← fl_append] at h1
  rcases own_sliceF h1 with ⟨e, _⟩ | ⟨g', cap', rfl, _, _, hc⟩
  · exact absurd (h3.1 e).1 hv
  · exact h g' cap' w' h1 h2 hc
set_option maxRecDepth 20000 in
theorem QB1 {a w : World} {B : Nat} (h : Below B a w) : Below B a w.drew := ⟨h.os, h.tape, h.output, h.size, h.block⟩
set_option maxRecDepth 20000 in
theorem facts_take {w : World} {b off len k : Nat} {F : Nat → Fc} (h : FactsIn w b off len F) (hk : k ≤ len) : FactsIn w b off k (fun j => ((seqF F len).take k).getD j Fc.zero) := fun j hj => by
  have e : ((seqF F len).take k).getD j Fc.zero = F j := by simp [List.getD, hj, seqF, show j < len by omega]
  simp only [e]
  exact h j (by omega)
set_option maxRecDepth 20000 in
theorem facts_drop {w : World} {b off len k : Nat} {F : Nat → Fc} (h : FactsIn w b off len F) (hk : k ≤ len) : FactsIn w b (off + k * 4) (len - k) (fun j => ((seqF F len).drop k).getD j Fc.zero) := fun j hj => by
  have e : ((seqF F len).drop k).getD j Fc.zero = F (k + j) := by simp [List.getD, List.getElem?_drop, seqF, show k + j < len by omega]
  simp only [e]
  have := h (k + j) (by omega)
  rw [show off + k * 4 + j * 4 = off + (k + j) * 4 by omega]
  exact this
set_option maxRecDepth 20000 in
theorem FactsIn.grown {w w' : World} {r : Option Nat} {b off len : Nat} {F : Nat → Fc} (h : FactsIn w b off len F) (hg : w.grownBy w' r) (hb : some b ≠ r) : FactsIn w' b off len F := fun k hk => by
  obtain ⟨h0, h1, h2, h3⟩ := h k hk
  exact ⟨hg.cell h0 hb, hg.cell h1 hb, hg.cell h2 hb, hg.cell h3 hb⟩
set_option maxRecDepth 20000 in
theorem tput_at {T : List Fc} {f : Fc} : ∀ (k : Nat), k ≤ T.length → (∀ j, j < k → (T.getD j Fc.zero).n < f.n) → (k < T.length → f.n < (T.getD k Fc.zero).n) → tput T f = T.take k ++ [f] ++ T.drop k := by
  induction T with
  | nil => intro k hk _ _; obtain rfl : k = 0 := by simpa using hk
           rfl
  | cons g r ih =>
    intro k hk h1 h2
    match k, hk, h1, h2 with
    | 0, _, _, h2 =>
      have := h2 (by simp)
      simp at this
      unfold tput
      rw [if_neg (by omega), if_neg (by omega)]
      rfl
    | k + 1, hk, h1, h2 =>
      have := h1 0 (by omega)
      simp at this
      unfold tput
      rw [if_pos this, ih k (by simpa using hk) (fun j hj => by have := h1 (j + 1) (by omega); simpa using this) (fun h => by have := h2 (by simpa using h); simpa using this)]
      rfl
set_option maxRecDepth 20000 in
theorem new_one (V : World) (f : Fc) : FactsIn (V.alloc (.cells #[.int .i64 f.n, .int .i64 f.i, .int .i64 f.s, .bool f.g] 53)) V.heap.size 0 1 (fun j => [f].getD j Fc.zero) := fun j hj => by
  obtain rfl : j = 0 := by omega
  exact ⟨by simp [go_sem], by simp [go_sem], by simp [go_sem], by simp [go_sem]⟩
set_option maxRecDepth 20000 in
theorem facts_lt {w : World} {b off n : Nat} {F : Nat → Fc} (h : FactsIn w b off (n + 1) F) : b < w.heap.size := World.block_lt_of_cell? w _ (h 0 (by omega)).1
set_option maxRecDepth 20000 in
theorem FactsIn.alloc {w : World} {b off len : Nat} {F : Nat → Fc} (h : FactsIn w b off len F) (o : Obj) : FactsIn (w.alloc o) b off len F := fun k hk => by
  obtain ⟨h0, h1, h2, h3⟩ := h k hk
  exact ⟨keep_alloc o h0, keep_alloc o h1, keep_alloc o h2, keep_alloc o h3⟩
set_option maxRecDepth 20000 in
theorem seqF_getD (F : Nat → Fc) {len k : Nat} (h : k < len) : (seqF F len).getD k Fc.zero = F k := by simp [List.getD, seqF, h]
end Go.Proofs.YtibnojbhoepcdaaGreatDoor
/- A fact more, the model's way. -/
namespace Go.Proofs.YtibnojbhoepcdaaGreatDoor
open Go.ChangeShapes Go.WideShapes Go.ChangeAt Go.RowKit
attribute [local go_sem ↓] Go.wp_at_zero Go.wp_at_succ
set_option maxRecDepth 20000 in
theorem fl_set (T : List Fc) : ∀ (j : Nat) (f : Fc), j < T.length → fl (T.set j f) = ((((fl T).set (j * 4) (.int .i64 f.n)).set (j * 4 + 1) (.int .i64 f.i)).set (j * 4 + 2) (.int .i64 f.s)).set (j * 4 + 3) (.bool f.g) := by
  induction T with
  | nil => intro j f h; simp at h
  | cons g r ih =>
    intro j f h
    have e : ∀ (g : Fc) (r : List Fc), fl (g :: r) = .int .i64 g.n :: .int .i64 g.i :: .int .i64 g.s :: .bool g.g :: fl r := fun g r => by simp [fl]
    match j, h with
    | 0, _ => rw [List.set_cons_zero, e, e]; rfl
    | j + 1, h =>
      rw [List.set_cons_succ, e, e, ih j f (by simpa using h), show (j + 1) * 4 = j * 4 + 4 by omega]
      rfl
set_option maxRecDepth 20000 in
theorem tput_set : ∀ (T : List Fc) (j : Nat) (f : Fc), Asc T → j < T.length → (T.getD j Fc.zero).n = f.n → ovr f (T.getD j Fc.zero) = true → tput T f = T.set j f
  | [], j, f, _, h, _, _ => by simp at h
  | g :: r, 0, f, _, _, h1, h2 => by
    simp at h1 h2
    unfold tput
    rw [if_neg (by omega), if_pos h1, if_pos h2]
    rfl
  | g :: r, j + 1, f, hA, h, h1, h2 => by
    obtain ⟨a1, a2⟩ := asc_cons.1 hA
    have hj : j < r.length := by simpa using h
    have e : (g :: r).getD (j + 1) Fc.zero = r.getD j Fc.zero := by simp
    rw [e] at h1 h2
    have := a1 (r.getD j Fc.zero) (by simp [List.getD, hj])
    unfold tput
    rw [if_pos (by omega), tput_set r j f a2 hj h1 h2]
    rfl
end Go.Proofs.YtibnojbhoepcdaaGreatDoor
/- A table with a fact more: the program's way and the model's. -/
namespace Go.Proofs.YtibnojbhoepcdaaGreatDoor
open Go.ChangeShapes Go.WideShapes Go.ChangeAt Go.RowKit
attribute [local go_sem ↓] Go.wp_at_zero Go.wp_at_succ
set_option maxRecDepth 20000 in
theorem seqF_getD_self (T : List Fc) : seqF (fun k => T.getD k Fc.zero) T.length = T := by
  apply List.ext_getElem
  · simp [seqF]
  · intro i h1 h2
    simp [seqF, List.getD, h2]
set_option maxRecDepth 20000 in
theorem getD_asc {T : List Fc} (h : Asc T) : ∀ j k, j < k → k < T.length → (T.getD j Fc.zero).n < (T.getD k Fc.zero).n := fun j k hj hk => by
  have := List.pairwise_iff_getElem.1 h j k (by omega) hk hj
  simpa [List.getD, hk, show j < T.length by omega] using this
def tpT (len : Nat) (F : Nat → Fc) (f : Fc) : List Fc := if (tokB len F && fok f) = true then tput (seqF F len) f else []
def tpQ (len : Nat) (F : Nat → Fc) (f : Fc) : Bool := (tokB len F && fok f) && tnew (seqF F len) f
set_option maxRecDepth 20000 in
theorem own_emptyF (w : World) (base : Nat) (h : base ≤ w.heap.size) : (w.alloc (.cells #[] 53)).ownsRow base 53 4 (.slice (some ⟨w.heap.size, 0, none⟩) 0 0) 0 (fl []) := World.ownsRow_lit w #[] 0 h (by unfold maxLen; omega) rfl
end Go.Proofs.YtibnojbhoepcdaaGreatDoor
/- How tables are written: the program's way and the model's. -/
namespace Go.Proofs.YtibnojbhoepcdaaGreatDoor
open Go.ChangeShapes Go.WideShapes Go.ChangeAt Go.RowKit
attribute [local go_sem ↓] Go.wp_at_zero Go.wp_at_succ
theorem dec_lit (n : Int) (x : ByteArray) (h0 : 0 ≤ n) (h1 : n ≤ 999) (hx : bs (Lib.itoa n) = x) (w : World) :
    Calls Tryz.prog 81 #[.int .i64 n] w fun e w' => e = .returned (.string x) ∧ Below w.heap.size w w' := by
  have := dec_any (n.toNat + 1) n.toNat (by omega) (by omega) w
  have e1 : ((n.toNat : Nat) : Int) = n := by omega
  rw [e1] at this
  have e2 : Lib.itoa n = Lib.decDigits n.toNat := by unfold Lib.itoa; rw [if_neg (by omega)]
  rw [← hx, e2]
  exact this
theorem sword_any (s : Int) (h1 : 1 ≤ s) (h4 : s ≤ 4) (w : World) :
    Calls Tryz.prog 82 #[.int .i64 s] w fun e w' => e = .returned (.string (bs (wordL s))) ∧ Below w.heap.size w w' := by
  have hs : s = 1 ∨ s = 2 ∨ s = 3 ∨ s = 4 := by omega
  clear h1 h4
  rcases hs with rfl | rfl | rfl | rfl
  all_goals
    go_enter Tryz.func82, Tryz.ntmps82
    go_wp2
    go_ret
    exact ⟨rfl, balloc _ (Below.refl _ _)⟩
theorem sword_lit (s : Int) (x : ByteArray) (h1 : 1 ≤ s) (h4 : s ≤ 4) (hx : bs (wordL s) = x) (w : World) :
    Calls Tryz.prog 82 #[.int .i64 s] w fun e w' => e = .returned (.string x) ∧ Below w.heap.size w w' := hx ▸ sword_any s h1 h4 w
/-- a table's text -/
def ttx (T : List Fc) : List UInt8 := Lib.join (T.map ftx) [44]
theorem ttx_nil : ttx [] = [] := rfl
theorem join_snoc (sep : List UInt8) (x : List UInt8) : ∀ (r : List (List UInt8)), r ≠ [] → Lib.join (r ++ [x]) sep = Lib.join r sep ++ sep ++ x
  | [], h => absurd rfl h
  | y :: r, _ => by
    rw [List.cons_append, Lib.join_cons, Lib.join_cons]
    simp [Lib.joinTail]
theorem ttx_snoc (T : List Fc) (f : Fc) : ttx (T ++ [f]) = ttx T ++ (if T = [] then [] else [44]) ++ ftx f := by
  unfold ttx
  cases T with
  | nil => simp [Lib.join_one, Lib.join_nil]
  | cons g r =>
    rw [List.map_append, show List.map ftx [f] = [ftx f] from rfl, join_snoc _ _ _ (by simp), if_neg (by simp)]
theorem ftx_len {f : Fc} (h : fok f = true) : (ftx f).length ≤ 16 := by
  obtain ⟨n0, n7, i0, i9, _, _⟩ := fok_all h
  have a1 := itoa_len n0 (by omega : f.n ≤ 999)
  have a2 := itoa_len i0 i9
  have a3 := word_len f.s
  simp only [ByteArray.size, List.size_toArray] at a1 a2 a3
  unfold ftx
  simp only [List.length_append, List.length_cons, List.length_nil]
  split <;> simp <;> omega
theorem ttx_len (F : Nat → Fc) : ∀ k, (∀ j, j < k → fok (F j) = true) → (ttx (seqF F k)).length ≤ 17 * k
  | 0, _ => by simp [seqF, ttx_nil]
  | k + 1, h => by
    rw [seqF_succ, ttx_snoc]
    have h1 := ttx_len F k (fun j hj => h j (by omega))
    have h2 := ftx_len (h k (by omega))
    simp only [List.length_append]
    split <;> simp <;> omega
theorem info9 : (Tryz.prog.info? 9).map (fun i => (i.zero, i.size, i.bytes)) = some (some (.string ByteArray.empty), 1, 16) := by kernel_rfl
/-- the texts of facts, in memory -/
def sl (T : List Fc) : List Value := T.map fun f => .string (bs (ftx f))
/-- what TableText writes -/
def txt (len : Nat) (F : Nat → Fc) : ByteArray := if tokB len F = true then (if len = 0 then bs [45] else bs (ttx (seqF F len))) else bs []
theorem ftext_lit (f : Fc) (x : ByteArray) (hf : fok f = true) (hx : bs (ftx f) = x) (w : World) (ht : Tabs w) :
    Calls Tryz.prog 37 #[.agg #[.int .i64 f.n, .int .i64 f.i, .int .i64 f.s, .bool f.g]] w fun e w' => e = .returned (.string x) ∧ Below w.heap.size w w' := hx ▸ ftext_any f hf w ht
theorem tok_litt (a : Option Addr) (len cap : Nat) (F : Nat → Fc) (q : Bool) (w : World) (h : FSl w a len F) (hl : len ≤ 1048576) (hq : tokB len F = q) :
    Calls Tryz.prog 35 #[.slice a len cap] w fun e w' => e = .returned (.bool q) ∧ Below w.heap.size w w' := hq ▸ tok_any a len cap F w h hl
theorem stok_litt (a : Option Addr) (len cap : Nat) (F : Nat → Fc) (q : Bool) (w : World) (h : FSl w a len F) (hl : len ≤ 1048576) (hq : tokB len F = q) :
    Calls Tryz.prog 15 #[.slice a len cap] w fun e w' => e = .returned (.bool q) ∧ Below w.heap.size w w' := hq ▸ stok_any a len cap F w h hl
theorem own_str {w : World} {base n : Nat} {v : Value} {xs : List Value} (h : w.ownsRow base 9 1 v n xs) : (v = .slice none 0 0 ∧ n = 0) ∨ ∃ g cap, v = .slice (some ⟨g, 0, none⟩) n cap ∧ base ≤ g ∧ g < w.heap.size ∧ n ≤ cap := by
  rcases h.2 with ⟨rfl, rfl⟩ | ⟨g, cap, cur, rfl, hg, hh, hc, _⟩
  · exact .inl ⟨rfl, rfl⟩
  · exact .inr ⟨g, cap, rfl, hg, (Array.getElem?_eq_some_iff.1 hh).1, hc⟩
set_option maxRecDepth 20000 in
set_option maxHeartbeats 4000000 in
theorem text_any (a : Option Addr) (len cap : Nat) (F : Nat → Fc) (w : World) (h : FSl w a len F) (hl : len ≤ 1048576) (ht : Tabs w) :
    Calls Tryz.prog 12 #[.slice a len cap] w fun e w' => e = .returned (.string (txt len F)) ∧ Below w.heap.size w w' := by
  cases hok0 : tokB len F
  · have hok : Hid (tokB len F = false) := hok0
    have e1 : txt len F = bs [] := by unfold txt; rw [hok0]; rfl
    rw [e1]
    clear hok0 e1
    go_enter Tryz.func12, Tryz.ntmps12
    go_wp2_with fail
    refine (tok_litt a len cap F false _ h hl hok.out).mono ?_
    rintro r w1 ⟨rfl, b1⟩
    go_wp2
    go_ret
    exact ⟨rfl, b1⟩
  · have hok : Hid (tokB len F = true) := hok0
    by_cases h0 : len = 0
    · have e1 : txt len F = bs [45] := by unfold txt; rw [hok0, if_pos rfl, if_pos h0]
      rw [e1]
      subst h0
      clear hok0 e1
      go_enter Tryz.func12, Tryz.ntmps12
      go_wp2_with fail
      refine (tok_litt a 0 cap F true _ h hl hok.out).mono ?_
      rintro r w1 ⟨rfl, b1⟩
      go_wp2
      go_ret
      exact ⟨rfl, b1⟩
    · have e1 : txt len F = bs (ttx (seqF F len)) := by unfold txt; rw [hok0, if_pos rfl, if_neg h0]
      obtain ⟨t1, _⟩ := tok_all hok0
      have hm8 := tok_len hok0
      have hj : ¬ (len : Int) = 0 := by omega
      have hjb : ((len : Int) == 0) = false := by simpa using hj
      have hlen := ttx_len F len t1
      rw [e1]
      clear hok0 e1
      obtain ⟨ti, hi, hz0, hz1, hz2⟩ := info_parts info9
      go_enter Tryz.func12, Tryz.ntmps12
      go_wp2_with fail
      refine (tok_litt a len cap F true _ h hl hok.out).mono ?_
      rintro r w1 ⟨rfl, B1⟩
      go_wp2_with fail
      go_loopw [3, 14] (fun v i wr => ∃ k : Nat, i = .int .i64 k ∧ k ≤ len ∧ wr.ownsRow w.heap.size 9 1 v k (sl (seqF F k)) ∧ Below w.heap.size w wr) (fun _ i _ => len - (intOf i).toNat)
      case atStart => exact ⟨0, rfl, Nat.zero_le _, World.ownsRow_nil _ _ _ _, B1⟩
      case round =>
        obtain ⟨k, rfl, hk, hown, hb⟩ := hrel
        by_cases hlt : k < len
        · have i0 : (0 : Int) ≤ (k : Int) := by omega
          have i1 : (k : Int) < (len : Int) := by omega
          obtain ⟨b, off, rfl, hbl, hfi⟩ := h (by omega)
          obtain ⟨c0, c1, c2, c3⟩ := (hfi.below hb hbl) k hlt
          have hfk := t1 k hlt
          have hs : Hid (sl (seqF F (k + 1)) = sl (seqF F k) ++ [.string (bs (ftx (F k)))]) := by unfold Hid sl; rw [seqF_succ, List.map_append]; rfl
          generalize F k = f at *
          obtain ⟨x, hx⟩ : ∃ x, Hid (bs (ftx f) = x) := ⟨_, rfl⟩
          rw [hx.out] at hs
          have b2 : Below wr.heap.size wr (wr.alloc (.cells #[.int .i64 f.n, .int .i64 f.i, .int .i64 f.s, .bool f.g] 53)) := balloc _ (Below.refl _ _)
          go_wp2_with fail
          have B2 := btrans hb b2
          have O2 := own_below hown b2
          clear c0 c1 c2 c3 b2 hown hb
          generalize (wr.alloc (.cells #[.int .i64 f.n, .int .i64 f.i, .int .i64 f.s, .bool f.g] 53)) = w2 at *
          refine (ftext_lit f x hfk hx.out _ (ht.below B2)).mono ?_
          rintro r w3 ⟨rfl, b3⟩
          have B3 := btrans B2 b3
          have O3 := own_below O2 b3
          clear b3 B2 O2
          go_wp2_with (at_builtin; refine wpList_append_own _ rfl _ _ 48 rfl w.heap.size 9 ti (.string ByteArray.empty) 1 16 Tryz.underlying48 hi hz0 hz1 hz2 rfl (by decide) _ _ _ rfl (O3.alloc _) ⟨w3.heap.size, 0, none⟩ 1 1 [.string x] rfl rfl ?c1 ?c2 ?c3 ?c4 ?c5 ?_)
          case c1 =>
            intro j u hj
            match j, hj with
            | 0, hj => simp at hj; subst hj; simp [Addr.add]
          case c2 => intro u hu; simp at hu; subst hu; rfl
          case c3 => unfold maxLen; omega
          case c4 => omega
          case c5 => have := B3.size; simp; omega
          · intro v' w4 hown' hgrow _
            have B4 := own_grow (balloc (.cells #[.string x] 9) B3) (by have := B3.size; simp; omega) (O3.alloc _) hgrow
            clear O3 hgrow B3
            go_wp2
            go_roundw
            case rel => exact ⟨k + 1, by go_num, by omega, by rw [hs.out]; exact hown', B4⟩
            case measure => simp [intOf]; omega
        · obtain rfl : k = len := by omega
          rcases own_str hown with ⟨_, e0⟩ | ⟨g, cc, rfl, hg1, hg2, hg3⟩
          · exact absurd e0 h0
          have hJ := Tryz.strings_Join g 0 cc ((seqF F k).map fun f => bs (ftx f)) (bs [44]) wr (fun j x hx => by
            have := hown.cells (g := g) rfl j (.string x) (by
              unfold sl
              simp only [List.getElem?_map, Option.map_eq_some_iff] at hx ⊢
              obtain ⟨f, hf, rfl⟩ := hx
              exact ⟨f, hf, rfl⟩)
            cases j <;> simpa [Addr.add] using this) hg2 (by simp [seqF]; omega) (by simp [seqF]; omega) (by
              have e1 : (((seqF F k).map fun f => bs (ftx f)).map (·.data.toList)) = (seqF F k).map ftx := by simp [List.map_map, Function.comp_def]
              rw [e1]
              have : (ttx (seqF F k)).length ≤ 17 * k := hlen
              unfold ttx at this
              show (Lib.join (List.map ftx (seqF F k)) [44]).length ≤ _
              omega)
          have e1 : (((seqF F k).map fun f => bs (ftx f)).map (·.data.toList)) = (seqF F k).map ftx := by simp [List.map_map, Function.comp_def]
          have e2 : ((seqF F k).map fun f => bs (ftx f)).length = k := by simp [seqF]
          rw [e1, e2] at hJ
          have hJ' : Calls Tryz.prog 38 #[.slice (some ⟨g, 0, none⟩) k cc, .string (bs [44])] wr fun e w' => e = .returned (.string (bs (ttx (seqF F k)))) ∧ Below wr.heap.size wr w' := hJ
          obtain ⟨y, hy⟩ : ∃ y, Hid (bs (ttx (seqF F k)) = y) := ⟨_, rfl⟩
          rw [hy.out] at hJ'
          clear hJ e1 e2 hown
          go_wp2_with fail
          refine hJ'.mono ?_
          rintro r w5 ⟨rfl, b5⟩
          have B5 := btrans hb b5
          clear b5 hJ'
          go_wp2
          go_ret
          exact ⟨by rw [hy.out]; rfl, B5⟩
end Go.Proofs.YtibnojbhoepcdaaGreatDoor
/- Texts cut at a byte, and the numbers that figures spell (no program in this text). -/
namespace Go.Proofs.YtibnojbhoepcdaaGreatDoor
/-- a text cut at each byte c -/
def cutL (c : UInt8) : List UInt8 → List (List UInt8)
  | [] => [[]]
  | x :: xs => if x = c then [] :: cutL c xs else match cutL c xs with
    | [] => [[x]]
    | p :: ps => (x :: p) :: ps
theorem cutL_ne (c : UInt8) : ∀ s, cutL c s ≠ []
  | [] => by simp [cutL]
  | x :: xs => by
    unfold cutL
    split
    · simp
    · split <;> simp
theorem cutL_free (c : UInt8) : ∀ s, c ∉ s → cutL c s = [s]
  | [], _ => rfl
  | x :: xs, h => by
    have h1 : ¬ x = c := fun e => h (by rw [e]; exact List.mem_cons_self ..)
    have h2 : c ∉ xs := fun e => h (List.mem_cons_of_mem _ e)
    rw [cutL, if_neg h1, cutL_free c xs h2]
theorem cutL_hit (c : UInt8) : ∀ a s, c ∉ a → cutL c (a ++ c :: s) = a :: cutL c s
  | [], s, _ => by simp [cutL]
  | x :: xs, s, h => by
    have h1 : ¬ x = c := fun e => h (by rw [e]; exact List.mem_cons_self ..)
    have h2 : c ∉ xs := fun e => h (List.mem_cons_of_mem _ e)
    rw [List.cons_append, cutL, if_neg h1, cutL_hit c xs s h2]
theorem cutL_split (c : UInt8) : ∀ s, c ∉ s ∨ ∃ a r, s = a ++ c :: r ∧ c ∉ a
  | [] => Or.inl (by simp)
  | x :: xs => by
    by_cases h : x = c
    · exact Or.inr ⟨[], xs, by simp [h], by simp⟩
    · rcases cutL_split c xs with h' | ⟨a, r, e, ha⟩
      · refine Or.inl (fun hm => ?_)
        rcases List.mem_cons.1 hm with e | e
        · exact h e.symm
        · exact h' e
      · refine Or.inr ⟨x :: a, r, by rw [e]; rfl, fun hm => ?_⟩
        rcases List.mem_cons.1 hm with e | e
        · exact h e.symm
        · exact ha e
theorem join_two (a : List UInt8) (r : List (List UInt8)) (sep : List UInt8) (h : r ≠ []) : Lib.join (a :: r) sep = a ++ sep ++ Lib.join r sep := by
  cases r with
  | nil => exact absurd rfl h
  | cons b q => simp [Lib.join, List.intercalate, List.intersperse]
theorem join_cutL (c : UInt8) : ∀ n (s : List UInt8), s.length ≤ n → Lib.join (cutL c s) [c] = s := by
  intro n
  induction n with
  | zero =>
    intro s hs
    have : s = [] := List.length_eq_zero_iff.1 (by omega)
    subst this
    simp [cutL, Lib.join_one]
  | succ n ih =>
    intro s hs
    rcases cutL_split c s with h | ⟨a, r, e, ha⟩
    · rw [cutL_free c s h, Lib.join_one]
    · subst e
      rw [cutL_hit c a r ha, join_two _ _ _ (cutL_ne c r), ih r (by simp at hs; omega)]
      simp
theorem cutL_join (c : UInt8) : ∀ (r : List (List UInt8)), r ≠ [] → (∀ p ∈ r, c ∉ p) → cutL c (Lib.join r [c]) = r
  | [], h, _ => absurd rfl h
  | [a], _, hp => by rw [Lib.join_one, cutL_free c a (hp a (List.mem_cons_self ..))]
  | a :: b :: q, _, hp => by
    rw [join_two _ _ _ (by simp), List.append_assoc, List.singleton_append, cutL_hit c a _ (hp a (List.mem_cons_self ..)), cutL_join c (b :: q) (by simp) (fun p h => hp p (List.mem_cons_of_mem _ h))]
theorem indexByte_free (c : UInt8) : ∀ s : List UInt8, c ∉ s → Lib.indexByte s c = -1
  | [], _ => rfl
  | x :: xs, h => by
    have h1 : ¬ x = c := fun e => h (by rw [e]; exact List.mem_cons_self ..)
    have h2 : c ∉ xs := fun e => h (List.mem_cons_of_mem _ e)
    rw [Lib.indexByte, indexByte_free c xs h2]
    simp [h1]
theorem indexByte_hit (c : UInt8) : ∀ (a r : List UInt8), c ∉ a → Lib.indexByte (a ++ c :: r) c = (a.length : Int)
  | [], r, _ => by simp [Lib.indexByte]
  | x :: xs, r, h => by
    have h1 : ¬ x = c := fun e => h (by rw [e]; exact List.mem_cons_self ..)
    have h2 : c ∉ xs := fun e => h (List.mem_cons_of_mem _ e)
    rw [List.cons_append, Lib.indexByte, indexByte_hit c xs r h2]
    have : ¬ ((xs.length : Int) == -1) = true := fun e => by have := beq_iff_eq.1 e; omega
    simp [h1, this]
/-- strings.Split at one byte -/
theorem split_cutL (c : UInt8) : ∀ n (s : List UInt8), s.length ≤ n → Lib.split s [c] = cutL c s := by
  intro n
  induction n with
  | zero =>
    intro s hs
    have : s = [] := List.length_eq_zero_iff.1 (by omega)
    subst this
    rfl
  | succ n ih =>
    intro s hs
    rcases cutL_split c s with h | ⟨a, r, e, ha⟩
    · have hi : Lib.index s [c] = -1 := by rw [Lib.index_one, indexByte_free c s h]
      rw [cutL_free c s h, Lib.split, Lib.count_miss hi]
      rfl
    · subst e
      have hi : Lib.index (a ++ c :: r) [c] = (a.length : Int) := by rw [Lib.index_one, indexByte_hit c a r ha]
      have hn : ¬ ((a.length : Int) == -1) = true := fun e => by have := beq_iff_eq.1 e; omega
      have hd : (a ++ c :: r).drop (a.length + 1) = r := by simp [List.drop_append]
      rw [cutL_hit c a r ha, Lib.split, Lib.count_hit (by simp) hi]
      simp only [List.length_singleton, hd]
      rw [Nat.add_comm 1, Lib.splitK, hi, if_neg hn]
      simp only [Int.toNat_natCast, Nat.add_zero, List.length_singleton, hd]
      have := ih r (by simp at hs; omega)
      rw [Lib.split] at this
      rw [this]
      simp
/-- a figure's byte -/
theorem fig {d : Nat} (h : d < 10) : (UInt8.ofNat (48 + d)).toNat = 48 + d := by
  rw [UInt8.toNat_ofNat']
  exact Nat.mod_eq_of_lt (by omega)
theorem dd_cases (u : Nat) (h : u < 1000) : (u < 10 ∧ Lib.decDigits u = [UInt8.ofNat (48 + u)]) ∨ (10 ≤ u ∧ u < 100 ∧ Lib.decDigits u = [UInt8.ofNat (48 + u / 10), UInt8.ofNat (48 + u % 10)]) ∨ (100 ≤ u ∧ Lib.decDigits u = [UInt8.ofNat (48 + u / 100), UInt8.ofNat (48 + u / 10 % 10), UInt8.ofNat (48 + u % 10)]) := by
  by_cases h1 : u < 10
  · left
    refine ⟨h1, ?_⟩
    rw [Lib.decDigits, dif_pos h1]
  · right
    by_cases h2 : u < 100
    · left
      refine ⟨by omega, h2, ?_⟩
      rw [Lib.decDigits, dif_neg h1, Lib.decDigits, dif_pos (by omega)]
      rfl
    · right
      refine ⟨by omega, ?_⟩
      rw [Lib.decDigits, dif_neg h1, Lib.decDigits, dif_neg (by omega), Lib.decDigits, dif_pos (by omega), Nat.div_div_eq_div_mul]
      rfl
/-- the number that figures spell; -1 if one is none -/
def mdig : Int → List UInt8 → Int
  | acc, [] => acc
  | acc, c :: r => if c.toNat < 48 ∨ 57 < c.toNat then -1 else mdig (acc * 10 + ((c.toNat : Int) - 48)) r
/-- the model's number -/
def mnum (s : List UInt8) : Int := if s.length < 1 ∨ 6 < s.length ∨ (1 < s.length ∧ s.head? = some 48) then -1 else mdig 0 s
/-- the program's number, and whether it is one -/
def pnum (s : List UInt8) : Int × Bool := match Lib.atoiAll s with
  | .ok n => (n, Lib.itoa n == s)
  | .syntax => (0, false)
  | .range => (Lib.atoiSat s, false)
theorem pnum_say {s : List UInt8} (h : (pnum s).2 = true) : Lib.itoa (pnum s).1 = s := by
  unfold pnum at h ⊢
  split at h
  · exact beq_iff_eq.1 h
  · cases h
  · cases h
theorem itoa_nat {n : Int} (h0 : 0 ≤ n) : Lib.itoa n = Lib.decDigits n.toNat := by
  rw [Lib.itoa, if_neg (by omega)]
theorem itoa_fig {n : Int} (h0 : 0 ≤ n) (h1 : n ≤ 999) : ∀ c ∈ Lib.itoa n, 48 ≤ c.toNat ∧ c.toNat ≤ 57 := by
  rw [itoa_nat h0]
  intro c hc
  rcases dd_cases n.toNat (by omega) with ⟨a, e⟩ | ⟨a, b, e⟩ | ⟨a, e⟩ <;> rw [e] at hc <;> simp only [List.mem_cons, List.not_mem_nil, or_false] at hc
  · subst hc
    rw [fig (by omega)]
    omega
  · rcases hc with rfl | rfl <;> rw [fig (by omega)] <;> omega
  · rcases hc with rfl | rfl | rfl <;> rw [fig (by omega)] <;> omega
theorem itoa_miss {n : Int} (h0 : 0 ≤ n) (h1 : n ≤ 999) (c : UInt8) (hc : c.toNat < 48 ∨ 57 < c.toNat) : c ∉ Lib.itoa n := fun hm => by
  have := itoa_fig h0 h1 c hm
  omega
theorem pnum_itoa {n : Int} (h0 : 0 ≤ n) (h1 : n ≤ 999) : pnum (Lib.itoa n) = (n, true) := by
  have key : Lib.atoiAll (Lib.itoa n) = .ok n := by
    rw [itoa_nat h0]
    rcases dd_cases n.toNat (by omega) with ⟨a, e⟩ | ⟨a, b, e⟩ | ⟨a, e⟩
    · have f1 := fig (d := n.toNat) (by omega)
      rw [e, Lib.atoiAll]
      generalize UInt8.ofNat (48 + n.toNat) = y at f1 ⊢
      have q1 : ¬ (y.toNat = 43 ∨ y.toNat = 45) := by omega
      have q2 : ¬ y.toNat = 45 := by omega
      have r1 : Lib.parseMag [y] = .ok n.toNat := by
        simp only [Lib.parseMag, Lib.parseUint10]
        rw [if_neg (by simp), if_pos (by omega), if_neg (by omega), if_neg (by omega)]
        congr 1; omega
      simp only [if_neg q1, r1]
      rw [if_neg (by omega), if_neg (by omega), if_neg q2]
      congr 1; omega
    · have f1 := fig (d := n.toNat / 10) (by omega)
      have f2 := fig (d := n.toNat % 10) (by omega)
      rw [e, Lib.atoiAll]
      generalize UInt8.ofNat (48 + n.toNat / 10) = y at f1 ⊢
      generalize UInt8.ofNat (48 + n.toNat % 10) = z at f2 ⊢
      have q1 : ¬ (y.toNat = 43 ∨ y.toNat = 45) := by omega
      have q2 : ¬ y.toNat = 45 := by omega
      have r1 : Lib.parseMag [y, z] = .ok n.toNat := by
        simp only [Lib.parseMag, Lib.parseUint10]
        rw [if_neg (by simp), if_pos (by omega), if_neg (by omega), if_neg (by omega), if_pos (by omega), if_neg (by omega), if_neg (by omega)]
        congr 1; omega
      simp only [if_neg q1, r1]
      rw [if_neg (by omega), if_neg (by omega), if_neg q2]
      congr 1; omega
    · have f1 := fig (d := n.toNat / 100) (by omega)
      have f2 := fig (d := n.toNat / 10 % 10) (by omega)
      have f3 := fig (d := n.toNat % 10) (by omega)
      rw [e, Lib.atoiAll]
      generalize UInt8.ofNat (48 + n.toNat / 100) = y at f1 ⊢
      generalize UInt8.ofNat (48 + n.toNat / 10 % 10) = z at f2 ⊢
      generalize UInt8.ofNat (48 + n.toNat % 10) = x at f3 ⊢
      have q1 : ¬ (y.toNat = 43 ∨ y.toNat = 45) := by omega
      have q2 : ¬ y.toNat = 45 := by omega
      have r1 : Lib.parseMag [y, z, x] = .ok n.toNat := by
        simp only [Lib.parseMag, Lib.parseUint10]
        rw [if_neg (by simp), if_pos (by omega), if_neg (by omega), if_neg (by omega), if_pos (by omega), if_neg (by omega), if_neg (by omega), if_pos (by omega), if_neg (by omega), if_neg (by omega)]
        congr 1; omega
      simp only [if_neg q1, r1]
      rw [if_neg (by omega), if_neg (by omega), if_neg q2]
      congr 1; omega
  unfold pnum
  rw [key]
  simp
theorem mnum_itoa {n : Int} (h0 : 0 ≤ n) (h1 : n ≤ 999) : mnum (Lib.itoa n) = n := by
  rw [itoa_nat h0]
  rcases dd_cases n.toNat (by omega) with ⟨a, e⟩ | ⟨a, b, e⟩ | ⟨a, e⟩
  · have f1 := fig (d := n.toNat) (by omega)
    rw [e, mnum, if_neg (by simp)]
    generalize UInt8.ofNat (48 + n.toNat) = y at f1 ⊢
    simp only [mdig]
    rw [if_neg (by omega)]
    omega
  · have f1 := fig (d := n.toNat / 10) (by omega)
    have f2 := fig (d := n.toNat % 10) (by omega)
    rw [e, mnum]
    generalize UInt8.ofNat (48 + n.toNat / 10) = y at f1 ⊢
    generalize UInt8.ofNat (48 + n.toNat % 10) = z at f2 ⊢
    have q : ¬ y = 48 := fun e => by rw [e] at f1; change 48 = _ at f1; omega
    rw [if_neg (by simp [q])]
    simp only [mdig]
    rw [if_neg (by omega), if_neg (by omega)]
    omega
  · have f1 := fig (d := n.toNat / 100) (by omega)
    have f2 := fig (d := n.toNat / 10 % 10) (by omega)
    have f3 := fig (d := n.toNat % 10) (by omega)
    rw [e, mnum]
    generalize UInt8.ofNat (48 + n.toNat / 100) = y at f1 ⊢
    generalize UInt8.ofNat (48 + n.toNat / 10 % 10) = z at f2 ⊢
    generalize UInt8.ofNat (48 + n.toNat % 10) = x at f3 ⊢
    have q : ¬ y = 48 := fun e => by rw [e] at f1; change 48 = _ at f1; omega
    rw [if_neg (by simp [q])]
    simp only [mdig]
    rw [if_neg (by omega), if_neg (by omega), if_neg (by omega)]
    omega
end Go.Proofs.YtibnojbhoepcdaaGreatDoor
/- How facts are read: the program's way and the model's answer alike (no program in this text). -/
namespace Go.Proofs.YtibnojbhoepcdaaGreatDoor
/-- the place of a word, 0 if it is none -/
def wnum (s : List UInt8) : Int := if s = wa1 then 1 else if s = wa2 then 2 else if s = wa3 then 3 else if s = wa4 then 4 else 0
theorem word_wnum {s : List UInt8} (h : wnum s ≠ 0) : wordL (wnum s) = s := by
  unfold wnum at h ⊢
  split
  · next e => exact e ▸ rfl
  · split
    · next e => exact e ▸ rfl
    · split
      · next e => exact e ▸ rfl
      · split
        · next e => exact e ▸ rfl
        · next h1 h2 h3 h4 => rw [if_neg h1, if_neg h2, if_neg h3, if_neg h4] at h; exact absurd rfl h
/-- what the program reads in a text of a fact -/
def pf (s : List UInt8) : Option Fc := match cutL 58 s with
  | [a, b, c] => if (pnum a).2 = true ∧ (pnum b).2 = true ∧ wnum (Lib.trimSuffix c [42]) ≠ 0 then some ⟨(pnum a).1, (pnum b).1, wnum (Lib.trimSuffix c [42]), Lib.hasSuffix c [42]⟩ else none
  | _ => none
/-- what the model reads in it -/
def mst (s : List UInt8) : Bool := s.getLast? == some 42
def mf (s : List UInt8) : Option Fc := match cutL 58 (if mst s = true then s.dropLast else s) with
  | [a, b, c] => if fok ⟨mnum a, mnum b, wnum c, mst s⟩ = true then some ⟨mnum a, mnum b, wnum c, mst s⟩ else none
  | _ => none
theorem star_back (c : List UInt8) : Lib.trimSuffix c [42] ++ (if Lib.hasSuffix c [42] = true then [42] else []) = c := by
  unfold Lib.trimSuffix
  by_cases h : Lib.hasSuffix c [42] = true
  · rw [if_pos h, if_pos h]
    obtain ⟨t, e⟩ := List.isSuffixOf_iff_suffix.1 h
    subst e
    simp
  · rw [if_neg h, if_neg h]
    simp
theorem pf_say {s : List UInt8} {f : Fc} (h : pf s = some f) : ftx f = s := by
  unfold pf at h
  split at h
  · next a b c e =>
    split at h
    · next hq =>
      injection h with h
      subst h
      have j := join_cutL 58 s.length s (Nat.le_refl _)
      rw [e, join_two _ _ _ (by simp), join_two _ _ _ (by simp), Lib.join_one] at j
      unfold ftx
      simp only
      rw [pnum_say hq.1, pnum_say hq.2.1, word_wnum hq.2.2, List.append_assoc (_ ++ [58]), star_back]
      rw [← j]
      simp
    · cases h
  · cases h
theorem word_miss (s : Int) (c : UInt8) (hc : c.toNat < 97) : c ∉ wordL s := by
  have key : ∀ x ∈ wordL s, 97 ≤ x.toNat := by
    unfold wordL
    split
    · decide
    · split
      · decide
      · split
        · decide
        · decide
  exact fun hm => by have := key c hm; omega
theorem star_miss (g : Bool) (c : UInt8) (hc : c ≠ 42) : c ∉ (if g = true then [42] else [] : List UInt8) := by
  cases g <;> simp [hc]
theorem ftx_form (f : Fc) : ftx f = Lib.itoa f.n ++ 58 :: (Lib.itoa f.i ++ 58 :: (wordL f.s ++ (if f.g = true then [42] else []))) := by
  simp [ftx]
theorem ftx_miss {f : Fc} (h : fok f = true) : (44 : UInt8) ∉ ftx f := by
  obtain ⟨a, b, c, d, -, -⟩ := fok_all h
  rw [ftx_form]
  intro hm
  simp only [List.mem_append, List.mem_cons] at hm
  rcases hm with hm | hm | hm | hm | hm | hm
  · exact itoa_miss a (by omega) 44 (by decide) hm
  · exact absurd hm (by decide)
  · exact itoa_miss c d 44 (by decide) hm
  · exact absurd hm (by decide)
  · exact word_miss _ 44 (by decide) hm
  · exact star_miss _ 44 (by decide) hm
theorem cut3 {f : Fc} (h : fok f = true) (e : List UInt8) (he : (58 : UInt8) ∉ e) : cutL 58 (Lib.itoa f.n ++ 58 :: (Lib.itoa f.i ++ 58 :: e)) = [Lib.itoa f.n, Lib.itoa f.i, e] := by
  obtain ⟨a, b, c, d, -, -⟩ := fok_all h
  rw [cutL_hit 58 _ _ (itoa_miss a (by omega) 58 (by decide)), cutL_hit 58 _ _ (itoa_miss c d 58 (by decide)), cutL_free 58 e he]
theorem pf_ftx {f : Fc} (h : fok f = true) : pf (ftx f) = some f := by
  obtain ⟨a, b, c, d, s1, s4⟩ := fok_all h
  have e58 : (58 : UInt8) ∉ wordL f.s ++ (if f.g = true then [42] else []) := by
    intro hm
    rcases List.mem_append.1 hm with hm | hm
    · exact word_miss _ 58 (by decide) hm
    · exact star_miss _ 58 (by decide) hm
  have hw : wnum (Lib.trimSuffix (wordL f.s ++ (if f.g = true then [42] else [])) [42]) = f.s ∧ Lib.hasSuffix (wordL f.s ++ (if f.g = true then [42] else [])) [42] = f.g := by
    have hs : f.s = 1 ∨ f.s = 2 ∨ f.s = 3 ∨ f.s = 4 := by omega
    rcases hs with e | e | e | e <;> rw [e] <;> cases f.g <;> decide
  unfold pf
  rw [ftx_form, cut3 h _ e58]
  simp only
  rw [pnum_itoa a (by omega), pnum_itoa c d, hw.1, hw.2, if_pos ⟨rfl, rfl, by omega⟩]
theorem mf_nil : mf [] = none := rfl
theorem mf_ftx {f : Fc} (h : fok f = true) : mf (ftx f) = some f := by
  obtain ⟨a, b, c, d, s1, s4⟩ := fok_all h
  have hm : mst (ftx f) = f.g := by
    have hs : f.s = 1 ∨ f.s = 2 ∨ f.s = 3 ∨ f.s = 4 := by omega
    have : (ftx f).getLast? = (wordL f.s ++ (if f.g = true then [42] else [])).getLast? := by
      have hn : wordL f.s ++ (if f.g = true then [42] else []) ≠ [] := by
        rcases hs with e | e | e | e <;> rw [e] <;> cases f.g <;> decide
      have he : ftx f = (Lib.itoa f.n ++ [58] ++ Lib.itoa f.i ++ [58]) ++ (wordL f.s ++ (if f.g = true then [42] else [])) := by simp [ftx]
      rw [he, List.getLast?_append]
      cases hl : (wordL f.s ++ (if f.g = true then [42] else [])).getLast? with
      | none => exact absurd (List.getLast?_eq_none_iff.1 hl) hn
      | some x => rfl
    unfold mst
    rw [this]
    rcases hs with e | e | e | e <;> rw [e] <;> cases f.g <;> decide
  have hd : (if mst (ftx f) = true then (ftx f).dropLast else ftx f) = Lib.itoa f.n ++ 58 :: (Lib.itoa f.i ++ 58 :: wordL f.s) := by
    rw [hm]
    cases hg : f.g
    · simp [ftx_form, hg]
    · rw [if_pos rfl, ftx_form, hg, if_pos rfl]
      have : Lib.itoa f.n ++ 58 :: (Lib.itoa f.i ++ 58 :: (wordL f.s ++ [42])) = (Lib.itoa f.n ++ 58 :: (Lib.itoa f.i ++ 58 :: wordL f.s)) ++ [42] := by simp
      rw [this, List.dropLast_concat]
  have hw : wnum (wordL f.s) = f.s := by
    have hs : f.s = 1 ∨ f.s = 2 ∨ f.s = 3 ∨ f.s = 4 := by omega
    rcases hs with e | e | e | e <;> rw [e] <;> decide
  unfold mf
  rw [hd, cut3 h _ (word_miss _ 58 (by decide))]
  simp only
  rw [mnum_itoa a (by omega), mnum_itoa c d, hw, hm, if_pos (show fok ⟨f.n, f.i, f.s, f.g⟩ = true from h)]
/-- all pieces read; none if one is none -/
def alls (r : List UInt8 → Option Fc) : List (List UInt8) → Option (List Fc)
  | [] => some []
  | p :: ps => match r p with
    | none => none
    | some f => match alls r ps with
      | none => none
      | some T => some (f :: T)
theorem alls_map (r : List UInt8 → Option Fc) : ∀ T : List Fc, (∀ f ∈ T, r (ftx f) = some f) → alls r (T.map ftx) = some T
  | [], _ => rfl
  | f :: T, h => by
    rw [List.map_cons, alls, h f (List.mem_cons_self ..), alls_map r T (fun g hg => h g (List.mem_cons_of_mem _ hg))]
theorem alls_say (r : List UInt8 → Option Fc) (hr : ∀ s f, r s = some f → ftx f = s) : ∀ ps T, alls r ps = some T → T.map ftx = ps
  | [], T, h => by
    injection h with h
    subst h
    rfl
  | p :: ps, T, h => by
    rw [alls] at h
    split at h
    · cases h
    · next f hf =>
      split at h
      · cases h
      · next T' hT =>
        injection h with h
        subst h
        rw [List.map_cons, hr p f hf, alls_say r hr ps T' hT]
/-- a list's facts, one by one -/
def atF (T : List Fc) (j : Nat) : Fc := T.getD j ⟨0, 0, 0, false⟩
def tokL (T : List Fc) : Bool := tokB T.length (atF T)
theorem seqF_atF (T : List Fc) : seqF (atF T) T.length = T := by
  unfold seqF atF
  apply List.ext_getElem
  · simp
  · intro i h1 h2
    simp [List.getD_eq_getElem?_getD, List.getElem?_eq_getElem h2]
/-- a table's text -/
def txL (T : List Fc) : List UInt8 := if tokL T = true then (if T = [] then [45] else ttx T) else []
theorem txt_txL (T : List Fc) : txt T.length (atF T) = bs (txL T) := by
  unfold txt txL tokL
  by_cases h : tokB T.length (atF T) = true
  · rw [if_pos h, if_pos h, seqF_atF]
    cases T with
    | nil => rfl
    | cons f T => simp
  · rw [if_neg h, if_neg h]
/-- what the program reads in a table's text -/
def pt (s : List UInt8) : Option (List Fc) := if s = [45] then some [] else match alls pf (cutL 44 s) with
  | none => none
  | some T => if tokL T = true then some T else none
/-- what the model reads in it -/
def mt (s : List UInt8) : Option (List Fc) := if s = [45] then some [] else match alls mf (cutL 44 s) with
  | none => none
  | some T => if txL T = s then some T else none
theorem allB_fok {len : Nat} {F : Nat → Fc} (h : tokB len F = true) : ∀ j, j < len → fok (F j) = true := (tok_all h).1
theorem tokL_fok {T : List Fc} (h : tokL T = true) : ∀ f ∈ T, fok f = true := by
  intro f hf
  obtain ⟨i, hi, e⟩ := List.getElem_of_mem hf
  have := allB_fok h i hi
  rw [atF, List.getD_eq_getElem?_getD, List.getElem?_eq_getElem hi] at this
  rw [← e]
  exact this
theorem cut_ttx {T : List Fc} (hT : ∀ f ∈ T, fok f = true) (hn : T ≠ []) : cutL 44 (ttx T) = T.map ftx := by
  unfold ttx
  refine cutL_join 44 _ (by simpa using hn) (fun p hp => ?_)
  obtain ⟨f, hf, e⟩ := List.mem_map.1 hp
  rw [← e]
  exact ftx_miss (hT f hf)
theorem pt_say {s : List UInt8} {T : List Fc} (h : pt s = some T) : tokL T = true ∧ txL T = s := by
  unfold pt at h
  split at h
  · next e =>
    injection h with h
    subst h
    subst e
    exact ⟨rfl, rfl⟩
  · split at h
    · cases h
    · next T' hT =>
      split at h
      · next ht =>
        injection h with h
        subst h
        have e := alls_say pf (fun s f => pf_say) _ _ hT
        have hn : T' ≠ [] := by
          intro e0
          subst e0
          exact cutL_ne 44 s e.symm
        refine ⟨ht, ?_⟩
        unfold txL
        rw [if_pos ht, if_neg hn, ttx, e, join_cutL 44 s.length s (Nat.le_refl _)]
      · cases h
theorem say_pt {s : List UInt8} {T : List Fc} (hk : tokL T = true) (hs : txL T = s) : pt s = some T ∧ mt s = some T := by
  have hs0 := hs
  unfold txL at hs
  rw [if_pos hk] at hs
  by_cases hn : T = []
  · subst hn
    subst hs
    exact ⟨rfl, rfl⟩
  · rw [if_neg hn] at hs
    have hf := tokL_fok hk
    have hc := cut_ttx hf hn
    rw [hs] at hc
    have h45 : ¬ s = [45] := by
      intro e
      rw [e] at hc
      rw [show cutL 44 [45] = [[45]] from rfl] at hc
      cases T with
      | nil => exact hn rfl
      | cons f T =>
        rw [List.map_cons] at hc
        injection hc with h1 h2
        have h3 := ftx_form f
        rw [← h1] at h3
        have : (58 : UInt8) ∈ [(45 : UInt8)] := by rw [h3]; simp
        exact absurd this (by decide)
    constructor
    · unfold pt
      rw [if_neg h45, hc, alls_map pf T (fun f h => pf_ftx (hf f h))]
      simp only
      rw [if_pos hk]
    · unfold mt
      rw [if_neg h45, hc, alls_map mf T (fun f h => mf_ftx (hf f h))]
      simp only
      rw [if_pos hs0]
end Go.Proofs.YtibnojbhoepcdaaGreatDoor
/- Numbers and words read: the program's way. -/
namespace Go.Proofs.YtibnojbhoepcdaaGreatDoor
open Go.ChangeShapes Go.WideShapes Go.ChangeAt Go.RowKit
/-- what the readers ask of the world: the library's tables and errors -/
structure Pst (w : World) : Prop where
  t : Tabs w
  s : ∃ tp p, w.var? Tryz.prog "strconv.ErrSyntax" = some #[.iface tp p]
  r : ∃ tp p, w.var? Tryz.prog "strconv.ErrRange" = some #[.iface tp p]
  m : ∃ m : Int, w.cell? ⟨1, 0, none⟩ = some (.int .i64 m)
theorem var_below {n : String} {w w' : World} {cs : Array Value} (h : w.var? Tryz.prog n = some cs) (hb : Below w.heap.size w w') : w'.var? Tryz.prog n = some cs := by
  unfold World.var? at h ⊢
  cases hg : Tryz.prog.globalNamed n with
  | none => rw [hg] at h; cases h
  | some g =>
    rw [hg] at h
    simp only [Option.bind_some] at h ⊢
    have hlt : g < w.heap.size := by
      rcases Nat.lt_or_ge g w.heap.size with h' | h'
      · exact h'
      · rw [Array.getElem?_eq_none h'] at h
        cases h
    rw [hb.block g hlt]
    exact h
theorem Pst.below {w w' : World} (h : Pst w) (hb : Below w.heap.size w w') : Pst w' := by
  obtain ⟨t, ⟨a, b, s⟩, ⟨c, d, r⟩, ⟨m, hm⟩⟩ := h
  exact ⟨t.below hb, ⟨a, b, var_below s hb⟩, ⟨c, d, var_below r hb⟩, ⟨m, keep_below hb hm⟩⟩
theorem atoi_bound {l : List UInt8} {v : Int} (h : Lib.atoiAll l = .ok v) : -9223372036854775808 ≤ v ∧ v ≤ 9223372036854775807 := by
  unfold Lib.atoiAll at h
  split at h
  · cases h
  · simp only at h
    split at h
    · cases h
    · cases h
    · split at h
      · cases h
      · split at h
        · cases h
        · injection h with h
          split at h <;> omega
theorem atoi_any (s : ByteArray) (hs : s.size ≤ 1048576) (v : Int) (h : Lib.atoiAll s.data.toList = .ok v) (w : World) :
    Calls Tryz.prog 107 #[.string s] w fun e w' => e = .returned (.tuple #[.int .i64 v, .nilIface]) ∧ Below w.heap.size w w' := by
  refine (Tryz.strconv_Atoi_ok s (by omega) v h w).mono ?_
  rintro e w' ⟨rfl, rfl | ⟨t, rfl⟩⟩
  · exact ⟨rfl, Below.refl _ _⟩
  · exact ⟨rfl, Lib.bytesWorld_below _ _ _⟩
theorem itoa_all (n : Int) (h0 : -9223372036854775808 ≤ n) (h1 : n ≤ 9223372036854775807) (x : ByteArray) (hx : bs (Lib.itoa n) = x) (w : World) (ht : Tabs w) :
    Calls Tryz.prog 49 #[.int .i64 n] w fun e w' => e = .returned (.string x) ∧ Below w.heap.size w w' := by
  subst hx
  refine (Tryz.strconv_Itoa n h0 h1 w ht.p).mono ?_
  rintro e w' ⟨rfl, k, os, rfl⟩
  exact ⟨rfl, below_grow k os⟩
set_option maxRecDepth 20000 in
set_option maxHeartbeats 4000000 in
theorem number_any (s : ByteArray) (hs : s.size ≤ 1048576) (w : World) (hp : Pst w) :
    Calls Tryz.prog 72 #[.string s] w fun e w' => e = .returned (.tuple #[.int .i64 (pnum s.data.toList).1, .bool (pnum s.data.toList).2]) ∧ Below w.heap.size w w' := by
  cases hat : Lib.atoiAll s.data.toList with
  | ok v =>
    obtain ⟨v0, v1⟩ := atoi_bound hat
    have hpn : pnum s.data.toList = (v, Lib.itoa v == s.data.toList) := by unfold pnum; rw [hat]
    rw [hpn]
    obtain ⟨q, hq⟩ : ∃ q, Hid ((Lib.itoa v == s.data.toList) = q) := ⟨_, rfl⟩
    obtain ⟨x, hx⟩ : ∃ x, Hid (bs (Lib.itoa v) = x) := ⟨_, rfl⟩
    have hxq : (x.toList == s.toList) = q := by
      rw [← hq.out, ← hx.out, ByteArray.toList_eq, ByteArray.toList_eq]
    rw [hq.out]
    clear hpn
    go_enter Tryz.func72, Tryz.ntmps72
    go_wp2_with fail
    refine (atoi_any s hs v hat _).mono ?_
    rintro e w1 ⟨rfl, b1⟩
    go_wp2_with fail
    refine (itoa_all v v0 v1 x hx.out _ (hp.below b1).t).mono ?_
    rintro e w2 ⟨rfl, b2⟩
    have B2 := btrans b1 b2
    clear b1 b2
    go_wp2
    go_ret2
    exact ⟨rfl, B2⟩
  | «syntax» =>
    have hpn : pnum s.data.toList = (0, false) := by unfold pnum; rw [hat]
    rw [hpn]
    obtain ⟨tp, pv, hv⟩ := hp.s
    go_enter Tryz.func72, Tryz.ntmps72
    go_wp2_with fail
    refine (Tryz.strconv_Atoi_syntax_var s (by omega) hat tp pv _ hv).mono ?_
    rintro e w1 ⟨N, rfl, -, -, b1⟩
    clear hv
    go_wp2
    go_ret2
    exact ⟨rfl, b1⟩
  | range =>
    have hpn : pnum s.data.toList = (Lib.atoiSat s.data.toList, false) := by unfold pnum; rw [hat]
    rw [hpn]
    generalize hsat : Lib.atoiSat s.data.toList = z
    obtain ⟨tp, pv, hv⟩ := hp.r
    have hC := Tryz.strconv_Atoi_range_var s (by omega) hat tp pv w hv
    rw [hsat] at hC
    clear hv
    go_enter Tryz.func72, Tryz.ntmps72
    go_wp2_with fail
    refine hC.mono ?_
    rintro e w1 ⟨N, rfl, -, -, b1⟩
    clear hC
    go_wp2
    go_ret2
    exact ⟨rfl, b1⟩
theorem idx_wnum (x : List UInt8) : Lib.idxOfS [bs wa1, bs wa2, bs wa3, bs wa4] (bs x) = wnum x - 1 := by
  have e : ∀ a : List UInt8, (bs a = bs x) ↔ x = a := fun a => ⟨fun h => by have := congrArg (fun z => z.data.toList) h; simpa using this.symm, fun h => by rw [h]⟩
  unfold Lib.idxOfS wnum
  simp only [Lib.idxFromS, e]
  split
  · rfl
  · split
    · rfl
    · split
      · rfl
      · split
        · rfl
        · rfl
theorem wnum_range (x : List UInt8) : 0 ≤ wnum x ∧ wnum x ≤ 4 := by
  unfold wnum
  split
  · omega
  · split
    · omega
    · split
      · omega
      · split <;> omega
set_option maxRecDepth 20000 in
set_option maxHeartbeats 4000000 in
theorem numberOf_any (x : List UInt8) (w : World) (ht : Tabs w) :
    Calls Tryz.prog 73 #[.string (bs [97, 108, 105, 118, 101, 32, 115, 117, 115, 112, 101, 99, 116, 32, 100, 101, 97, 100, 32, 108, 101, 102, 116]), .string (bs x)] w fun e w' => e = .returned (.tuple #[.int .i64 (wnum x), .bool (decide (wnum x ≠ 0))]) ∧ Below w.heap.size w w' := by
  obtain ⟨r0, r4⟩ := wnum_range x
  have hw := idx_wnum x
  generalize wnum x = z at *
  go_enter Tryz.func73, Tryz.ntmps73
  go_wp2_with fail
  refine (names_any _ ht).mono ?_
  rintro e w1 ⟨rfl, rfl⟩
  have hI := Tryz.slices_Index_string w.heap.size 0 4 4 [bs wa1, bs wa2, bs wa3, bs wa4] (bs x) (w.alloc (.cells #[.string (bs wa1), .string (bs wa2), .string (bs wa3), .string (bs wa4)] 9)) (Nat.le_refl _) (by omega) (fun j hj => by
    match j, hj with
    | 0, _ => simp
    | 1, _ => simp
    | 2, _ => simp
    | 3, _ => simp)
  rw [show List.take 4 [bs wa1, bs wa2, bs wa3, bs wa4] = [bs wa1, bs wa2, bs wa3, bs wa4] from rfl, hw] at hI
  clear hw
  have b1 : Below w.heap.size w (w.alloc (.cells #[.string (bs wa1), .string (bs wa2), .string (bs wa3), .string (bs wa4)] 9)) := balloc _ (Below.refl _ _)
  generalize w.alloc (.cells #[.string (bs wa1), .string (bs wa2), .string (bs wa3), .string (bs wa4)] 9) = w2 at *
  go_wp2_with fail
  refine hI.mono ?_
  rintro e w3 ⟨rfl, rfl⟩
  clear hI
  by_cases hz : z = 0
  · subst hz
    go_wp2
    go_ret2
    exact ⟨rfl, b1⟩
  · have hge : (0 : Int) ≤ z - 1 := by omega
    go_wp2
    go_ret2
    exact ⟨by simp [hz]; omega, b1⟩
end Go.Proofs.YtibnojbhoepcdaaGreatDoor
/- The library's variables that the rows list: what they give the walks; a world in which they are laid. -/
namespace Go.Proofs.YtibnojbhoepcdaaGreatDoor
open Go.ChangeShapes Go.WideShapes Go.ChangeAt Go.RowKit
/-- what the rows list -/
abbrev laidL : List (String × DataW Unit) := [("math/bits.deBruijn32tab", Rows.laid_math_bits_deBruijn32tab), ("math/bits.deBruijn64tab", Rows.laid_math_bits_deBruijn64tab), ("internal/strconv.uint64pow10", Rows.laid_internal_strconv_uint64pow10), ("unicode/utf8.acceptRanges", Rows.laid_unicode_utf8_acceptRanges), ("strconv.ErrRange", Rows.laid_strconv_ErrRange), ("strconv.ErrSyntax", Rows.laid_strconv_ErrSyntax), ("unicode.White_Space", Rows.laid_unicode_White_Space), ("strings.asciiSpace", Rows.laid_strings_asciiSpace), ("unicode/utf8.first", Rows.laid_unicode_utf8_first)]
theorem gPow' : Tryz.prog.globalNamed "internal/strconv.uint64pow10" = some 3 := by kernel_rfl
theorem gSpace' : Tryz.prog.globalNamed "strings.asciiSpace" = some 0 := by kernel_rfl
theorem tPow : (Tryz.prog.globals[3]?).map (·.type) = some 170 := by kernel_rfl
theorem tSpace : (Tryz.prog.globals[0]?).map (·.type) = some 142 := by kernel_rfl
theorem pow_eq : (Rows.laid_internal_strconv_uint64pow10 : DataW Unit) = Lib.tabData .u64 Lib.pow10Tab := by kernel_rfl
theorem space_eq : (Rows.laid_strings_asciiSpace : DataW Unit) = Lib.tabData .u8 Lib.asciiSpaceTab := by kernel_rfl
theorem laid_tabs {W : World} (h0 : laidMetH Tryz.prog laidL W) : Tabs W := by
  have h : laidMet Tryz.prog laidL W := h0
  have h3 := h.tail.tail
  have h5 := h.tail.tail.tail.tail.tail.tail.tail
  rw [pow_eq] at h3
  rw [space_eq] at h5
  exact ⟨Lib.tabIs_of_head gPow' tPow Tryz.underlying170 Tryz.underlying146 (by kernel_rfl) (by kernel_rfl) h3, Lib.tabIs_of_head gSpace' tSpace Tryz.underlying142 Tryz.underlying5 (by kernel_rfl) (by kernel_rfl) h5⟩
theorem gSyn : Tryz.prog.globalNamed "strconv.ErrSyntax" = some 6 := by kernel_rfl
theorem gRan : Tryz.prog.globalNamed "strconv.ErrRange" = some 7 := by kernel_rfl
theorem tSyn : (Tryz.prog.globals[6]?).map (·.type) = some 85 := by kernel_rfl
theorem tRan : (Tryz.prog.globals[7]?).map (·.type) = some 85 := by kernel_rfl
theorem starErr : "*" ++ "errors.errorString" = "*errors.errorString" := by decide
theorem rowErr (u : TypeId) (h : Tryz.prog.typeName? 3 u = some "*errors.errorString") : u = 198 :=
  typeName_ptr_named (nm := "errors.errorString") (by rw [starErr]; kernel_rfl) (by kernel_rfl) (by decide) u (by rw [starErr]; exact h)
/-- what the walks ask of the world, out of what is laid and of the shape of bytealg.MaxLen -/
theorem laid_pst {W : World} (h0 : laidMetH Tryz.prog laidL W) (hS : W.ShapedOpen Tryz.prog) : Pst W := by
  have h : laidMet Tryz.prog laidL W := h0
  obtain ⟨a, _, ha, _, _, _⟩ := laid_sentinel (h.tail.tail.tail.tail.tail) gSyn tSyn Tryz.underlying85 rowErr Tryz.underlying198 Tryz.underlying200 rfl rfl Tryz.underlying9 (by kernel_rfl) (by kernel_rfl)
  obtain ⟨b, _, hb, _, _, _⟩ := laid_sentinel (h.tail.tail.tail.tail) gRan tRan Tryz.underlying85 rowErr Tryz.underlying198 Tryz.underlying200 rfl rfl Tryz.underlying9 (by kernel_rfl) (by kernel_rfl)
  exact ⟨laid_tabs h0, ⟨_, _, ha⟩, ⟨_, _, hb⟩, Go.Proofs.cell_of_shapedOpen_int (zero := #[.int .i64 0]) (t := 3) hS (of_decide_eq_true (by kernel_rfl)) (by kernel_rfl) rfl (by kernel_rfl) (by kernel_rfl) Tryz.underlying3⟩
/-- a world for the witness -/
noncomputable def laidWorld (os : Os) : World := World.laidAll Tryz.prog os laidL
theorem laid_met (os : Os) (args : Array Value) : laidMet Tryz.prog laidL ((laidWorld os).forCall (fun _ _ => 0) ⟨#[], args, []⟩).memory :=
  laidMet_laidAll args (by kernel_rfl) (by kernel_rfl)
end Go.Proofs.YtibnojbhoepcdaaGreatDoor
/- deBruijn64tab, out of what is laid. -/
namespace Go.Proofs.YtibnojbhoepcdaaGreatDoor
open Go.ChangeShapes Go.WideShapes Go.ChangeAt Go.RowKit
def dbTab : List Int := [0, 1, 56, 2, 57, 49, 28, 3, 61, 58, 42, 50, 38, 29, 17, 4, 62, 47, 59, 36, 45, 43, 51, 22, 53, 39, 33, 30, 24, 18, 12, 5, 63, 55, 48, 27, 60, 41, 37, 16, 46, 35, 44, 21, 52, 32, 23, 11, 54, 26, 40, 15, 34, 20, 31, 10, 25, 14, 19, 9, 13, 8, 7, 6]
theorem gDb : Tryz.prog.globalNamed "math/bits.deBruijn64tab" = some 9 := by kernel_rfl
theorem db_eq : (Rows.laid_math_bits_deBruijn64tab : DataW Unit) = Lib.tabData .u8 dbTab := by kernel_rfl
theorem tDb : (Tryz.prog.globals[9]?).map (·.type) = some 204 := by kernel_rfl
theorem laid_db {W : World} (h0 : laidMetH Tryz.prog laidL W) : W.cell? ⟨9, 15, none⟩ = some (.int .u8 4) := by
  have h : laidMet Tryz.prog laidL W := h0
  have h2 := h.tail
  rw [db_eq] at h2
  have t : Lib.TabIs Tryz.prog W "math/bits.deBruijn64tab" .u8 dbTab := Lib.tabIs_of_head gDb tDb Tryz.underlying204 Tryz.underlying5 (by kernel_rfl) (by kernel_rfl) h2
  exact t.cell gDb 15 (by decide)
end Go.Proofs.YtibnojbhoepcdaaGreatDoor
/- What a pick from a code comes to, whatever the code: some number in its bounds; only the reader's own place has turned. -/
namespace Go.Proofs.YtibnojbhoepcdaaGreatDoor
open Go.ChangeShapes Go.WideShapes Go.ChangeAt Go.RowKit
set_option maxRecDepth 20000 in
theorem i64_xor_nat (a b : Nat) (ha : a < 9223372036854775808) (hb : b < 9223372036854775808) :
    bits .xor .i64 (a : Int) (b : Int) = ((a ^^^ b : Nat) : Int) := by
  have hx : a ^^^ b < 2 ^ 63 := Nat.xor_lt_two_pow (by omega) (by omega)
  have h1 : (BitVec.ofInt 64 (a : Int)).toNat = a := by
    rw [BitVec.ofInt_natCast, BitVec.toNat_ofNat]; exact Nat.mod_eq_of_lt (by omega)
  have h2 : (BitVec.ofInt 64 (b : Int)).toNat = b := by
    rw [BitVec.ofInt_natCast, BitVec.toNat_ofNat]; exact Nat.mod_eq_of_lt (by omega)
  show IntKind.i64.wrap ((BitVec.ofInt 64 (a : Int) ^^^ BitVec.ofInt 64 (b : Int)).toNat : Int) = _
  rw [BitVec.toNat_xor, h1, h2]
  simp [IntKind.wrap, IntKind.bits, IntKind.signed]
  omega
set_option maxRecDepth 20000 in
theorem xor_pos {x : Int} (h0 : 0 ≤ x) (h1 : x ≤ 1000000000000) : 0 ≤ bits .xor .i64 x (x / 64) ∧ bits .xor .i64 x (x / 64) ≤ 2000000000000 := by
  obtain ⟨n, rfl⟩ := Int.eq_ofNat_of_zero_le h0
  have e : ((n : Nat) : Int) / 64 = ((n / 64 : Nat) : Int) := by omega
  rw [e, i64_xor_nat _ _ (by omega) (by omega)]
  have : n ^^^ (n / 64) < 2 ^ 40 := Nat.xor_lt_two_pow (by omega) (by omega)
  omega

/-- nothing but block rb has turned -/
structure Aside1 (rb : Nat) (w w' : World) : Prop where
  os : w'.os = w.os
  tape : w'.tape = w.tape
  output : w'.output = w.output
  size : w'.heap.size = w.heap.size
  block : ∀ k, k ≠ rb → w'.heap[k]? = w.heap[k]?
set_option maxRecDepth 20000 in
theorem Aside1.below {rb B : Nat} {w w' : World} (h : Aside1 rb w w') (hB : B ≤ rb) : Below B w w' :=
  ⟨h.os, h.tape, h.output, by have := h.size; omega, fun k hk => h.block k (by omega)⟩
set_option maxRecDepth 20000 in
theorem Aside1.cell {rb : Nat} {w w' : World} (h : Aside1 rb w w') {p : Addr} (hp : p.block ≠ rb) : w'.cell? p = w.cell? p := World.cell?_of_block (w := w) (h.block p.block hp)
set_option maxRecDepth 20000 in
theorem Aside1.frozen {rb : Nat} {w w' : World} (h : Aside1 rb w w') {p : Addr} (hp : p.block ≠ rb) : w'.frozen? p = w.frozen? p := World.frozen?_of_block (w := w) (h.block p.block hp)
set_option maxRecDepth 20000 in
theorem Aside1.trans {rb : Nat} {a b c : World} (h : Aside1 rb a b) (k : Aside1 rb b c) : Aside1 rb a c :=
  ⟨k.os.trans h.os, k.tape.trans h.tape, k.output.trans h.output, k.size.trans h.size, fun i hi => (k.block i hi).trans (h.block i hi)⟩
/-- a code: how many bytes are read of it, and which -/
structure Cd where
  len : Nat
  c : Nat → Int
/-- what is picked at place p, from 0 to n-1 -/
def Cd.pk (G : Cd) (p : Nat) (n : Int) : Int :=
  if n < 1 ∨ G.len = 0 then 0
  else if p < G.len then G.c p % n
  else bits .xor .i64 (G.c (p % G.len) * 131 + G.c ((p * 7 + 3) % G.len) * 1117 + (p : Int) * 29 + ((p / G.len : Nat) : Int) * 53) ((G.c (p % G.len) * 131 + G.c ((p * 7 + 3) % G.len) * 1117 + (p : Int) * 29 + ((p / G.len : Nat) : Int) * 53) / 64) % n
/-- a reader of the code G lies at block rb, from B on; the code's bytes lie below B; it has read p of them -/
structure Rd (G : Cd) (B rb p : Nat) (w : World) : Prop where
  le : B ≤ rb
  lt : rb < w.heap.size
  few : p ≤ 1000000
  free : w.frozen? ⟨rb, 1, none⟩ = false
  at' : w.cell? ⟨rb, 1, none⟩ = some (.int .i64 p)
  code : ∃ (a : Option Addr) (cap : Nat), G.len ≤ 2000 ∧ w.cell? ⟨rb, 0, none⟩ = some (.slice a G.len cap) ∧ (∀ i, 0 ≤ G.c i ∧ G.c i ≤ 255) ∧
    (G.len = 0 ∨ ∃ b off, a = some ⟨b, off, none⟩ ∧ b < B ∧ ∀ i, i < G.len → w.cell? ⟨b, off + i, none⟩ = some (.int .u8 (G.c i)))
set_option maxRecDepth 20000 in
theorem aside_set (rb : Nat) (w : World) (o : Nat) (v : Value) (n : Nat) : Aside1 rb w ((w.setCell ⟨rb, o, none⟩ v).drewN n) :=
  ⟨rfl, rfl, rfl, by simp [World.setCell], fun k hk => Below.heap_setCell w ⟨rb, o, none⟩ v k hk⟩
set_option maxRecDepth 20000 in
theorem cell_far {w : World} {p a : Addr} (v : Value) (h : a.block ≠ p.block) : (w.setCell p v).cell? a = w.cell? a :=
  World.cell?_of_block (w := w) (Below.heap_setCell w p v a.block h)
set_option maxRecDepth 20000 in
theorem Rd.step {G : Cd} {B rb p : Nat} {w : World} (h : Rd G B rb p w) (hp : p < 1000000) (n : Nat) : Rd G B rb (p + 1) ((w.setCell ⟨rb, 1, none⟩ (.int .i64 ((p : Int) + 1))).drewN n) := by
  obtain ⟨h1, h2, h3, h4, h5, a, cap, hl, h6, hc0, h7⟩ := h
  refine ⟨h1, by simpa [World.setCell] using h2, by omega, ?_, ?_, a, cap, hl, ?_, hc0, ?_⟩
  · rw [World.frozen?_drewN, World.frozen?_setCell]; exact h4
  · rw [World.cell?_drewN, World.cell?_setCell_same' _ _ _ (by rw [h5]; rfl)]; rfl
  · rw [World.cell?_drewN, World.cell?_setCell_other _ _ _ _ (by simp)]; exact h6
  · rcases h7 with h7 | ⟨b, off, rfl, hb, hc⟩
    · exact .inl h7
    · refine .inr ⟨b, off, rfl, hb, fun i hi => ?_⟩
      rw [World.cell?_drewN, cell_far _ (show b ≠ rb by omega)]; exact hc i hi
set_option maxRecDepth 20000 in
theorem pick_none (rb p : Nat) (n : Int) (w : World) (h1 : w.frozen? ⟨rb, 1, none⟩ = false) (h2 : w.cell? ⟨rb, 1, none⟩ = some (.int .i64 p)) (hp : p ≤ 1000000)
    (h : n < 1) :
    Calls Tryz.prog 29 #[.pointer (some ⟨rb, 0, none⟩), .int .i64 n] w fun e w' => e = .returned (.int .i64 0) ∧ w' = w.setCell ⟨rb, 1, none⟩ (.int .i64 (p + 1)) := by
  go_enter Tryz.func29, Tryz.ntmps29
  go_wp2
  go_ret
  exact ⟨rfl, rfl⟩
set_option maxRecDepth 20000 in
theorem pick_empty (rb p : Nat) (n : Int) (w : World) (a : Option Addr) (cap : Nat) (h1 : w.frozen? ⟨rb, 1, none⟩ = false) (h2 : w.cell? ⟨rb, 1, none⟩ = some (.int .i64 p)) (h3 : w.cell? ⟨rb, 0, none⟩ = some (.slice a 0 cap)) (hp : p ≤ 1000000)
    (h : 1 ≤ n) :
    Calls Tryz.prog 29 #[.pointer (some ⟨rb, 0, none⟩), .int .i64 n] w fun e w' => e = .returned (.int .i64 0) ∧ w' = w.setCell ⟨rb, 1, none⟩ (.int .i64 (p + 1)) := by
  go_enter Tryz.func29, Tryz.ntmps29
  go_wp2
  go_ret
  exact ⟨rfl, rfl⟩
set_option maxRecDepth 20000 in
theorem pick_in (rb p : Nat) (n : Int) (w : World) (b off : Nat) (len cap : Nat) (c : Int) (h1 : w.frozen? ⟨rb, 1, none⟩ = false) (h2 : w.cell? ⟨rb, 1, none⟩ = some (.int .i64 p)) (h3 : w.cell? ⟨rb, 0, none⟩ = some (.slice (some ⟨b, off, none⟩) len cap)) (hp : p ≤ 1000000)
    (hpl : p < len) (hc : w.cell? ⟨b, off + p, none⟩ = some (.int .u8 c)) (hbr : b ≠ rb) (c0 : 0 ≤ c) (c1 : c ≤ 255)
    (h : 1 ≤ n) :
    Calls Tryz.prog 29 #[.pointer (some ⟨rb, 0, none⟩), .int .i64 n] w fun e w' => e = .returned (.int .i64 (c % n)) ∧ w' = w.setCell ⟨rb, 1, none⟩ (.int .i64 (p + 1)) := by
  have hl0 : ((len : Int) == 0) = false := by simp; omega
  go_enter Tryz.func29, Tryz.ntmps29
  go_wp2
  go_ret
  exact ⟨rfl, rfl⟩
set_option maxRecDepth 20000 in
set_option maxHeartbeats 400000 in
theorem pick_past (rb p : Nat) (n : Int) (w : World) (b off : Nat) (len cap : Nat) (c1 c2 : Int) (h1 : w.frozen? ⟨rb, 1, none⟩ = false) (h2 : w.cell? ⟨rb, 1, none⟩ = some (.int .i64 p)) (h3 : w.cell? ⟨rb, 0, none⟩ = some (.slice (some ⟨b, off, none⟩) len cap)) (hp : p ≤ 1000000)
    (hlen : len ≤ 2000) (hl1 : 0 < len) (hpl : len ≤ p) (hbr : b ≠ rb) (k1 k2 q : Nat) (e1 : (p : Int).tmod (len : Int) = (k1 : Int)) (e2 : ((p : Int) * 7 + 3).tmod (len : Int) = (k2 : Int)) (e3 : (p : Int).tdiv (len : Int) = (q : Int)) (l1 : k1 < len) (l2 : k2 < len) (l3 : q ≤ 1000000)
    (hc1 : w.cell? ⟨b, off + k1, none⟩ = some (.int .u8 c1)) (a0 : 0 ≤ c1) (a1 : c1 ≤ 255) 
    (hc2 : w.cell? ⟨b, off + k2, none⟩ = some (.int .u8 c2)) (b0 : 0 ≤ c2) (b1 : c2 ≤ 255) 
    (h : 1 ≤ n) :
    Calls Tryz.prog 29 #[.pointer (some ⟨rb, 0, none⟩), .int .i64 n] w fun e w' => ∃ m, e = .returned (.int .i64 (bits .xor .i64 (c1 * 131 + c2 * 1117 + (p : Int) * 29 + (q : Int) * 53) ((c1 * 131 + c2 * 1117 + (p : Int) * 29 + (q : Int) * 53) / 64) % n)) ∧ w' = (w.setCell ⟨rb, 1, none⟩ (.int .i64 (p + 1))).drewN m := by
  have hl0 : ((len : Int) == 0) = false := by simp; omega
  have hz : (0 : Int) < (len : Int) := by omega
  have hz1 : ¬ len = 0 := by omega
  have hx := xor_pos (x := c1 * 131 + c2 * 1117 + p * 29 + q * 53) (by omega) (by omega)
  go_enter Tryz.func29, Tryz.ntmps29
  go_wp2
  go_quiet (fail)
  go_wp2
  go_ret
  exact ⟨_, rfl, rfl⟩

set_option maxRecDepth 20000 in
theorem nat_tmod (p len : Nat) : ((p : Int)).tmod (len : Int) = ((p % len : Nat) : Int) := by
  rw [Int.tmod_eq_emod_of_nonneg (by omega)]; exact (Int.natCast_emod p len).symm
set_option maxRecDepth 20000 in
theorem nat_tdiv (p len : Nat) : ((p : Int)).tdiv (len : Int) = ((p / len : Nat) : Int) := by
  rw [Int.tdiv_eq_ediv_of_nonneg (by omega)]; exact (Int.natCast_ediv p len).symm
set_option maxRecDepth 20000 in
theorem Cd.pk_bd (G : Cd) (p : Nat) (n : Int) : 0 ≤ G.pk p n ∧ (G.pk p n < n ∨ G.pk p n = 0) := by
  unfold Cd.pk
  split
  · exact ⟨by omega, .inr rfl⟩
  · split
    · exact ⟨Int.emod_nonneg _ (by omega), .inl (Int.emod_lt_of_pos _ (by omega))⟩
    · exact ⟨Int.emod_nonneg _ (by omega), .inl (Int.emod_lt_of_pos _ (by omega))⟩
set_option maxRecDepth 20000 in
/-- a pick from a code: its value is that plain function; the reader is one further; nothing else has turned -/
theorem pick_any {G : Cd} (B rb p : Nat) (n : Int) (w : World) (h : Rd G B rb p w) (hp : p < 1000000) :
    Calls Tryz.prog 29 #[.pointer (some ⟨rb, 0, none⟩), .int .i64 n] w fun e w' => e = .returned (.int .i64 (G.pk p n)) ∧ (0 ≤ G.pk p n ∧ (G.pk p n < n ∨ G.pk p n = 0)) ∧ Rd G B rb (p + 1) w' ∧ Aside1 rb w w' := by
  have hr := h
  obtain ⟨h1, h2, h3, h4, h5, a, cap, hl, h6, hc0, h7⟩ := h
  have hb := G.pk_bd p n
  have fin0 : ∀ (k : Int) (m : Nat), k = G.pk p n → Ending.returned (.int .i64 k) = .returned (.int .i64 (G.pk p n)) ∧ (0 ≤ G.pk p n ∧ (G.pk p n < n ∨ G.pk p n = 0)) ∧ Rd G B rb (p + 1) ((w.setCell ⟨rb, 1, none⟩ (.int .i64 ((p : Int) + 1))).drewN m) ∧ Aside1 rb w ((w.setCell ⟨rb, 1, none⟩ (.int .i64 ((p : Int) + 1))).drewN m) :=
    fun k m e => ⟨by rw [e], hb, hr.step hp m, aside_set rb w 1 _ m⟩
  by_cases hn : n < 1
  · refine (pick_none rb p n w h4 h5 (by omega) hn).mono ?_
    rintro e w' ⟨rfl, rfl⟩
    exact fin0 0 0 (by unfold Cd.pk; rw [if_pos (.inl hn)])
  · by_cases hz : G.len = 0
    · rw [hz] at h6
      refine (pick_empty rb p n w a cap h4 h5 h6 (by omega) (by omega)).mono ?_
      rintro e w' ⟨rfl, rfl⟩
      exact fin0 0 0 (by unfold Cd.pk; rw [if_pos (.inr hz)])
    · rcases h7 with h7 | ⟨b, off, rfl, hbb, hc⟩
      · exact absurd h7 hz
      · by_cases hlt : p < G.len
        · refine (pick_in rb p n w b off G.len cap (G.c p) h4 h5 h6 (by omega) hlt (hc p hlt) (by omega) (hc0 p).1 (hc0 p).2 (by omega)).mono ?_
          rintro e w' ⟨rfl, rfl⟩
          exact fin0 _ 0 (by unfold Cd.pk; rw [if_neg (by omega), if_pos hlt])
        · have l1 := Nat.mod_lt p (by omega : 0 < G.len)
          have l2 := Nat.mod_lt (p * 7 + 3) (by omega : 0 < G.len)
          have l3 := Nat.div_le_self p G.len
          refine (pick_past rb p n w b off G.len cap _ _ h4 h5 h6 (by omega) hl (by omega) (by omega) (by omega) (p % G.len) ((p * 7 + 3) % G.len) (p / G.len) (nat_tmod _ _) (nat_tmod (p * 7 + 3) G.len) (nat_tdiv _ _) l1 l2 (by omega) (hc _ l1) (hc0 _).1 (hc0 _).2 (hc _ l2) (hc0 _).1 (hc0 _).2 (by omega)).mono ?_
          rintro e w' ⟨m, rfl, rfl⟩
          exact fin0 _ m (by unfold Cd.pk; rw [if_neg (by omega), if_neg hlt])
end Go.Proofs.YtibnojbhoepcdaaGreatDoor
/- A code is opened: the reader lies in new memory. -/
namespace Go.Proofs.YtibnojbhoepcdaaGreatDoor
open Go.ChangeShapes Go.WideShapes Go.ChangeAt Go.RowKit
/-- the bytes of a code that came in, below B -/
def Bytes (B : Nat) (w : World) (a : Option Addr) (len : Nat) : Prop :=
  ∃ f : Nat → Int, (∀ i, 0 ≤ f i ∧ f i ≤ 255) ∧ (len = 0 ∨ ∃ b off, a = some ⟨b, off, none⟩ ∧ b < B ∧ ∀ i, i < len → w.cell? ⟨b, off + i, none⟩ = some (.int .u8 (f i)))
/-- of what was there, nothing but block rb has turned -/
structure Off (rb : Nat) (w w' : World) : Prop where
  os : w'.os = w.os
  tape : w'.tape = w.tape
  output : w'.output = w.output
  size : w.heap.size ≤ w'.heap.size
  block : ∀ k, k < w.heap.size → k ≠ rb → w'.heap[k]? = w.heap[k]?
set_option maxRecDepth 20000 in
theorem Off.refl (rb : Nat) (w : World) : Off rb w w := ⟨rfl, rfl, rfl, Nat.le_refl _, fun _ _ _ => rfl⟩
set_option maxRecDepth 20000 in
theorem Off.trans {rb : Nat} {a b c : World} (h : Off rb a b) (k : Off rb b c) : Off rb a c :=
  ⟨k.os.trans h.os, k.tape.trans h.tape, k.output.trans h.output, Nat.le_trans h.size k.size, fun i hi hn => (k.block i (by have := h.size; omega) hn).trans (h.block i hi hn)⟩
set_option maxRecDepth 20000 in
theorem Aside1.off {rb : Nat} {w w' : World} (h : Aside1 rb w w') : Off rb w w' := ⟨h.os, h.tape, h.output, by rw [h.size]; exact Nat.le_refl _, fun k _ hn => h.block k hn⟩
set_option maxRecDepth 20000 in
theorem Off.alloc {rb : Nat} {a b : World} (h : Off rb a b) (o : Obj) : Off rb a (b.alloc o) :=
  h.trans ⟨rfl, rfl, rfl, by simp, fun k hk _ => Below.heap_alloc _ _ _ hk⟩
set_option maxRecDepth 20000 in
theorem Off.below {rb B : Nat} {w w' : World} (h : Off rb w w') (hB : B ≤ rb) (hs : B ≤ w.heap.size) : Below B w w' :=
  ⟨h.os, h.tape, h.output, h.size, fun k hk => h.block k (by omega) (by omega)⟩
set_option maxRecDepth 20000 in
theorem Off.cell {rb : Nat} {w w' : World} (h : Off rb w w') {p : Addr} (hp : p.block < w.heap.size) (hn : p.block ≠ rb) : w'.cell? p = w.cell? p := World.cell?_of_block (w := w) (h.block p.block hp hn)
set_option maxRecDepth 20000 in
theorem Off.frozen {rb : Nat} {w w' : World} (h : Off rb w w') {p : Addr} (hp : p.block < w.heap.size) (hn : p.block ≠ rb) : w'.frozen? p = w.frozen? p := World.frozen?_of_block (w := w) (h.block p.block hp hn)
set_option maxRecDepth 20000 in
theorem Rd.alloc {G : Cd} {B rb p : Nat} {w : World} (h : Rd G B rb p w) (o : Obj) : Rd G B rb p (w.alloc o) := by
  obtain ⟨h1, h2, h3, h4, h5, a, cap, hl, h6, hc0, h7⟩ := h
  have hc : ∀ x : Addr, x.block < w.heap.size → (w.alloc o).cell? x = w.cell? x := fun x hx => World.cell?_of_block (w := w) (Below.heap_alloc w o x.block hx)
  refine ⟨h1, by simp; omega, h3, ?_, ?_, a, cap, hl, ?_, hc0, ?_⟩
  · exact (World.frozen?_of_block (w := w) (Below.heap_alloc w o rb h2)).trans h4
  · rw [hc _ h2]; exact h5
  · rw [hc _ h2]; exact h6
  · rcases h7 with h7 | ⟨b, off, rfl, hb, hcc⟩
    · exact .inl h7
    · refine .inr ⟨b, off, rfl, hb, fun i hi => ?_⟩
      rw [hc _ (show b < w.heap.size by omega)]; exact hcc i hi
set_option maxRecDepth 20000 in
theorem Bytes.below {B B' : Nat} {w w' : World} {a : Option Addr} {len : Nat} (h : Bytes B w a len) (hb : Below B' w w') (hB : B ≤ B') : Bytes B w' a len := by
  obtain ⟨f, hf, h⟩ := h
  refine ⟨f, hf, ?_⟩
  rcases h with h | ⟨b, off, rfl, hbb, hc⟩
  · exact .inl h
  · refine .inr ⟨b, off, rfl, hbb, fun i hi => ?_⟩
    rw [hb.cell (p := ⟨b, off + i, none⟩) (show b < B' by omega)]; exact hc i hi
set_option maxRecDepth 20000 in
theorem Bytes.take {B : Nat} {w : World} {a : Option Addr} {len n : Nat} (h : Bytes B w a len) (hn : n ≤ len) : Bytes B w a n := by
  obtain ⟨f, hf, h⟩ := h
  refine ⟨f, hf, ?_⟩
  rcases h with h | ⟨b, off, rfl, hbb, hc⟩
  · exact .inl (by omega)
  · exact .inr ⟨b, off, rfl, hbb, fun i hi => hc i (by omega)⟩
set_option maxRecDepth 20000 in
theorem rd_new (B : Nat) (a : Option Addr) (len cap : Nat) (w : World) (hB : B ≤ w.heap.size) (h : Bytes B w a len) (hl : len ≤ 2000) :
    ∃ G, Rd G B w.heap.size 0 (w.alloc (.cells #[.slice a len cap, .int .i64 0] 74)) := by
  have hb : Below B w (w.alloc (.cells #[.slice a len cap, .int .i64 0] 74)) := (Below.refl _ _).alloc hB _
  obtain ⟨f, hf, h2⟩ := h.below hb (Nat.le_refl _)
  exact ⟨⟨len, f⟩, hB, by simp, by omega, by simp [go_sem], by simp, a, cap, hl, by simp, hf, h2⟩
set_option maxRecDepth 20000 in
theorem open_any (B : Nat) (a : Option Addr) (len cap : Nat) (w : World) (hB : B ≤ w.heap.size) (h : Bytes B w a len) (hl : len ≤ cap) :
    Calls Tryz.prog 28 #[.slice a len cap] w fun e w' => e = .returned (.pointer (some ⟨w.heap.size, 0, none⟩)) ∧ (∃ G, Rd G B w.heap.size 0 w') ∧ Below w.heap.size w w' ∧ w'.heap.size = w.heap.size + 1 := by
  by_cases hlen : 2000 < len
  · go_enter Tryz.func28, Tryz.ntmps28
    go_wp2
    go_ret
    exact ⟨rfl, rd_new B a 2000 cap w hB (h.take (by omega)) (by omega), (Below.refl _ _).alloc (Nat.le_refl _) _, by simp⟩
  · go_enter Tryz.func28, Tryz.ntmps28
    go_wp2
    go_ret
    exact ⟨rfl, rd_new B a len cap w hB h (by omega), (Below.refl _ _).alloc (Nat.le_refl _) _, by simp⟩
end Go.Proofs.YtibnojbhoepcdaaGreatDoor
/- What the reading of a code that came in gives the walks: its bytes lie in memory that was there before. -/
namespace Go.Proofs.YtibnojbhoepcdaaGreatDoor
open Go.ChangeShapes Go.WideShapes Go.ChangeAt Go.RowKit

theorem own : ownKnob Tryz.prog.godebug = none := by kernel_rfl
theorem laidOut : laidOutB Tryz.prog = true := by kernel_rfl

/-- a slice of integers that came in: nil, or a row of 'cap' cells -/
def IsRow (k : IntKind) (w : World) (a : Option Addr) (len cap : Nat) (zs : List Int) : Prop :=
  (a = none ∧ len = 0 ∧ cap = 0 ∧ zs = []) ∨
  ∃ x, a = some x ∧ len ≤ cap ∧ cap ≤ maxLen ∧ zs.length = cap ∧ (∀ i, i < zs.length → w.cell? (x.add i) = some (.int k (zs.getD i 0))) ∧ ∀ n ∈ zs, (Lit.int k n).wf = true

theorem bytes_of_row {w : World} {a : Option Addr} {len cap : Nat} {zs : List Int} (h : IsRow .u8 w a len cap zs) :
    Bytes w.heap.size w a len ∧ len ≤ cap := by
  rcases h with ⟨rfl, rfl, rfl, rfl⟩ | ⟨x, rfl, hl, hm, hz, hcell, hwz⟩
  · exact ⟨⟨fun _ => 0, fun _ => (show (0 : Int) ≤ 0 ∧ (0 : Int) ≤ 255 by omega), .inl rfl⟩, by omega⟩
  · refine ⟨?_, hl⟩
    have hbd : ∀ i, 0 ≤ zs.getD i 0 ∧ zs.getD i 0 ≤ 255 := fun i => by
      by_cases hi : i < zs.length
      · have hin : zs.getD i 0 ∈ zs := by
          rw [List.getD_eq_getElem?_getD, List.getElem?_eq_getElem hi]
          exact List.getElem_mem hi
        have hw := hwz _ hin
        simpa [Lit.wf, IntKind.min, IntKind.max, IntKind.signed, IntKind.bits] using hw
      · rw [List.getD_eq_getElem?_getD, List.getElem?_eq_none (by omega)]
        exact ⟨by simp, by simp⟩
    refine ⟨fun i => zs.getD i 0, hbd, ?_⟩
    by_cases h0 : len = 0
    · exact .inl h0
    · obtain ⟨b, off, spot⟩ := x
      have hc := hcell 0 (by omega)
      have hspot : spot = none := by simpa [Addr.add] using World.cell?_spot hc
      subst hspot
      have hb : b < w.heap.size := by
        have := World.block_lt_of_cell? _ _ hc
        simpa [Addr.add] using this
      refine .inr ⟨b, off, rfl, hb, fun i hi => ?_⟩
      have hci := hcell i (by omega)
      rw [← hci]; cases i <;> rfl
theorem len_of_row {k : IntKind} {w : World} {a : Option Addr} {len cap : Nat} {zs : List Int} (h : IsRow k w a len cap zs) : len ≤ maxLen := by
  rcases h with ⟨rfl, rfl, rfl, rfl⟩ | ⟨x, rfl, hl, hm, _⟩ <;> omega
end Go.Proofs.YtibnojbhoepcdaaGreatDoor
