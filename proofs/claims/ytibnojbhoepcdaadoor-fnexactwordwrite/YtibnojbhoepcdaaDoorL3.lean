/- A fact more, the model's way: one of a node that was not known. -/
import Derived.Test.YtibnojbhoepcdaaDoorOf
import Derived.Laws.AppendOwn
namespace Go.Proofs.YtibnojbhoepcdaaDoor
open Go.ChangeShapes Go.WideShapes Go.ChangeAt Go.RowKit
attribute [local go_sem ↓] Go.wp_at_zero Go.wp_at_succ
set_option maxRecDepth 20000 in
theorem facts_cell {w : World} {b off n : Nat} {T : List Fc} (h : FactsIn w b off n (fun k => T.getD k Fc.zero)) (hl : T.length = n) : ∀ j u, (fl T)[j]? = some u → w.cell? ((⟨b, off, none⟩ : Addr).add j) = some u := by
  intro j u hj
  have e : (⟨b, off, none⟩ : Addr).add j = ⟨b, off + j, none⟩ := by unfold Addr.add; split <;> simp_all
  rw [e]
  have hlt : j < n * 4 := by
    have := (List.getElem?_eq_some_iff.1 hj).1
    rw [fl_len] at this
    omega
  obtain ⟨h0, h1, h2, h3⟩ := h (j / 4) (by omega)
  obtain ⟨e0, e1, e2, e3⟩ := fl_get T (j / 4) (by omega)
  have : j % 4 = 0 ∨ j % 4 = 1 ∨ j % 4 = 2 ∨ j % 4 = 3 := by omega
  rcases this with hr | hr | hr | hr
  · rw [show j / 4 * 4 = j by omega] at e0 h0
    rw [e0] at hj
    rw [h0, ← hj]
  · rw [show off + j / 4 * 4 + 1 = off + j by omega] at h1
    rw [show j / 4 * 4 + 1 = j by omega] at e1
    rw [e1] at hj
    rw [h1, ← hj]
  · rw [show off + j / 4 * 4 + 2 = off + j by omega] at h2
    rw [show j / 4 * 4 + 2 = j by omega] at e2
    rw [e2] at hj
    rw [h2, ← hj]
  · rw [show off + j / 4 * 4 + 3 = off + j by omega] at h3
    rw [show j / 4 * 4 + 3 = j by omega] at e3
    rw [e3] at hj
    rw [h3, ← hj]
set_option maxRecDepth 20000 in
theorem fl_one {T : List Fc} : ∀ u ∈ fl T, u.oneCell' = true := by
  intro u hu
  obtain ⟨f, _, hf⟩ := List.mem_flatMap.1 hu
  simp at hf
  rcases hf with rfl | rfl | rfl | rfl <;> rfl
set_option maxRecDepth 20000 in
theorem own_sliceF {w : World} {base n : Nat} {v : Value} {xs : List Value} (h : w.ownsRow base 53 4 v n xs) : (v = .slice none 0 0 ∧ n = 0) ∨ ∃ g cap, v = .slice (some ⟨g, 0, none⟩) n cap ∧ base ≤ g ∧ g < w.heap.size ∧ n ≤ cap := by
  rcases h.2 with ⟨rfl, hn⟩ | ⟨g, cap, cur, rfl, hg, hh, hc, _⟩
  · exact .inl ⟨rfl, hn⟩
  · exact .inr ⟨g, cap, rfl, hg, lt_of_block hh, hc⟩
set_option maxRecDepth 20000 in
theorem step_appF {w : World} {ops : Array Oper} {o : Oper} {a : Act} {K : Act → World → Prop} {Q : Exit → Act → World → Prop} {E : Prop} (hgd : o.guard = none) (s x : Operand)
    (ho : o.op = .call { callee := .builtin .append, args := #[s, x], argTypes := #[30, 30] })
    (base : Nat) (v : Value) (n : Nat) (T : List Fc) (hs : a.eval s = v) (hv : v ≠ .slice none 0 0) (hown : w.ownsRow base 53 4 v n (fl T))
    (ao : Option Addr) (g o' : Nat) (hao : ao = some ⟨g, o', none⟩) (m c : Nat) (T' : List Fc) (hx : a.eval x = .slice ao m c) (hl : T'.length = m)
    (hnews : FactsIn w g o' m (fun k => T'.getD k Fc.zero)) (nm : Nat) (hnm : n + m = nm) (hn : nm ≤ 2000000) (hbase : base ≤ w.heap.size)
    (h : ∀ g' cap' w', w'.ownsRow base 53 4 (.slice (some ⟨g', 0, none⟩) nm cap') nm (fl (T ++ T')) → w.grownBy w' v.ownBlock → nm ≤ cap' → K (a.put o.dst (.slice (some ⟨g', 0, none⟩) nm cap')) w') :
    if Region.wanted o (yielded ops a.tmps) = true then Oper.wp Tryd.prog o a w K Q else E := by
  have hw : Region.wanted o (yielded ops a.tmps) = true := by simp [Region.wanted, hgd]
  rw [if_pos hw]
  subst hao hnm
  obtain ⟨ti, hi, hz0, hz1, hz2⟩ := info_parts info24
  refine wp_append_own w s x 30 ho base 53 ti (fval Fc.zero) 4 32 Tryd.underlying30 hi hz0 hz1 hz2 rfl (by decide) v n (fl T) hs hown ⟨g, o', none⟩ m c (fl T') hx (by rw [fl_len, hl]) (facts_cell hnews hl) fl_one (by unfold maxLen; omega) (by omega) hbase (fun v' w' h1 h2 h3 => ?_)
  rw [← fl_append] at h1
  rcases own_sliceF h1 with ⟨e, _⟩ | ⟨g', cap', rfl, _, _, hc⟩
  · exact absurd (h3.1 e).1 hv
  · exact h g' cap' w' h1 h2 hc
set_option maxRecDepth 20000 in
theorem QB1 {a w : World} {B : Nat} (h : Below B a w) : Below B a w.drew := ⟨h.os, h.tape, h.output, h.size, h.block⟩
set_option maxRecDepth 20000 in
theorem facts_take {w : World} {b off len k : Nat} {F : Nat → Fc} (h : FactsIn w b off len F) (hk : k ≤ len) : FactsIn w b off k (fun j => ((seqF F len).take k).getD j Fc.zero) := fun j hj => by
  have e : ((seqF F len).take k).getD j Fc.zero = F j := by simp [List.getD, hj, seqF, show j < len by omega]
  simp only [e]
  exact h j (by omega)
set_option maxRecDepth 20000 in
theorem facts_drop {w : World} {b off len k : Nat} {F : Nat → Fc} (h : FactsIn w b off len F) (hk : k ≤ len) : FactsIn w b (off + k * 4) (len - k) (fun j => ((seqF F len).drop k).getD j Fc.zero) := fun j hj => by
  have e : ((seqF F len).drop k).getD j Fc.zero = F (k + j) := by simp [List.getD, List.getElem?_drop, seqF, show k + j < len by omega]
  simp only [e]
  have := h (k + j) (by omega)
  rw [show off + k * 4 + j * 4 = off + (k + j) * 4 by omega]
  exact this
set_option maxRecDepth 20000 in
theorem FactsIn.grown {w w' : World} {r : Option Nat} {b off len : Nat} {F : Nat → Fc} (h : FactsIn w b off len F) (hg : w.grownBy w' r) (hb : some b ≠ r) : FactsIn w' b off len F := fun k hk => by
  obtain ⟨h0, h1, h2, h3⟩ := h k hk
  exact ⟨hg.cell h0 hb, hg.cell h1 hb, hg.cell h2 hb, hg.cell h3 hb⟩
set_option maxRecDepth 20000 in
theorem tput_at {T : List Fc} {f : Fc} : ∀ (k : Nat), k ≤ T.length → (∀ j, j < k → (T.getD j Fc.zero).n < f.n) → (k < T.length → f.n < (T.getD k Fc.zero).n) → tput T f = T.take k ++ [f] ++ T.drop k := by
  induction T with
  | nil => intro k hk _ _; obtain rfl : k = 0 := by simpa using hk
           rfl
  | cons g r ih =>
    intro k hk h1 h2
    match k, hk, h1, h2 with
    | 0, _, _, h2 =>
      have := h2 (by simp)
      simp at this
      unfold tput
      rw [if_neg (by omega), if_neg (by omega)]
      rfl
    | k + 1, hk, h1, h2 =>
      have := h1 0 (by omega)
      simp at this
      unfold tput
      rw [if_pos this, ih k (by simpa using hk) (fun j hj => by have := h1 (j + 1) (by omega); simpa using this) (fun h => by have := h2 (by simpa using h); simpa using this)]
      rfl
set_option maxRecDepth 20000 in
theorem new_one (V : World) (f : Fc) : FactsIn (V.alloc (.cells #[.int .i64 f.n, .int .i64 f.i, .int .i64 f.s, .bool f.g] 53)) V.heap.size 0 1 (fun j => [f].getD j Fc.zero) := fun j hj => by
  obtain rfl : j = 0 := by omega
  exact ⟨by simp [go_sem], by simp [go_sem], by simp [go_sem], by simp [go_sem]⟩
set_option maxRecDepth 20000 in
theorem facts_lt {w : World} {b off n : Nat} {F : Nat → Fc} (h : FactsIn w b off (n + 1) F) : b < w.heap.size := World.block_lt_of_cell? w _ (h 0 (by omega)).1
set_option maxRecDepth 20000 in
theorem FactsIn.alloc {w : World} {b off len : Nat} {F : Nat → Fc} (h : FactsIn w b off len F) (o : Obj) : FactsIn (w.alloc o) b off len F := fun k hk => by
  obtain ⟨h0, h1, h2, h3⟩ := h k hk
  exact ⟨keep_alloc o h0, keep_alloc o h1, keep_alloc o h2, keep_alloc o h3⟩
set_option maxRecDepth 20000 in
theorem seqF_getD (F : Nat → Fc) {len k : Nat} (h : k < len) : (seqF F len).getD k Fc.zero = F k := by simp [List.getD, seqF, h]
end Go.Proofs.YtibnojbhoepcdaaDoor
