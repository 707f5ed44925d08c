/- Registers of lists, and what they tell: the program's tables. -/
import Derived.Test.YtibnojbhoepcdaaDoorPut
namespace Go.Proofs.YtibnojbhoepcdaaDoor
open Go.ChangeShapes Go.WideShapes Go.ChangeAt Go.RowKit
attribute [local go_sem ↓] Go.wp_at_zero Go.wp_at_succ
/-- a list of facts -/
def seqF (F : Nat → Fc) (n : Nat) : List Fc := (List.range n).map F
set_option maxRecDepth 20000 in
theorem seqF_succ (F : Nat → Fc) (n : Nat) : seqF F (n + 1) = seqF F n ++ [F n] := by simp [seqF, List.range_succ]
set_option maxRecDepth 20000 in
theorem seqF_len (F : Nat → Fc) (n : Nat) : (seqF F n).length = n := by simp [seqF]
set_option maxRecDepth 20000 in
theorem seqF_mem {F : Nat → Fc} {n : Nat} {f : Fc} (h : f ∈ seqF F n) : ∃ k, k < n ∧ F k = f := by
  obtain ⟨k, hk, rfl⟩ := List.mem_map.1 h
  exact ⟨k, by simpa using hk, rfl⟩
set_option maxRecDepth 20000 in
theorem asc_mono {F : Nat → Fc} {len : Nat} (h : ∀ k, k < len → 0 < k → (F (k - 1)).n < (F k).n) : ∀ j k, j < k → k < len → (F j).n < (F k).n
  | j, 0, h1, _ => by omega
  | j, k + 1, h1, h2 => by
    have e := h (k + 1) h2 (by omega)
    simp at e
    rcases Nat.lt_or_ge j k with h3 | h3
    · have := asc_mono h j k h3 (by omega); omega
    · obtain rfl : j = k := by omega
      exact e
set_option maxRecDepth 20000 in
theorem tok_all {len : Nat} {F : Nat → Fc} (h : tokB len F = true) : (∀ k, k < len → fok (F k) = true) ∧ ∀ j k, j < k → k < len → (F j).n < (F k).n := by
  unfold tokB at h
  rw [Bool.and_eq_true] at h
  exact ⟨fun k hk => (of_decide_eq_true h.1) k hk, asc_mono (of_decide_eq_true h.2)⟩
set_option maxRecDepth 20000 in
theorem seqF_asc {F : Nat → Fc} {len : Nat} (h : ∀ j k, j < k → k < len → (F j).n < (F k).n) : ∀ n, n ≤ len → Asc (seqF F n)
  | 0, _ => List.Pairwise.nil
  | n + 1, hn => by
    rw [seqF_succ]
    unfold Asc
    rw [List.pairwise_append]
    refine ⟨seqF_asc h n (by omega), List.pairwise_singleton _ _, fun a ha b hb => ?_⟩
    obtain ⟨k, hk, rfl⟩ := seqF_mem ha
    simp at hb
    subst hb
    exact h k n hk (by omega)
set_option maxRecDepth 20000 in
theorem tput_last : ∀ {T : List Fc} {f : Fc}, (∀ g ∈ T, g.n < f.n) → tput T f = T ++ [f]
  | [], _, _ => rfl
  | g :: r, f, h => by
    unfold tput
    rw [if_pos (h g (by simp)), tput_last (fun x hx => h x (by simp [hx]))]
    rfl
set_option maxRecDepth 20000 in
theorem seqF_put {F : Nat → Fc} {len n : Nat} (h : ∀ j k, j < k → k < len → (F j).n < (F k).n) (hn : n < len) : tput (seqF F n) (F n) = seqF F (n + 1) := by
  rw [seqF_succ, tput_last]
  intro g hg
  obtain ⟨k, hk, rfl⟩ := seqF_mem hg
  exact h k n hk hn
set_option maxRecDepth 20000 in
theorem tok_len {len : Nat} {F : Nat → Fc} (h : tokB len F = true) : len ≤ 8 := by
  obtain ⟨h1, h2⟩ := tok_all h
  rcases asc_short (seqF F len) 0 (seqF_asc h2 len (Nat.le_refl _)) (fun g hg => by obtain ⟨k, hk, rfl⟩ := seqF_mem hg; have := h1 k hk; unfold fok fokB inb at this; simp at this; omega) with h | h
  · rw [seqF_len] at h; omega
  · have := congrArg List.length h; rw [seqF_len] at this; simp at this; omega
/-- the facts as cells -/
def fl (T : List Fc) : List Value := T.flatMap fun f => [.int .i64 f.n, .int .i64 f.i, .int .i64 f.s, .bool f.g]
set_option maxRecDepth 20000 in
theorem fl_len (T : List Fc) : (fl T).length = T.length * 4 := by
  induction T with
  | nil => rfl
  | cons f r ih => simp [fl] at *; omega
set_option maxRecDepth 20000 in
theorem fl_snoc (T : List Fc) (f : Fc) : fl (T ++ [f]) = fl T ++ [.int .i64 f.n, .int .i64 f.i, .int .i64 f.s, .bool f.g] := by simp [fl]
set_option maxRecDepth 20000 in
theorem fl_append (T T' : List Fc) : fl (T ++ T') = fl T ++ fl T' := by simp [fl]
set_option maxRecDepth 20000 in
theorem fl_get (T : List Fc) : ∀ k, k < T.length → (fl T)[k * 4]? = some (.int .i64 (T.getD k Fc.zero).n) ∧ (fl T)[k * 4 + 1]? = some (.int .i64 (T.getD k Fc.zero).i) ∧ (fl T)[k * 4 + 2]? = some (.int .i64 (T.getD k Fc.zero).s) ∧ (fl T)[k * 4 + 3]? = some (.bool (T.getD k Fc.zero).g) := by
  induction T with
  | nil => intro k hk; simp at hk
  | cons f r ih =>
    intro k hk
    have e : fl (f :: r) = [.int .i64 f.n, .int .i64 f.i, .int .i64 f.s, .bool f.g] ++ fl r := by simp [fl]
    rw [e]
    match k, hk with
    | 0, _ => simp
    | k + 1, hk =>
      have := ih k (by simpa using hk)
      rw [show (k + 1) * 4 = k * 4 + 4 by omega]
      simpa [List.getElem?_append] using this
set_option maxRecDepth 20000 in
/-- a list of its own, as the laws read it -/
theorem own_facts {w : World} {base : Nat} {v : Value} {n : Nat} {T : List Fc} (h : w.ownsRow base 53 4 v n (fl T)) : ∃ a cap, v = .slice a n cap ∧ n ≤ cap ∧ T.length = n ∧ FSl w a n (fun k => T.getD k Fc.zero) := by
  have h0 := h
  have hl : T.length = n := by have := h.1; rw [fl_len] at this; omega
  rcases h.2 with ⟨rfl, rfl⟩ | ⟨g, cap, cur, rfl, hg, hh, hc, _⟩
  · exact ⟨none, 0, rfl, Nat.le_refl _, hl, fun h => by omega⟩
  · refine ⟨_, cap, rfl, hc, hl, fun _ => ⟨g, 0, rfl, lt_of_block hh, fun k hk => ?_⟩⟩
    obtain ⟨e0, e1, e2, e3⟩ := fl_get T k (by omega)
    simp only [Nat.zero_add]
    exact ⟨(h0.cellAt _ (by omega)).trans e0, (h0.cellAt _ (by omega)).trans e1, (h0.cellAt _ (by omega)).trans e2, (h0.cellAt _ (by omega)).trans e3⟩
end Go.Proofs.YtibnojbhoepcdaaDoor
