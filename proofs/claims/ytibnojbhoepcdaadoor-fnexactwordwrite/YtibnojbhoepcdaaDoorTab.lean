/- Tables as lists: a fact more; what is there of a node. -/
import Derived.Test.YtibnojbhoepcdaaDoorGates
namespace Go.Proofs.YtibnojbhoepcdaaDoor
/-- a fact overrides another one of its node -/
def ovr (f g : Fc) : Bool := l3B f.i f.s f.g g.i g.s g.g
/-- ascending by nodes -/
def Asc (T : List Fc) : Prop := T.Pairwise fun f g => f.n < g.n
def fok (f : Fc) : Bool := fokB f.n f.i f.s
/-- a table with a fact more -/
def tput : List Fc → Fc → List Fc
  | [], f => [f]
  | g :: r, f => if g.n < f.n then g :: tput r f else if g.n = f.n then (if ovr f g then f :: r else g :: r) else f :: g :: r
def tget (T : List Fc) (k : Int) : Option Fc := T.find? fun g => decide (g.n = k)
/-- whether that says anything new -/
def tnew (T : List Fc) (f : Fc) : Bool := match tget T f.n with
  | some g => ovr f g
  | none => true
theorem tget_cons (g : Fc) (r : List Fc) (k : Int) : tget (g :: r) k = if g.n = k then some g else tget r k := by
  unfold tget
  rw [List.find?_cons]
  by_cases h : g.n = k <;> simp [h]
theorem tget_mem {T : List Fc} {k : Int} {g : Fc} (h : tget T k = some g) : g ∈ T ∧ g.n = k := by
  have h1 := List.mem_of_find?_eq_some h
  have h2 := List.find?_some h
  exact ⟨h1, by simpa using h2⟩
theorem tget_none {T : List Fc} {k : Int} (h : tget T k = none) : ∀ g ∈ T, g.n ≠ k := by
  intro g hg
  have := List.find?_eq_none.1 h g hg
  simpa using this
theorem tget_low {r : List Fc} {k : Int} (h : ∀ g ∈ r, k < g.n) : tget r k = none := by
  unfold tget
  rw [List.find?_eq_none]
  intro g hg
  have := h g hg
  simp
  omega
theorem asc_cons {g : Fc} {r : List Fc} : Asc (g :: r) ↔ (∀ x ∈ r, g.n < x.n) ∧ Asc r := List.pairwise_cons
theorem tput_mem {T : List Fc} {f x : Fc} (h : x ∈ tput T f) : x = f ∨ x ∈ T := by
  induction T with
  | nil => simp [tput] at h; exact .inl h
  | cons g r ih =>
    unfold tput at h
    split at h
    · rcases List.mem_cons.1 h with h | h
      · exact .inr (by simp [h])
      · exact (ih h).imp id (fun h => List.mem_cons_of_mem _ h)
    · split at h
      · split at h
        · rcases List.mem_cons.1 h with h | h
          · exact .inl h
          · exact .inr (List.mem_cons_of_mem _ h)
        · exact .inr h
      · rcases List.mem_cons.1 h with h | h
        · exact .inl h
        · exact .inr h
theorem tput_asc {T : List Fc} {f : Fc} (h : Asc T) : Asc (tput T f) := by
  induction T with
  | nil => simp [tput, Asc]
  | cons g r ih =>
    obtain ⟨h1, h2⟩ := asc_cons.1 h
    unfold tput
    split
    · rename_i hlt
      refine asc_cons.2 ⟨fun x hx => ?_, ih h2⟩
      rcases tput_mem hx with rfl | hx
      · exact hlt
      · exact h1 x hx
    · split
      · rename_i heq
        split
        · exact asc_cons.2 ⟨fun x hx => by have := h1 x hx; omega, h2⟩
        · exact h
      · refine asc_cons.2 ⟨fun x hx => ?_, h⟩
        rcases List.mem_cons.1 hx with rfl | hx
        · omega
        · have := h1 x hx; omega
theorem tget_tput {T : List Fc} {f : Fc} (h : Asc T) (k : Int) : tget (tput T f) k = if k = f.n ∧ tnew T f = true then some f else tget T k := by
  induction T with
  | nil =>
    have e0 : tnew [] f = true := rfl
    rw [e0, show tput [] f = [f] from rfl, tget_cons]
    by_cases e : f.n = k
    · rw [if_pos e, if_pos ⟨e.symm, rfl⟩]
    · rw [if_neg e, if_neg (fun h => e h.1.symm)]
  | cons g r ih =>
    obtain ⟨h1, h2⟩ := asc_cons.1 h
    unfold tput
    split
    · rename_i hlt
      have e : tnew (g :: r) f = tnew r f := by
        unfold tnew
        rw [tget_cons, if_neg (by omega)]
      rw [tget_cons, ih h2, e, tget_cons]
      by_cases hk : g.n = k
      · rw [if_pos hk, if_pos hk, if_neg (by omega)]
      · rw [if_neg hk, if_neg hk]
    · rename_i hnl
      split
      · rename_i heq
        have e : tnew (g :: r) f = ovr f g := by
          unfold tnew
          rw [tget_cons, if_pos heq]
        rw [e]
        split
        · rename_i ho
          rw [tget_cons, tget_cons]
          by_cases hk : f.n = k
          · rw [if_pos hk, if_pos ⟨hk.symm, ho⟩]
          · rw [if_neg hk, if_neg (fun h => hk h.1.symm), if_neg (by omega)]
        · rename_i ho
          rw [if_neg (fun h => ho h.2)]
      · rename_i hne
        have e : tnew (g :: r) f = true := by
          unfold tnew
          rw [tget_cons, if_neg hne, tget_low (fun x hx => by have := h1 x hx; omega)]
        rw [e, tget_cons]
        by_cases hk : f.n = k
        · rw [if_pos hk, if_pos ⟨hk.symm, rfl⟩]
        · rw [if_neg hk, if_neg (fun h => hk h.1.symm)]
theorem tput_old {T : List Fc} {f g : Fc} (h : Asc T) (hg : tget T f.n = some g) : (tput T f).map (·.n) = T.map (·.n) := by
  induction T with
  | nil => simp [tget] at hg
  | cons x r ih =>
    obtain ⟨h1, h2⟩ := asc_cons.1 h
    rw [tget_cons] at hg
    unfold tput
    split
    · rename_i hlt
      rw [if_neg (by omega)] at hg
      simp [ih h2 hg]
    · rename_i hnl
      split
      · rename_i heq
        split
        · simp [heq]
        · rfl
      · rename_i hne
        rw [if_neg hne] at hg
        have := tget_low (r := r) (k := f.n) (fun y hy => by have := h1 y hy; omega)
        rw [this] at hg
        cases hg
theorem tput_no {T : List Fc} {f g : Fc} (h : Asc T) (hg : tget T f.n = some g) (ho : ovr f g = false) : tput T f = T := by
  induction T with
  | nil => simp [tget] at hg
  | cons x r ih =>
    obtain ⟨h1, h2⟩ := asc_cons.1 h
    rw [tget_cons] at hg
    unfold tput
    split
    · rename_i hlt
      rw [if_neg (by omega)] at hg
      rw [ih h2 hg]
    · rename_i hnl
      split
      · rename_i heq
        rw [if_pos heq] at hg
        cases hg
        simp [ho]
      · rename_i hne
        rw [if_neg hne] at hg
        have := tget_low (r := r) (k := f.n) (fun y hy => by have := h1 y hy; omega)
        rw [this] at hg
        cases hg
theorem tput_perm {T : List Fc} {f : Fc} (hg : tget T f.n = none) : (tput T f).Perm (T ++ [f]) := by
  induction T with
  | nil => exact List.Perm.refl _
  | cons x r ih =>
    rw [tget_cons] at hg
    by_cases hx : x.n = f.n
    · rw [if_pos hx] at hg; cases hg
    · rw [if_neg hx] at hg
      unfold tput
      split
      · exact (ih hg).cons x
      · have : (f :: (x :: r)).Perm ((x :: r) ++ [f]) := (List.perm_append_comm (l₁ := [f]) (l₂ := x :: r))
        exact this
theorem tput_len {T : List Fc} {f : Fc} (hg : tget T f.n = none) : (tput T f).length = T.length + 1 := by
  have := (tput_perm hg).length_eq
  simpa using this
theorem tput_len_le (T : List Fc) (f : Fc) : (tput T f).length ≤ T.length + 1 := by
  induction T with
  | nil => simp [tput]
  | cons g r ih =>
    unfold tput
    split
    · simp; omega
    · split
      · split <;> simp
      · simp
/-- an ascending list of nodes 0 to 7 is short -/
theorem asc_short : ∀ (T : List Fc) (lo : Nat), Asc T → (∀ f ∈ T, (lo : Int) ≤ f.n ∧ f.n ≤ 7) → T.length + lo ≤ 8 ∨ T = []
  | [], _, _, _ => .inr rfl
  | g :: r, lo, h, hall => by
    obtain ⟨h1, h2⟩ := asc_cons.1 h
    have hg := hall g (by simp)
    rcases asc_short r (lo + 1) h2 (fun f hf => by have := h1 f hf; have := hall f (by simp [hf]); omega) with h | h
    · left; simp; omega
    · left; subst h; simp; omega
end Go.Proofs.YtibnojbhoepcdaaDoor
