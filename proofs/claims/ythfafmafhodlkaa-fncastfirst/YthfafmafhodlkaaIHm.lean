/- Heaps of numbers and lists that are turned at two places (no program in this text). -/
namespace Go.Proofs.Ythfafmafhodlkaa
/-- a heap of n numbers -/
def Hp (r : Nat → Int) (n : Nat) : Prop := ∀ k, 0 < k → k < n → r ((k - 1) / 2) ≤ r k
/-- but for what lies at j, which may be too great for its place -/
def UpI (r : Nat → Int) (n j : Nat) : Prop := (∀ k, 0 < k → k < n → k ≠ j → r ((k - 1) / 2) ≤ r k) ∧ (∀ k, 0 < k → k < n → (k - 1) / 2 = j → 0 < j → r ((j - 1) / 2) ≤ r k)
def DnI (r : Nat → Int) (n i : Nat) : Prop := (∀ k, 0 < k → k < n → (k - 1) / 2 ≠ i → r ((k - 1) / 2) ≤ r k) ∧ (∀ k, 0 < k → k < n → (k - 1) / 2 = i → 0 < i → r ((i - 1) / 2) ≤ r k)
/-- two turned -/
def Sw (r r' : Nat → Int) (i j : Nat) : Prop := r' i = r j ∧ r' j = r i ∧ ∀ k, k ≠ i → k ≠ j → r' k = r k
theorem up_end {r : Nat → Int} {n j : Nat} (h : UpI r n j) (hj : j = 0 ∨ r ((j - 1) / 2) ≤ r j) : Hp r n := fun k h0 hk => by
  by_cases e : k = j
  · subst e
    rcases hj with hj | hj
    · omega
    · exact hj
  · exact h.1 k h0 hk e
theorem up_step {r r' : Nat → Int} {n j : Nat} (h : UpI r n j) (hj : 0 < j) (hn : j < n) (hlt : r j < r ((j - 1) / 2)) (hs : Sw r r' ((j - 1) / 2) j) : UpI r' n ((j - 1) / 2) := by
  obtain ⟨s1, s2, s3⟩ := hs
  have hij : (j - 1) / 2 < j := by omega
  have key : ∀ k, 0 < k → k < n → k ≠ (j - 1) / 2 → r' ((k - 1) / 2) ≤ r' k := by
    intro k h0 hk hne
    by_cases e : k = j
    · subst e; rw [s1, s2]; omega
    · rw [s3 k hne e]
      by_cases e2 : (k - 1) / 2 = j
      · rw [e2, s2]; exact h.2 k h0 hk e2 hj
      · by_cases e3 : (k - 1) / 2 = (j - 1) / 2
        · rw [e3, s1]
          have := h.1 k h0 hk e
          rw [e3] at this
          omega
        · rw [s3 _ e3 e2]; exact h.1 k h0 hk e
  refine ⟨key, fun k h0 hk e hi => ?_⟩
  have hp : ((j - 1) / 2 - 1) / 2 ≠ (j - 1) / 2 := by omega
  have hp2 : ((j - 1) / 2 - 1) / 2 ≠ j := by omega
  rw [s3 _ hp hp2]
  have h1 := h.1 ((j - 1) / 2) hi (by omega) (by omega)
  by_cases e2 : k = j
  · subst e2; rw [s2]; exact h1
  · rw [s3 k (by omega) e2]
    have := h.1 k h0 hk e2
    rw [e] at this
    omega
theorem dn_end {r : Nat → Int} {n i : Nat} (h : DnI r n i) (hj : ∀ k, 0 < k → k < n → (k - 1) / 2 = i → r i ≤ r k) : Hp r n := fun k h0 hk => by
  by_cases e : (k - 1) / 2 = i
  · rw [e]; exact hj k h0 hk e
  · exact h.1 k h0 hk e
theorem dn_step {r r' : Nat → Int} {n i j : Nat} (h : DnI r n i) (hj : 0 < j) (hn : j < n) (hp : (j - 1) / 2 = i) (hlt : r j < r i) (hmin : ∀ k, 0 < k → k < n → (k - 1) / 2 = i → r j ≤ r k) (hs : Sw r r' i j) : DnI r' n j := by
  obtain ⟨s1, s2, s3⟩ := hs
  refine ⟨fun k h0 hk hne => ?_, fun k h0 hk e hi => ?_⟩
  · by_cases e : (k - 1) / 2 = i
    · rw [e, s1]
      by_cases e2 : k = j
      · subst e2; rw [s2]; omega
      · rw [s3 k (by omega) e2]; exact hmin k h0 hk e
    · rw [s3 _ e hne]
      by_cases e2 : k = i
      · subst e2; rw [s1]
        exact h.2 j hj hn hp h0
      · by_cases e3 : k = j
        · exact absurd (by rw [e3]; exact hp) e
        · rw [s3 k e2 e3]; exact h.1 k h0 hk e
  · rw [hp, s1, s3 k (by omega) (by omega)]
    have := h.1 k h0 hk (by omega)
    rw [e] at this
    exact this
theorem hp_min {r : Nat → Int} {n : Nat} (h : Hp r n) : ∀ m k, k ≤ m → k < n → r 0 ≤ r k := by
  intro m
  induction m with
  | zero => intro k hk _; rw [show k = 0 by omega]; exact Int.le_refl _
  | succ m ih =>
    intro k hk hn
    by_cases e : k = 0
    · rw [e]; exact Int.le_refl _
    · have h1 := h k (by omega) hn
      have h2 := ih ((k - 1) / 2) (by omega) (by omega)
      omega
theorem hp_dn {r r' : Nat → Int} {n : Nat} (h : Hp r (n + 1)) (hs : Sw r r' 0 n) : DnI r' n 0 := by
  obtain ⟨s1, s2, s3⟩ := hs
  refine ⟨fun k h0 hk hne => ?_, fun k h0 hk e hi => by omega⟩
  rw [s3 k (by omega) (by omega), s3 _ hne (by omega)]
  exact h k h0 (by omega)
theorem hp_up {r r' : Nat → Int} {n : Nat} (h : Hp r n) (hs : ∀ k, k < n → r' k = r k) : UpI r' (n + 1) n := by
  refine ⟨fun k h0 hk hne => ?_, fun k h0 hk e hi => by omega⟩
  rw [hs k (by omega), hs _ (by omega)]
  exact h k h0 (by omega)
theorem hp_less {r r' : Nat → Int} {n m : Nat} (h : Hp r n) (hm : m ≤ n) (hs : ∀ k, k < m → r' k = r k) : Hp r' m := fun k h0 hk => by
  rw [hs k hk, hs _ (by omega)]
  exact h k h0 (by omega)
/-- a list with two places turned -/
theorem swap_perm {α : Type} (l : List α) (i j : Nat) (a b : α) (hi : l[i]? = some a) (hj : l[j]? = some b) : ((l.set i b).set j a).Perm l := by
  obtain ⟨h1, e1⟩ := List.getElem?_eq_some_iff.1 hi
  obtain ⟨h2, e2⟩ := List.getElem?_eq_some_iff.1 hj
  have := Array.swap_perm (xs := l.toArray) (i := i) (j := j) (by simpa using h1) (by simpa using h2)
  have := this.toList
  rw [Array.toList_swap] at this
  simp at this
  rw [e1, e2] at this
  exact this
end Go.Proofs.Ythfafmafhodlkaa
