/- What the lines of a text are: all events', or one that is none. -/
import Derived.Test.YtlebggbbhkiokaaGreatDoorRSq
namespace Go.Proofs.YtlebggbbhkiokaaGreatDoor
theorem cutL_nomem (c : UInt8) : ∀ (s : List UInt8), ∀ p ∈ cutL c s, c ∉ p
  | [], p, hp => by simp [cutL] at hp; simp [hp]
  | x :: r, p, hp => by
    have ih := cutL_nomem c r
    rw [cutL] at hp
    split at hp
    · rcases List.mem_cons.1 hp with e | e
      · simp [e]
      · exact ih p e
    · next hx =>
      split at hp
      · simp at hp
        rw [hp]
        simpa using fun e => hx e.symm
      · next q ps e =>
        rcases List.mem_cons.1 hp with h | h
        · have := ih q (by rw [e]; simp)
          rw [h]
          simp only [List.mem_cons, not_or]
          exact ⟨fun e => hx e.symm, this⟩
        · exact ih p (by rw [e]; exact List.mem_cons_of_mem _ h)
theorem ln_end {P : List (List UInt8)} {j : Nat} {p : List UInt8} (hj : j + 1 < P.length) (hp : P[j]? = some p) : ln P j = p ++ [10] := by
  unfold ln
  rw [if_pos hj]
  simp [List.getD_eq_getElem?_getD, hp]
theorem ln_last {P : List (List UInt8)} {j : Nat} {p : List UInt8} (hj : j + 1 = P.length) (hp : P[j]? = some p) : ln P j = p := by
  unfold ln
  rw [if_neg (by omega)]
  simp [List.getD_eq_getElem?_getD, hp]
theorem last_of {P : List (List UInt8)} {j : Nat} {p : List UInt8} (hj : j + 1 = P.length) (hp : P[j]? = some p) : P.getLastD [] = p := by
  rw [List.getLastD_eq_getLast?, List.getLast?_eq_getElem?, show P.length - 1 = j by omega, hp]
  rfl
theorem take_eline {g : Fc} (h : eok g = true) : (eline g ++ [10]).take 4001 = eline g ++ [10] := by
  have := eline_len h
  exact List.take_of_length_le (by simp; omega)
theorem good_line {P : List (List UInt8)} {j : Nat} {g : Fc} (h : eok g = true) (hl : ln P j = eline g ++ [10]) : good (j, ln P j) ∧ (sevP ((ln P j).take 4001)).1 = g := by
  unfold good
  rw [hl, take_eline h, sevP_good h]
  exact ⟨rfl, rfl⟩
theorem all_lines {T : List UInt8} {n : Nat} {F : Nat → Fc} (h : AllL (cutL 10 T) n F) : lnM (cutL 10 T) = n ∧ (∀ j, j < n → good (j, ln (cutL 10 T) j)) ∧ evs (lnsK (cutL 10 T) n) = seqF F n := by
  obtain ⟨h1, h2, h3⟩ := h
  have hg : ∀ j, j < n → good (j, ln (cutL 10 T) j) ∧ (sevP ((ln (cutL 10 T) j).take 4001)).1 = F j := fun j hj => by
    obtain ⟨a, b⟩ := h3 j hj
    exact good_line a (ln_end (by omega) b)
  refine ⟨?_, fun j hj => (hg j hj).1, ?_⟩
  · unfold lnM
    rw [last_of (by omega) h2, if_pos rfl]
    omega
  · unfold evs lnsK seqF
    rw [List.map_map]
    refine List.map_congr_left fun j hj => ?_
    exact (hg j (List.mem_range.1 hj)).2
theorem bad_lines {T : List UInt8} (hT : T.length ≤ 4000) {i : Nat} {F : Nat → Fc} (h : BadL (cutL 10 T) i F) : i < lnM (cutL 10 T) ∧ (∀ j, j < i → good (j, ln (cutL 10 T) j)) ∧ ¬ good (i, ln (cutL 10 T) i) := by
  obtain ⟨h1, h2⟩ := h
  have hi : i < (cutL 10 T).length := by rcases h2 with ⟨a, _⟩ | ⟨a, _⟩ <;> omega
  refine ⟨?_, fun j hj => ?_, ?_⟩
  · unfold lnM
    rcases h2 with ⟨a, _⟩ | ⟨a, p, hp, hne⟩
    · split <;> omega
    · rw [last_of a hp, if_neg hne]
      omega
  · obtain ⟨a, b⟩ := h1 j hj
    exact (good_line a (ln_end (by omega) b)).1
  · unfold good
    rcases h2 with ⟨a, p, hp, hng⟩ | ⟨a, p, hp, hne⟩
    · have hl := cutL_mem 10 T p (List.mem_of_getElem? hp)
      rw [ln_end a hp, List.take_of_length_le (by simp; omega), sevP_bad hng]
      simp
    · have hl := cutL_mem 10 T p (List.mem_of_getElem? hp)
      rw [ln_last a hp, List.take_of_length_le (by show p.length ≤ 4001; omega), sevP_last (cutL_nomem 10 T p (List.mem_of_getElem? hp))]
      simp
theorem lnsK_mem {P : List (List UInt8)} {k m : Nat} (h : k < m) : (k, ln P k) ∈ lnsK P m := List.mem_map.2 ⟨k, List.mem_range.2 h, rfl⟩
theorem lnsK_at {P : List (List UInt8)} {m : Nat} {pre r : List (Nat × List UInt8)} {y : Nat × List UInt8} (h : lnsK P m = pre ++ [y] ++ r) : y = (pre.length, ln P pre.length) ∧ pre.length < m ∧ ∀ k, k < pre.length → (k, ln P k) ∈ pre := by
  have hl : pre.length < m := by
    have := congrArg List.length h
    simp [lnsK] at this
    omega
  have hy : ∀ k, k < m → (lnsK P m)[k]? = some (k, ln P k) := fun k hk => by
    unfold lnsK
    rw [List.getElem?_map, List.getElem?_range hk]
    rfl
  refine ⟨?_, hl, fun k hk => ?_⟩
  · have h1 := hy pre.length hl
    rw [h] at h1
    simp at h1
    exact h1
  · have h1 := hy k (by omega)
    rw [h, List.append_assoc, List.getElem?_append_left hk] at h1
    exact List.mem_of_getElem? h1
end Go.Proofs.YtlebggbbhkiokaaGreatDoor
