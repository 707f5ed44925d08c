/- Texts cut at a byte, and the numbers that figures spell (no program in this text). -/
import Derived.Lib.Split
import Derived.Lib.IndexBytes
import Derived.Lib.AtoiAll
import Derived.Lib.ItoaNum
import Derived.Lib.Join
namespace Go.Proofs.YtibnojbhoepcdaaDoor
/-- a text cut at each byte c -/
def cutL (c : UInt8) : List UInt8 → List (List UInt8)
  | [] => [[]]
  | x :: xs => if x = c then [] :: cutL c xs else match cutL c xs with
    | [] => [[x]]
    | p :: ps => (x :: p) :: ps
theorem cutL_ne (c : UInt8) : ∀ s, cutL c s ≠ []
  | [] => by simp [cutL]
  | x :: xs => by
    unfold cutL
    split
    · simp
    · split <;> simp
theorem cutL_free (c : UInt8) : ∀ s, c ∉ s → cutL c s = [s]
  | [], _ => rfl
  | x :: xs, h => by
    have h1 : ¬ x = c := fun e => h (by rw [e]; exact List.mem_cons_self ..)
    have h2 : c ∉ xs := fun e => h (List.mem_cons_of_mem _ e)
    rw [cutL, if_neg h1, cutL_free c xs h2]
theorem cutL_hit (c : UInt8) : ∀ a s, c ∉ a → cutL c (a ++ c :: s) = a :: cutL c s
  | [], s, _ => by simp [cutL]
  | x :: xs, s, h => by
    have h1 : ¬ x = c := fun e => h (by rw [e]; exact List.mem_cons_self ..)
    have h2 : c ∉ xs := fun e => h (List.mem_cons_of_mem _ e)
    rw [List.cons_append, cutL, if_neg h1, cutL_hit c xs s h2]
theorem cutL_split (c : UInt8) : ∀ s, c ∉ s ∨ ∃ a r, s = a ++ c :: r ∧ c ∉ a
  | [] => Or.inl (by simp)
  | x :: xs => by
    by_cases h : x = c
    · exact Or.inr ⟨[], xs, by simp [h], by simp⟩
    · rcases cutL_split c xs with h' | ⟨a, r, e, ha⟩
      · refine Or.inl (fun hm => ?_)
        rcases List.mem_cons.1 hm with e | e
        · exact h e.symm
        · exact h' e
      · refine Or.inr ⟨x :: a, r, by rw [e]; rfl, fun hm => ?_⟩
        rcases List.mem_cons.1 hm with e | e
        · exact h e.symm
        · exact ha e
theorem join_two (a : List UInt8) (r : List (List UInt8)) (sep : List UInt8) (h : r ≠ []) : Lib.join (a :: r) sep = a ++ sep ++ Lib.join r sep := by
  cases r with
  | nil => exact absurd rfl h
  | cons b q => simp [Lib.join, List.intercalate, List.intersperse]
theorem join_cutL (c : UInt8) : ∀ n (s : List UInt8), s.length ≤ n → Lib.join (cutL c s) [c] = s := by
  intro n
  induction n with
  | zero =>
    intro s hs
    have : s = [] := List.length_eq_zero_iff.1 (by omega)
    subst this
    simp [cutL, Lib.join_one]
  | succ n ih =>
    intro s hs
    rcases cutL_split c s with h | ⟨a, r, e, ha⟩
    · rw [cutL_free c s h, Lib.join_one]
    · subst e
      rw [cutL_hit c a r ha, join_two _ _ _ (cutL_ne c r), ih r (by simp at hs; omega)]
      simp
theorem cutL_join (c : UInt8) : ∀ (r : List (List UInt8)), r ≠ [] → (∀ p ∈ r, c ∉ p) → cutL c (Lib.join r [c]) = r
  | [], h, _ => absurd rfl h
  | [a], _, hp => by rw [Lib.join_one, cutL_free c a (hp a (List.mem_cons_self ..))]
  | a :: b :: q, _, hp => by
    rw [join_two _ _ _ (by simp), List.append_assoc, List.singleton_append, cutL_hit c a _ (hp a (List.mem_cons_self ..)), cutL_join c (b :: q) (by simp) (fun p h => hp p (List.mem_cons_of_mem _ h))]
theorem indexByte_free (c : UInt8) : ∀ s : List UInt8, c ∉ s → Lib.indexByte s c = -1
  | [], _ => rfl
  | x :: xs, h => by
    have h1 : ¬ x = c := fun e => h (by rw [e]; exact List.mem_cons_self ..)
    have h2 : c ∉ xs := fun e => h (List.mem_cons_of_mem _ e)
    rw [Lib.indexByte, indexByte_free c xs h2]
    simp [h1]
theorem indexByte_hit (c : UInt8) : ∀ (a r : List UInt8), c ∉ a → Lib.indexByte (a ++ c :: r) c = (a.length : Int)
  | [], r, _ => by simp [Lib.indexByte]
  | x :: xs, r, h => by
    have h1 : ¬ x = c := fun e => h (by rw [e]; exact List.mem_cons_self ..)
    have h2 : c ∉ xs := fun e => h (List.mem_cons_of_mem _ e)
    rw [List.cons_append, Lib.indexByte, indexByte_hit c xs r h2]
    have : ¬ ((xs.length : Int) == -1) = true := fun e => by have := beq_iff_eq.1 e; omega
    simp [h1, this]
/-- strings.Split at one byte -/
theorem split_cutL (c : UInt8) : ∀ n (s : List UInt8), s.length ≤ n → Lib.split s [c] = cutL c s := by
  intro n
  induction n with
  | zero =>
    intro s hs
    have : s = [] := List.length_eq_zero_iff.1 (by omega)
    subst this
    rfl
  | succ n ih =>
    intro s hs
    rcases cutL_split c s with h | ⟨a, r, e, ha⟩
    · have hi : Lib.index s [c] = -1 := by rw [Lib.index_one, indexByte_free c s h]
      rw [cutL_free c s h, Lib.split, Lib.count_miss hi]
      rfl
    · subst e
      have hi : Lib.index (a ++ c :: r) [c] = (a.length : Int) := by rw [Lib.index_one, indexByte_hit c a r ha]
      have hn : ¬ ((a.length : Int) == -1) = true := fun e => by have := beq_iff_eq.1 e; omega
      have hd : (a ++ c :: r).drop (a.length + 1) = r := by simp [List.drop_append]
      rw [cutL_hit c a r ha, Lib.split, Lib.count_hit (by simp) hi]
      simp only [List.length_singleton, hd]
      rw [Nat.add_comm 1, Lib.splitK, hi, if_neg hn]
      simp only [Int.toNat_natCast, Nat.add_zero, List.length_singleton, hd]
      have := ih r (by simp at hs; omega)
      rw [Lib.split] at this
      rw [this]
      simp
/-- a figure's byte -/
theorem fig {d : Nat} (h : d < 10) : (UInt8.ofNat (48 + d)).toNat = 48 + d := by
  rw [UInt8.toNat_ofNat']
  exact Nat.mod_eq_of_lt (by omega)
theorem dd_cases (u : Nat) (h : u < 1000) : (u < 10 ∧ Lib.decDigits u = [UInt8.ofNat (48 + u)]) ∨ (10 ≤ u ∧ u < 100 ∧ Lib.decDigits u = [UInt8.ofNat (48 + u / 10), UInt8.ofNat (48 + u % 10)]) ∨ (100 ≤ u ∧ Lib.decDigits u = [UInt8.ofNat (48 + u / 100), UInt8.ofNat (48 + u / 10 % 10), UInt8.ofNat (48 + u % 10)]) := by
  by_cases h1 : u < 10
  · left
    refine ⟨h1, ?_⟩
    rw [Lib.decDigits, dif_pos h1]
  · right
    by_cases h2 : u < 100
    · left
      refine ⟨by omega, h2, ?_⟩
      rw [Lib.decDigits, dif_neg h1, Lib.decDigits, dif_pos (by omega)]
      rfl
    · right
      refine ⟨by omega, ?_⟩
      rw [Lib.decDigits, dif_neg h1, Lib.decDigits, dif_neg (by omega), Lib.decDigits, dif_pos (by omega), Nat.div_div_eq_div_mul]
      rfl
/-- the number that figures spell; -1 if one is none -/
def mdig : Int → List UInt8 → Int
  | acc, [] => acc
  | acc, c :: r => if c.toNat < 48 ∨ 57 < c.toNat then -1 else mdig (acc * 10 + ((c.toNat : Int) - 48)) r
/-- the model's number -/
def mnum (s : List UInt8) : Int := if s.length < 1 ∨ 6 < s.length ∨ (1 < s.length ∧ s.head? = some 48) then -1 else mdig 0 s
/-- the program's number, and whether it is one -/
def pnum (s : List UInt8) : Int × Bool := match Lib.atoiAll s with
  | .ok n => (n, Lib.itoa n == s)
  | .syntax => (0, false)
  | .range => (Lib.atoiSat s, false)
theorem pnum_say {s : List UInt8} (h : (pnum s).2 = true) : Lib.itoa (pnum s).1 = s := by
  unfold pnum at h ⊢
  split at h
  · exact beq_iff_eq.1 h
  · cases h
  · cases h
theorem itoa_nat {n : Int} (h0 : 0 ≤ n) : Lib.itoa n = Lib.decDigits n.toNat := by
  rw [Lib.itoa, if_neg (by omega)]
theorem itoa_fig {n : Int} (h0 : 0 ≤ n) (h1 : n ≤ 999) : ∀ c ∈ Lib.itoa n, 48 ≤ c.toNat ∧ c.toNat ≤ 57 := by
  rw [itoa_nat h0]
  intro c hc
  rcases dd_cases n.toNat (by omega) with ⟨a, e⟩ | ⟨a, b, e⟩ | ⟨a, e⟩ <;> rw [e] at hc <;> simp only [List.mem_cons, List.not_mem_nil, or_false] at hc
  · subst hc
    rw [fig (by omega)]
    omega
  · rcases hc with rfl | rfl <;> rw [fig (by omega)] <;> omega
  · rcases hc with rfl | rfl | rfl <;> rw [fig (by omega)] <;> omega
theorem itoa_miss {n : Int} (h0 : 0 ≤ n) (h1 : n ≤ 999) (c : UInt8) (hc : c.toNat < 48 ∨ 57 < c.toNat) : c ∉ Lib.itoa n := fun hm => by
  have := itoa_fig h0 h1 c hm
  omega
theorem pnum_itoa {n : Int} (h0 : 0 ≤ n) (h1 : n ≤ 999) : pnum (Lib.itoa n) = (n, true) := by
  have key : Lib.atoiAll (Lib.itoa n) = .ok n := by
    rw [itoa_nat h0]
    rcases dd_cases n.toNat (by omega) with ⟨a, e⟩ | ⟨a, b, e⟩ | ⟨a, e⟩
    · have f1 := fig (d := n.toNat) (by omega)
      rw [e, Lib.atoiAll]
      generalize UInt8.ofNat (48 + n.toNat) = y at f1 ⊢
      have q1 : ¬ (y.toNat = 43 ∨ y.toNat = 45) := by omega
      have q2 : ¬ y.toNat = 45 := by omega
      have r1 : Lib.parseMag [y] = .ok n.toNat := by
        simp only [Lib.parseMag, Lib.parseUint10]
        rw [if_neg (by simp), if_pos (by omega), if_neg (by omega), if_neg (by omega)]
        congr 1; omega
      simp only [if_neg q1, r1]
      rw [if_neg (by omega), if_neg (by omega), if_neg q2]
      congr 1; omega
    · have f1 := fig (d := n.toNat / 10) (by omega)
      have f2 := fig (d := n.toNat % 10) (by omega)
      rw [e, Lib.atoiAll]
      generalize UInt8.ofNat (48 + n.toNat / 10) = y at f1 ⊢
      generalize UInt8.ofNat (48 + n.toNat % 10) = z at f2 ⊢
      have q1 : ¬ (y.toNat = 43 ∨ y.toNat = 45) := by omega
      have q2 : ¬ y.toNat = 45 := by omega
      have r1 : Lib.parseMag [y, z] = .ok n.toNat := by
        simp only [Lib.parseMag, Lib.parseUint10]
        rw [if_neg (by simp), if_pos (by omega), if_neg (by omega), if_neg (by omega), if_pos (by omega), if_neg (by omega), if_neg (by omega)]
        congr 1; omega
      simp only [if_neg q1, r1]
      rw [if_neg (by omega), if_neg (by omega), if_neg q2]
      congr 1; omega
    · have f1 := fig (d := n.toNat / 100) (by omega)
      have f2 := fig (d := n.toNat / 10 % 10) (by omega)
      have f3 := fig (d := n.toNat % 10) (by omega)
      rw [e, Lib.atoiAll]
      generalize UInt8.ofNat (48 + n.toNat / 100) = y at f1 ⊢
      generalize UInt8.ofNat (48 + n.toNat / 10 % 10) = z at f2 ⊢
      generalize UInt8.ofNat (48 + n.toNat % 10) = x at f3 ⊢
      have q1 : ¬ (y.toNat = 43 ∨ y.toNat = 45) := by omega
      have q2 : ¬ y.toNat = 45 := by omega
      have r1 : Lib.parseMag [y, z, x] = .ok n.toNat := by
        simp only [Lib.parseMag, Lib.parseUint10]
        rw [if_neg (by simp), if_pos (by omega), if_neg (by omega), if_neg (by omega), if_pos (by omega), if_neg (by omega), if_neg (by omega), if_pos (by omega), if_neg (by omega), if_neg (by omega)]
        congr 1; omega
      simp only [if_neg q1, r1]
      rw [if_neg (by omega), if_neg (by omega), if_neg q2]
      congr 1; omega
  unfold pnum
  rw [key]
  simp
theorem mnum_itoa {n : Int} (h0 : 0 ≤ n) (h1 : n ≤ 999) : mnum (Lib.itoa n) = n := by
  rw [itoa_nat h0]
  rcases dd_cases n.toNat (by omega) with ⟨a, e⟩ | ⟨a, b, e⟩ | ⟨a, e⟩
  · have f1 := fig (d := n.toNat) (by omega)
    rw [e, mnum, if_neg (by simp)]
    generalize UInt8.ofNat (48 + n.toNat) = y at f1 ⊢
    simp only [mdig]
    rw [if_neg (by omega)]
    omega
  · have f1 := fig (d := n.toNat / 10) (by omega)
    have f2 := fig (d := n.toNat % 10) (by omega)
    rw [e, mnum]
    generalize UInt8.ofNat (48 + n.toNat / 10) = y at f1 ⊢
    generalize UInt8.ofNat (48 + n.toNat % 10) = z at f2 ⊢
    have q : ¬ y = 48 := fun e => by rw [e] at f1; change 48 = _ at f1; omega
    rw [if_neg (by simp [q])]
    simp only [mdig]
    rw [if_neg (by omega), if_neg (by omega)]
    omega
  · have f1 := fig (d := n.toNat / 100) (by omega)
    have f2 := fig (d := n.toNat / 10 % 10) (by omega)
    have f3 := fig (d := n.toNat % 10) (by omega)
    rw [e, mnum]
    generalize UInt8.ofNat (48 + n.toNat / 100) = y at f1 ⊢
    generalize UInt8.ofNat (48 + n.toNat / 10 % 10) = z at f2 ⊢
    generalize UInt8.ofNat (48 + n.toNat % 10) = x at f3 ⊢
    have q : ¬ y = 48 := fun e => by rw [e] at f1; change 48 = _ at f1; omega
    rw [if_neg (by simp [q])]
    simp only [mdig]
    rw [if_neg (by omega), if_neg (by omega), if_neg (by omega)]
    omega
end Go.Proofs.YtibnojbhoepcdaaDoor
