/- Texts cut at a byte, the numbers that figures spell, the lines of events as texts (no program in this text). -/
import Derived.Lib.Split
import Derived.Lib.IndexBytes
import Derived.Lib.AtoiAllCases
import Derived.Lib.ItoaNum
import Derived.Lib.Join
import Derived.Lib.IndexMore
namespace Go.Proofs.YtlebggbbhkiokaaGreatDoor
/-- a text cut at each byte c -/
def cutL (c : UInt8) : List UInt8 → List (List UInt8)
  | [] => [[]]
  | x :: xs => if x = c then [] :: cutL c xs else match cutL c xs with
    | [] => [[x]]
    | p :: ps => (x :: p) :: ps
theorem cutL_ne (c : UInt8) : ∀ s, cutL c s ≠ []
  | [] => by simp [cutL]
  | x :: xs => by
    unfold cutL
    split
    · simp
    · split <;> simp
theorem cutL_free (c : UInt8) : ∀ s, c ∉ s → cutL c s = [s]
  | [], _ => rfl
  | x :: xs, h => by
    have h1 : ¬ x = c := fun e => h (by rw [e]; exact List.mem_cons_self ..)
    have h2 : c ∉ xs := fun e => h (List.mem_cons_of_mem _ e)
    rw [cutL, if_neg h1, cutL_free c xs h2]
theorem cutL_hit (c : UInt8) : ∀ a s, c ∉ a → cutL c (a ++ c :: s) = a :: cutL c s
  | [], s, _ => by simp [cutL]
  | x :: xs, s, h => by
    have h1 : ¬ x = c := fun e => h (by rw [e]; exact List.mem_cons_self ..)
    have h2 : c ∉ xs := fun e => h (List.mem_cons_of_mem _ e)
    rw [List.cons_append, cutL, if_neg h1, cutL_hit c xs s h2]
theorem cutL_split (c : UInt8) : ∀ s, c ∉ s ∨ ∃ a r, s = a ++ c :: r ∧ c ∉ a
  | [] => Or.inl (by simp)
  | x :: xs => by
    by_cases h : x = c
    · exact Or.inr ⟨[], xs, by simp [h], by simp⟩
    · rcases cutL_split c xs with h' | ⟨a, r, e, ha⟩
      · refine Or.inl (fun hm => ?_)
        rcases List.mem_cons.1 hm with e | e
        · exact h e.symm
        · exact h' e
      · refine Or.inr ⟨x :: a, r, by rw [e]; rfl, fun hm => ?_⟩
        rcases List.mem_cons.1 hm with e | e
        · exact h e.symm
        · exact ha e
theorem indexByte_free (c : UInt8) : ∀ s : List UInt8, c ∉ s → Lib.indexByte s c = -1
  | [], _ => rfl
  | x :: xs, h => by
    have h1 : ¬ x = c := fun e => h (by rw [e]; exact List.mem_cons_self ..)
    have h2 : c ∉ xs := fun e => h (List.mem_cons_of_mem _ e)
    rw [Lib.indexByte, indexByte_free c xs h2]
    simp [h1]
theorem indexByte_hit (c : UInt8) : ∀ (a r : List UInt8), c ∉ a → Lib.indexByte (a ++ c :: r) c = (a.length : Int)
  | [], r, _ => by simp [Lib.indexByte]
  | x :: xs, r, h => by
    have h1 : ¬ x = c := fun e => h (by rw [e]; exact List.mem_cons_self ..)
    have h2 : c ∉ xs := fun e => h (List.mem_cons_of_mem _ e)
    rw [List.cons_append, Lib.indexByte, indexByte_hit c xs r h2]
    have : ¬ ((xs.length : Int) == -1) = true := fun e => by have := beq_iff_eq.1 e; omega
    simp [h1, this]
/-- a figure's byte -/
theorem fig {d : Nat} (h : d < 10) : (UInt8.ofNat (48 + d)).toNat = 48 + d := by
  rw [UInt8.toNat_ofNat']
  exact Nat.mod_eq_of_lt (by omega)
/-- the number that figures spell; -1 if one is none -/
def mdig : Int → List UInt8 → Int
  | acc, [] => acc
  | acc, c :: r => if c.toNat < 48 ∨ 57 < c.toNat then -1 else mdig (acc * 10 + ((c.toNat : Int) - 48)) r
/-- the model's number -/
def mnum (s : List UInt8) : Int := if s.length < 1 ∨ 6 < s.length ∨ (1 < s.length ∧ s.head? = some 48) then -1 else mdig 0 s
/-- the program's number, and whether it is one -/
def pnum (s : List UInt8) : Int × Bool := match Lib.atoiAll s with
  | .ok n => (n, Lib.itoa n == s)
  | .syntax => (0, false)
  | .range => (Lib.atoiSat s, false)
theorem pnum_say {s : List UInt8} (h : (pnum s).2 = true) : Lib.itoa (pnum s).1 = s := by
  unfold pnum at h ⊢
  split at h
  · exact beq_iff_eq.1 h
  · cases h
  · cases h
theorem itoa_dec (n : Int) (h0 : 0 ≤ n) : Lib.itoa n = Lib.decDigits n.toNat := by
  unfold Lib.itoa
  rw [if_neg (by omega)]
theorem dd_len : ∀ (k n : Nat), n < 10 ^ (k + 1) → (Lib.decDigits n).length ≤ k + 1
  | 0, n, h => by rw [Lib.decDigits, dif_pos (by simpa using h)]; simp
  | k + 1, n, h => by
    rw [Lib.decDigits]
    split
    · simp
    · have := dd_len k (n / 10) (by rw [Nat.pow_succ] at h; omega)
      simp only [List.length_append, List.length_cons, List.length_nil]
      omega
theorem dd_fig : ∀ (m n : Nat), n < m → ∀ c ∈ Lib.decDigits n, 48 ≤ c.toNat ∧ c.toNat ≤ 57
  | 0, _, h => absurd h (by omega)
  | m + 1, n, h => by
    intro c hc
    rw [Lib.decDigits] at hc
    split at hc
    · simp only [List.mem_cons, List.not_mem_nil, or_false] at hc
      subst hc
      rw [fig (by omega)]
      omega
    · rcases List.mem_append.1 hc with hc | hc
      · exact dd_fig m (n / 10) (by omega) c hc
      · simp only [List.mem_cons, List.not_mem_nil, or_false] at hc
        subst hc
        rw [fig (by omega)]
        omega
theorem dd_ne (n : Nat) : Lib.decDigits n ≠ [] := by
  rw [Lib.decDigits]
  split <;> simp
theorem dd_head : ∀ (m n : Nat), n < m → 1 ≤ n → (Lib.decDigits n).head? ≠ some 48
  | 0, _, h, _ => absurd h (by omega)
  | m + 1, n, h, h1 => by
    rw [Lib.decDigits]
    split
    · rename_i h10
      intro e
      simp only [List.head?_cons, Option.some.injEq] at e
      have := fig (d := n) (by omega)
      rw [e] at this
      change 48 = _ at this
      omega
    · have ih := dd_head m (n / 10) (by omega) (by omega)
      cases hd : Lib.decDigits (n / 10) with
      | nil => exact absurd hd (dd_ne _)
      | cons c r => rw [hd] at ih; simpa using ih
theorem pu_dec : ∀ (m n : Nat), n < m → n < 1000000 → ∀ r, Lib.parseUint10 0 (Lib.decDigits n ++ r) = Lib.parseUint10 n r
  | 0, _, h, _, _ => absurd h (by omega)
  | m + 1, n, h, h6, r => by
    rw [Lib.decDigits]
    split
    · rename_i h10
      have f1 := fig (d := n) (by omega)
      rw [List.singleton_append, Lib.parseUint10, f1, if_pos (by omega), if_neg (by omega), if_neg (by omega)]
      congr 1
      omega
    · rw [List.append_assoc, pu_dec m (n / 10) (by omega) (by omega)]
      have f1 := fig (d := n % 10) (by omega)
      rw [List.singleton_append, Lib.parseUint10, f1, if_pos (by omega), if_neg (by omega), if_neg (by omega)]
      congr 1
      omega
theorem md_dec : ∀ (m n : Nat), n < m → ∀ r, mdig 0 (Lib.decDigits n ++ r) = mdig n r
  | 0, _, h, _ => absurd h (by omega)
  | m + 1, n, h, r => by
    rw [Lib.decDigits]
    split
    · have f1 := fig (d := n) (by omega)
      rw [List.singleton_append, mdig, f1, if_neg (by omega)]
      congr 1
      omega
    · rw [List.append_assoc, md_dec m (n / 10) (by omega)]
      have f1 := fig (d := n % 10) (by omega)
      rw [List.singleton_append, mdig, f1, if_neg (by omega)]
      congr 1
      omega
theorem pnum_dec (n : Nat) (h : n < 1000000) : pnum (Lib.decDigits n) = ((n : Int), true) := by
  have key : Lib.atoiAll (Lib.decDigits n) = .ok (n : Int) := by
    have hf := dd_fig (n + 1) n (by omega)
    have hp := pu_dec (n + 1) n (by omega) h []
    rw [List.append_nil] at hp
    have hm : Lib.parseMag (Lib.decDigits n) = .ok n := by
      unfold Lib.parseMag
      rw [if_neg (dd_ne n), hp]
      rfl
    cases hd : Lib.decDigits n with
    | nil => exact absurd hd (dd_ne n)
    | cons c r =>
      have := hf c (by rw [hd]; exact List.mem_cons_self ..)
      rw [hd] at hm
      rw [Lib.atoiAll_plain c r (by omega) (by omega), hm]
      unfold Lib.signless
      simp only
      rw [if_neg (by omega)]
  unfold pnum
  rw [key]
  simp [itoa_dec _ (Int.natCast_nonneg n)]
theorem mnum_dec (n : Nat) (h : n < 1000000) : mnum (Lib.decDigits n) = (n : Int) := by
  have hl := dd_len 5 n (by omega)
  have hn : 1 ≤ (Lib.decDigits n).length := by
    have := dd_ne n
    cases hd : Lib.decDigits n with
    | nil => exact absurd hd this
    | cons c r => simp
  have hm := md_dec (n + 1) n (by omega) []
  rw [List.append_nil] at hm
  unfold mnum
  rw [if_neg, hm]
  · rfl
  · rintro (e | e | ⟨e1, e2⟩)
    · omega
    · omega
    · by_cases h1 : 1 ≤ n
      · exact dd_head (n + 1) n (by omega) h1 e2
      · obtain rfl : n = 0 := by omega
        rw [Lib.decDigits, dif_pos (by omega)] at e1
        simp at e1
theorem splitK_free (c : UInt8) (k : Nat) (s : List UInt8) (h : c ∉ s) : Lib.splitK [c] 0 k s = [s] := by
  cases k with
  | zero => rfl
  | succ k =>
    have hi : Lib.index s [c] = -1 := by rw [Lib.index_one, indexByte_free c s h]
    rw [Lib.splitK, hi]
    rfl
theorem splitK_hit (c : UInt8) (k : Nat) (a r : List UInt8) (h : c ∉ a) : Lib.splitK [c] 0 (k + 1) (a ++ c :: r) = a :: Lib.splitK [c] 0 k r := by
  have hi : Lib.index (a ++ c :: r) [c] = (a.length : Int) := by rw [Lib.index_one, indexByte_hit c a r h]
  have hn : ¬ ((a.length : Int) == -1) = true := fun e => by have := beq_iff_eq.1 e; omega
  have hd : (a ++ c :: r).drop (a.length + 1) = r := by simp [List.drop_append]
  rw [Lib.splitK, hi, if_neg hn]
  simp only [Int.toNat_natCast, Nat.add_zero, List.length_singleton, hd]
  simp
theorem cut_free (c : UInt8) (s : List UInt8) (h : c ∉ s) : Lib.cut s [c] = (s, [], false) := by
  have hi : Lib.index s [c] = -1 := by rw [Lib.index_one, indexByte_free c s h]
  unfold Lib.cut
  rw [hi, if_neg (by omega)]
theorem cut_hit (c : UInt8) (a r : List UInt8) (h : c ∉ a) : Lib.cut (a ++ c :: r) [c] = (a, r, true) := by
  have hi : Lib.index (a ++ c :: r) [c] = (a.length : Int) := by rw [Lib.index_one, indexByte_hit c a r h]
  have hd : (a ++ c :: r).drop (a.length + 1) = r := by simp [List.drop_append]
  unfold Lib.cut
  rw [hi, if_pos (by omega)]
  simp only [Int.toNat_natCast, List.length_singleton, hd]
  simp
def wk1 : List UInt8 := [116, 105, 99, 107]
def wk2 : List UInt8 := [98, 114, 105, 110, 103]
def wk3 : List UInt8 := [108, 111, 115, 101]
def wk4 : List UInt8 := [115, 112, 111, 105, 108]
def wk5 : List UInt8 := [115, 105, 100, 101]
def wk6 : List UInt8 := [102, 97, 108, 108]
def wk7 : List UInt8 := [114, 105, 115, 101]
def wk8 : List UInt8 := [108, 101, 97, 118, 101]
def wk9 : List UInt8 := [106, 111, 105, 110]
def kindsL : List (List UInt8) := [[], wk1, wk2, wk3, wk4, wk5, wk6, wk7, wk8, wk9]
def inb (n lo hi : Int) : Bool := decide (lo ≤ n) && decide (n ≤ hi)
/-- an event, its numbers -/
structure Fc where
  n : Int
  i : Int
  s : Int
  g : Bool
/-- events that can be written -/
def eok (f : Fc) : Bool := inb f.n 1 9 && inb f.i 0 999999 && inb f.s 0 999999 && (!f.g || (f.n == 2 && f.s == 0))
theorem eok_all {f : Fc} (h : eok f = true) : 1 ≤ f.n ∧ f.n ≤ 9 ∧ 0 ≤ f.i ∧ f.i ≤ 999999 ∧ 0 ≤ f.s ∧ f.s ≤ 999999 := by
  unfold eok inb at h
  simp at h
  omega
theorem eok_keep {f : Fc} (h : eok f = true) (hg : f.g = true) : f.n = 2 ∧ f.s = 0 := by
  unfold eok at h
  rw [hg] at h
  simp at h
  exact h.2
/-- the word for what happens -/
def wordK (s : Int) : List UInt8 := kindsL.getD s.toNat []
/-- an event's line, its end left out -/
def eline (f : Fc) : List UInt8 := wordK f.n ++ [32] ++ Lib.itoa f.i ++ (if f.g = true then [32, 107, 101, 101, 112] else if 0 < f.s then [32] ++ Lib.itoa f.s else [])
/-- the third word -/
def third (f : Fc) : List (List UInt8) := if f.g = true then [[107, 101, 101, 112]] else if 0 < f.s then [Lib.itoa f.s] else []
theorem word_free (s : Int) (c : UInt8) (h : c.toNat < 97) : c ∉ wordK s := by
  unfold wordK
  have : ∀ k, k < 10 → ∀ x ∈ kindsL.getD k [], 97 ≤ x.toNat := by decide
  intro hc
  rcases Nat.lt_or_ge s.toNat 10 with h' | h'
  · have := this _ h' c hc
    omega
  · rw [List.getD_eq_getElem?_getD, List.getElem?_eq_none (by simpa [kindsL] using h')] at hc
    simp at hc
theorem itoa_free {n : Int} (h0 : 0 ≤ n) (c : UInt8) (h : c.toNat < 48) : c ∉ Lib.itoa n := by
  rw [itoa_dec n h0]
  intro hc
  have := dd_fig (n.toNat + 1) n.toNat (by omega) c hc
  omega
theorem eline_line {f : Fc} (h : eok f = true) : (10 : UInt8) ∉ eline f := by
  obtain ⟨_, _, i0, _, s0, _⟩ := eok_all h
  have a := word_free f.n 10 (by decide)
  have b := itoa_free i0 10 (by decide)
  have d := itoa_free s0 10 (by decide)
  unfold eline
  split
  · simp [a, b]
  · split <;> simp [a, b, d]
theorem eline_cut {f : Fc} (h : eok f = true) : cutL 32 (eline f) = wordK f.n :: Lib.itoa f.i :: third f := by
  obtain ⟨_, _, i0, _, s0, _⟩ := eok_all h
  have a := word_free f.n 32 (by decide)
  have b := itoa_free i0 32 (by decide)
  have d := itoa_free s0 32 (by decide)
  unfold eline third
  split
  · rw [List.append_assoc, List.append_assoc, List.singleton_append, cutL_hit 32 _ _ a, cutL_hit 32 _ _ b, cutL_free 32 _ (by decide)]
  · split
    · rw [List.append_assoc, List.append_assoc, List.singleton_append, cutL_hit 32 _ _ a, List.singleton_append, cutL_hit 32 _ _ b, cutL_free 32 _ d]
    · rw [List.append_nil, List.append_assoc, List.singleton_append, cutL_hit 32 _ _ a, cutL_free 32 _ b]
theorem eline_split {f : Fc} (h : eok f = true) : Lib.splitN (eline f) [32] 4 = wordK f.n :: Lib.itoa f.i :: third f := by
  obtain ⟨_, _, i0, _, s0, _⟩ := eok_all h
  have a := word_free f.n 32 (by decide)
  have b := itoa_free i0 32 (by decide)
  have d := itoa_free s0 32 (by decide)
  have hi : 1 ≤ (Lib.itoa f.i).length := by
    rw [itoa_dec _ i0]
    have := dd_ne f.i.toNat
    cases hd : Lib.decDigits f.i.toNat with
    | nil => exact absurd hd this
    | cons c r => simp
  obtain ⟨k, hk⟩ : ∃ k, min 4 ((eline f).length + 1) - 1 = k + 1 + 1 := by
    have : 2 ≤ (eline f).length := by unfold eline; simp only [List.length_append, List.length_cons, List.length_nil]; omega
    exact ⟨min 4 ((eline f).length + 1) - 1 - 2, by omega⟩
  unfold Lib.splitN
  rw [hk]
  unfold eline third
  split
  · rw [List.append_assoc, List.append_assoc, List.singleton_append, splitK_hit 32 _ _ _ a, splitK_hit 32 _ _ _ b, splitK_free 32 _ _ (by decide)]
  · split
    · rw [List.append_assoc, List.append_assoc, List.singleton_append, splitK_hit 32 _ _ _ a, List.singleton_append, splitK_hit 32 _ _ _ b, splitK_free 32 _ _ d]
    · rw [List.append_nil, List.append_assoc, List.singleton_append, splitK_hit 32 _ _ _ a, splitK_free 32 _ _ b]
/-- a line that is an event's -/
def goodL (p : List UInt8) : Prop := ∃ e : Fc, eok e = true ∧ eline e = p
/-- all lines are events' -/
def AllL (P : List (List UInt8)) (n : Nat) (F : Nat → Fc) : Prop := P.length = n + 1 ∧ P[n]? = some [] ∧ ∀ j, j < n → eok (F j) = true ∧ P[j]? = some (eline (F j))
/-- the first that is none -/
def BadL (P : List (List UInt8)) (i : Nat) (F : Nat → Fc) : Prop := (∀ j, j < i → eok (F j) = true ∧ P[j]? = some (eline (F j))) ∧ ((i + 1 < P.length ∧ ∃ p, P[i]? = some p ∧ ¬ goodL p) ∨ (i + 1 = P.length ∧ ∃ p, P[i]? = some p ∧ p ≠ []))
theorem classL : ∀ P : List (List UInt8), P ≠ [] → (∃ n F, AllL P n F) ∨ ∃ i F, BadL P i F
  | [], h => absurd rfl h
  | [p], _ => by
    by_cases e : p = []
    · exact .inl ⟨0, fun _ => ⟨0, 0, 0, false⟩, rfl, by simp [e], fun j hj => by omega⟩
    · exact .inr ⟨0, fun _ => ⟨0, 0, 0, false⟩, fun j hj => by omega, .inr ⟨rfl, p, rfl, e⟩⟩
  | p :: q :: r, _ => by
    by_cases hg : goodL p
    · obtain ⟨e, he, hp⟩ := hg
      rcases classL (q :: r) (by simp) with ⟨n, F, h1, h2, h3⟩ | ⟨i, F, h1, h2⟩
      · refine .inl ⟨n + 1, fun j => if j = 0 then e else F (j - 1), by simp only [List.length_cons] at h1 ⊢; omega, by simpa using h2, fun j hj => ?_⟩
        cases j with
        | zero => simp [he, hp]
        | succ j => simpa using h3 j (by omega)
      · refine .inr ⟨i + 1, fun j => if j = 0 then e else F (j - 1), fun j hj => ?_, ?_⟩
        · cases j with
          | zero => simp [he, hp]
          | succ j => simpa using h1 j (by omega)
        · rcases h2 with ⟨a, b⟩ | ⟨a, b⟩
          · exact .inl ⟨by simp only [List.length_cons] at a ⊢; omega, by simpa using b⟩
          · exact .inr ⟨by simp only [List.length_cons] at a ⊢; omega, by simpa using b⟩
    · exact .inr ⟨0, fun _ => ⟨0, 0, 0, false⟩, fun j hj => by omega, .inl ⟨by simp, p, rfl, hg⟩⟩
end Go.Proofs.YtlebggbbhkiokaaGreatDoor
