/- An event read: the model's way. -/
import Derived.Test.YtlebggbbhkiokaaGreatDoorRSev
namespace Go.Proofs.YtlebggbbhkiokaaGreatDoor
open Go.ChangeShapes Go.WideShapes Go.ChangeAt Go.RowKit
attribute [local go_sem ↓] Go.wp_at_zero Go.wp_at_succ
/-- the number of a word, as the model looks for it -/
def kst (a : List UInt8) : Nat → Int
  | 0 => 0
  | k + 1 => if kindsL.getD (k + 1) [] = a then (k : Int) + 1 else kst a k
theorem kst_range (a : List UInt8) : ∀ k, 0 ≤ kst a k ∧ kst a k ≤ k
  | 0 => by simp [kst]
  | k + 1 => by
    have := kst_range a k
    rw [kst]
    split <;> omega
theorem kst_word (n : Int) (h1 : 1 ≤ n) (h9 : n ≤ 9) : kst (wordK n) 9 = n := by
  have : n = 1 ∨ n = 2 ∨ n = 3 ∨ n = 4 ∨ n = 5 ∨ n = 6 ∨ n = 7 ∨ n = 8 ∨ n = 9 := by omega
  rcases this with rfl | rfl | rfl | rfl | rfl | rfl | rfl | rfl | rfl <;> decide
theorem mdig_le : ∀ (l : List UInt8) (acc : Nat), mdig acc l ≤ ((acc : Int) + 1) * (10 : Int) ^ l.length - 1
  | [], acc => by simp [mdig]
  | c :: r, acc => by
    rw [mdig]
    split
    · have : (0 : Int) ≤ ((acc : Int) + 1) * (10 : Int) ^ (c :: r).length := Int.mul_nonneg (by omega) (Int.pow_nonneg (by omega))
      omega
    · next h =>
      have e : (acc : Int) * 10 + ((c.toNat : Int) - 48) = ((acc * 10 + (c.toNat - 48) : Nat) : Int) := by omega
      rw [e]
      have ih := mdig_le r (acc * 10 + (c.toNat - 48))
      have hp : (0 : Int) ≤ (10 : Int) ^ r.length := Int.pow_nonneg (by omega)
      have h2 : (((acc * 10 + (c.toNat - 48) : Nat) : Int) + 1) * (10 : Int) ^ r.length ≤ (((acc : Int) + 1) * 10) * (10 : Int) ^ r.length := Int.mul_le_mul_of_nonneg_right (by omega) hp
      have h3 : ((acc : Int) + 1) * (10 : Int) ^ (c :: r).length = (((acc : Int) + 1) * 10) * (10 : Int) ^ r.length := by
        rw [List.length_cons, Int.pow_succ, Int.mul_comm ((10 : Int) ^ r.length) 10, ← Int.mul_assoc]
      omega
theorem mnum_le (s : List UInt8) : mnum s ≤ 999999 := by
  unfold mnum
  split
  · omega
  · next h =>
    have h1 := mdig_le s 0
    have h2 : (10 : Int) ^ s.length ≤ 10 ^ 6 := by
      have : (10 : Nat) ^ s.length ≤ 10 ^ 6 := Nat.pow_le_pow_right (by omega) (by omega)
      exact_mod_cast this
    simp at h1
    omega
/-- what the words of a line are, the model's way -/
def mvP : List (List UInt8) → Fc × Bool
  | [a, b] => (⟨kst a 9, mnum b, 0, false⟩, decide (0 < kst a 9) && decide (0 ≤ mnum b))
  | [a, b, c] => if kst a 9 = 2 ∧ c = [107, 101, 101, 112] then (⟨kst a 9, mnum b, 0, true⟩, decide (0 ≤ mnum b)) else (⟨kst a 9, mnum b, mnum c, false⟩, decide (0 < kst a 9) && decide (0 ≤ mnum b) && decide (0 ≤ mnum c))
  | _ => (⟨0, 0, 0, false⟩, false)
theorem mvP_other {P : List (List UInt8)} (h2 : P.length ≠ 2) (h3 : P.length ≠ 3) : mvP P = (⟨0, 0, 0, false⟩, false) := by
  unfold mvP
  split
  · exact absurd rfl h2
  · exact absurd rfl h3
  · rfl
theorem mvP_ok (P : List (List UInt8)) (h : (mvP P).2 = true) : eok (mvP P).1 = true := by
  unfold mvP at h ⊢
  split at h
  · next a b =>
    have r := kst_range a 9
    have f := mnum_le b
    simp at h
    simp only
    unfold eok inb
    simp
    omega
  · next a b c =>
    have r := kst_range a 9
    have f := mnum_le b
    have fc := mnum_le c
    split at h
    · next hk =>
      simp at h
      simp only [if_pos hk]
      unfold eok inb
      simp
      omega
    · next hk =>
      simp at h
      simp only [if_neg hk]
      unfold eok inb
      simp
      omega
  · cases h
theorem mnum_itoa (n : Int) (h0 : 0 ≤ n) (h6 : n ≤ 999999) : mnum (Lib.itoa n) = n := by
  have := mnum_dec n.toNat (by omega)
  rw [← itoa_dec n h0, Int.toNat_of_nonneg h0] at this
  exact this
theorem mvP_line {g : Fc} (h : eok g = true) : mvP (wordK g.n :: Lib.itoa g.i :: third g) = (g, true) := by
  obtain ⟨n1, n9, i0, i6, s0, s6⟩ := eok_all h
  have e1 := kst_word g.n n1 n9
  have e2 := mnum_itoa g.i i0 i6
  unfold third
  split
  · next hg =>
    obtain ⟨k2, k0⟩ := eok_keep h hg
    simp only [mvP]
    rw [e1, e2, if_pos ⟨k2, trivial⟩]
    obtain ⟨a, b, c, d⟩ := g
    simp only at k2 k0 hg i0
    subst k2 k0 hg
    simp [i0]
  · next hg =>
    have hg' : g.g = false := by simpa using hg
    split
    · next hs =>
      have e3 := mnum_itoa g.s s0 s6
      simp only [mvP]
      rw [e1, e2, e3, if_neg]
      · obtain ⟨a, b, c, d⟩ := g
        simp only at hg' i0 s0 n1
        subst hg'
        simp [i0, s0]
        omega
      · rintro ⟨_, e⟩
        have hf := dd_fig (g.s.toNat + 1) g.s.toNat (by omega) 107 (by rw [← itoa_dec _ s0, e]; simp)
        have : (107 : UInt8).toNat = 107 := rfl
        omega
    · next hs =>
      have hs0 : g.s = 0 := by omega
      simp only [mvP]
      rw [e1, e2]
      obtain ⟨a, b, c, d⟩ := g
      simp only at hg' hs0 i0 n1
      subst hg' hs0
      simp [i0]
      omega
theorem snum_lit (s : ByteArray) (n : Int) (hs : s.size ≤ 1048576) (hn : mnum s.data.toList = n) (w : World) :
    Calls Tryz.prog 15 #[.string s] w fun e w' => e = .returned (.int .i64 n) ∧ Below w.heap.size w w' := hn ▸ snum_any s w hs
theorem cell_afar {w : World} {b g k o : Nat} {v u : Value} (hne : g ≠ b) (h : w.cell? ⟨g, o, none⟩ = some u) : (w.setCell ⟨b, k, none⟩ v).cell? ⟨g, o, none⟩ = some u := by
  rw [← h]
  exact World.cell?_of_block (Below.heap_setCell _ _ _ _ (fun e => hne e))
theorem cutL_mem (c : UInt8) : ∀ (s : List UInt8), ∀ p ∈ cutL c s, p.length ≤ s.length
  | [], p, hp => by simp [cutL] at hp; simp [hp]
  | x :: r, p, hp => by
    have ih := cutL_mem c r
    rw [cutL] at hp
    split at hp
    · rcases List.mem_cons.1 hp with e | e
      · simp [e]
      · have := ih p e; simp; omega
    · split at hp
      · simp at hp; simp [hp]
      · next q ps e =>
        rcases List.mem_cons.1 hp with h | h
        · have := ih q (by rw [e]; simp)
          rw [h]; simp; exact this
        · have := ih p (by rw [e]; exact List.mem_cons_of_mem _ h); simp; omega
theorem scut_cells (s : ByteArray) (c : UInt8) (n : Int) (hn : (c.toNat : Int) = n) (hs : s.size ≤ 1048576) (w : World) :
    Calls Tryz.prog 9 #[.string s, .int .u8 n] w fun e w' => ∃ g cp, e = .returned (.slice (some ⟨g, 0, none⟩) (cutL c s.data.toList).length cp) ∧ w.heap.size ≤ g ∧ g < w'.heap.size ∧ (∀ j p, (cutL c s.data.toList)[j]? = some p → w'.cell? ⟨g, j, none⟩ = some (.string (bs p))) ∧ Below w.heap.size w w' := by
  subst hn
  refine (scut_any s c hs w).mono ?_
  rintro e w' ⟨v, rfl, hown, hb⟩
  rcases hown.2 with ⟨_, h0⟩ | ⟨g, cap, cur, rfl, hg, hh, _⟩
  · exact absurd (List.length_eq_zero_iff.1 h0) (cutL_ne c _)
  · refine ⟨g, cap, rfl, hg, lt_of_block hh, fun j p hj => ?_, hb⟩
    have := hown.cells (g := g) rfl j (.string (bs p)) (by unfold svs; rw [List.getElem?_map, hj]; rfl)
    cases j <;> simpa [Addr.add] using this
end Go.Proofs.YtlebggbbhkiokaaGreatDoor
