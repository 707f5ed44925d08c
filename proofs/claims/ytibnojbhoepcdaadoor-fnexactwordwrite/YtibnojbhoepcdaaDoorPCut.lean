/- A text cut at a byte, and the number that it spells: the model's way. -/
import Derived.Test.YtibnojbhoepcdaaDoorGates
import Derived.Test.YtibnojbhoepcdaaDoorPStr
namespace Go.Proofs.YtibnojbhoepcdaaDoor
open Go.ChangeShapes Go.WideShapes Go.ChangeAt Go.RowKit
theorem sin_lit (n : Nat) (lo hi : Int) (q : Bool) (h : inb (n : Int) lo hi = q) (w : World) : Calls Tryd.prog 26 #[.int .i64 (n : Int), .int .i64 lo, .int .i64 hi] w fun e w' => e = .returned (.bool q) ∧ w' = w := h ▸ lin_any (n : Int) lo hi w
/-- texts in memory -/
def svs (l : List (List UInt8)) : List Value := l.map fun x => .string ⟨x.toArray⟩
theorem cutL_last (c x : UInt8) : ∀ a : List UInt8, cutL c (a ++ [x]) = if x = c then cutL c a ++ [[]] else (cutL c a).dropLast ++ [(cutL c a).getLastD [] ++ [x]]
  | [] => by
    by_cases h : x = c <;> simp [cutL, h]
  | y :: r => by
    rw [List.cons_append, cutL, cutL_last c x r, cutL]
    have hn := cutL_ne c r
    cases hc : cutL c r with
    | nil => exact absurd hc hn
    | cons p ps =>
      by_cases hy : y = c
      · by_cases h : x = c
        · simp [hy, h]
        · simp [hy, h]
      · by_cases h : x = c
        · simp [hy, h]
        · cases ps with
          | nil => simp [hy, h]
          | cons q qs => simp [hy, h]
theorem cutL_len (c : UInt8) : ∀ n (s : List UInt8), s.length ≤ n → (cutL c s).length ≤ n + 1
  | n, [], _ => by simp [cutL]
  | 0, x :: r, h => by simp at h
  | n + 1, x :: r, h => by
    have ih := cutL_len c n r (by simp at h; omega)
    rw [cutL]
    split
    · simp; omega
    · split
      · simp
      · next p ps e => rw [e] at ih; simp at ih ⊢; omega
theorem last_back {l : List (List UInt8)} (h : l ≠ []) : l.dropLast ++ [l.getLastD []] = l := by
  cases l with
  | nil => exact absurd rfl h
  | cons a r => rw [List.getLastD_cons, ← List.getLast_eq_getLastD (by simp)]; exact List.dropLast_concat_getLast _
/-- the byte at a place -/
def byt (s : ByteArray) (i : Nat) : UInt8 := s.data.toList[i]?.getD 0
theorem byt_at (s : ByteArray) (k : Nat) (h : k < s.size) : s[k] = byt s k := by
  unfold byt
  have : s.data.toList[k]? = some s[k] := by
    rw [List.getElem?_eq_getElem (by simpa using h)]; rfl
  rw [this]; rfl
theorem byt_drop (s : ByteArray) (k : Nat) (h : k < s.size) : s.data.toList.drop k = byt s k :: s.data.toList.drop (k + 1) := by
  rw [← byt_at s k h]
  exact List.drop_eq_getElem_cons (by simpa using h)
theorem byt_take (s : ByteArray) (k : Nat) (h : k < s.size) : s.data.toList.take (k + 1) = s.data.toList.take k ++ [byt s k] := by
  rw [← byt_at s k h]
  exact List.take_succ_eq_append_getElem (by simpa using h)
theorem ext_list (s : ByteArray) (a b : Nat) : s.extract a b = ⟨((s.data.toList.take b).drop a).toArray⟩ := by
  apply ByteArray.ext
  apply Array.toList_inj.1
  rw [ByteArray.data_extract]
  simp [List.extract_eq_take_drop, List.drop_take]
/-- what is behind the last cut -/
structure Cutting (c : UInt8) (s : ByteArray) (i f : Nat) : Prop where
  le : f ≤ i
  last : (cutL c (s.data.toList.take i)).getLastD [] = (s.data.toList.take i).drop f
end Go.Proofs.YtibnojbhoepcdaaDoor
