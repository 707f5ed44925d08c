/- ScriptRead: the model's way. -/
import Derived.Test.YtlebggbbhkiokaaGreatDoorRSl
import Derived.Test.YtlebggbbhkiokaaGreatDoorRSe
namespace Go.Proofs.YtlebggbbhkiokaaGreatDoor
open Go.ChangeShapes Go.WideShapes Go.ChangeAt Go.RowKit
attribute [local go_sem ↓] Go.wp_at_zero Go.wp_at_succ
/-- the first of a sequence -/
def seqF (F : Nat → Fc) (k : Nat) : List Fc := (List.range k).map F
theorem seqF_succ (F : Nat → Fc) (k : Nat) : seqF F (k + 1) = seqF F k ++ [F k] := by simp [seqF, List.range_succ]
theorem seqF_len (F : Nat → Fc) (k : Nat) : (seqF F k).length = k := by simp [seqF]
/-- what ScriptRead answers: how many events, which, a place, whether it is a script -/
def Out (T : List UInt8) (n : Nat) (F : Nat → Fc) (at_ : Int) (ok : Bool) : Prop :=
  (4000 < T.length ∧ n = 0 ∧ at_ = 0 ∧ ok = false) ∨ (T.length ≤ 4000 ∧ AllL (cutL 10 T) n F ∧ at_ = 0 ∧ ok = true) ∨ (T.length ≤ 4000 ∧ ∃ i G, BadL (cutL 10 T) i G ∧ n = 0 ∧ at_ = (i : Int) + 1 ∧ ok = false)
theorem out_is (T : List UInt8) : ∃ n F at_ ok, Out T n F at_ ok := by
  by_cases h : 4000 < T.length
  · exact ⟨0, fun _ => ⟨0, 0, 0, false⟩, 0, false, .inl ⟨h, rfl, rfl, rfl⟩⟩
  · rcases classL (cutL 10 T) (cutL_ne 10 T) with ⟨n, F, hA⟩ | ⟨i, G, hB⟩
    · exact ⟨n, F, 0, true, .inr (.inl ⟨by omega, hA, rfl, rfl⟩)⟩
    · exact ⟨0, G, _, false, .inr (.inr ⟨by omega, i, G, hB, rfl, rfl, rfl⟩)⟩
/-- events of one's own, a place and a truth are answered -/
def Rows3 (w : World) (n : Nat) (F : Nat → Fc) (at_ : Int) (ok : Bool) (e : Ending) (w' : World) : Prop :=
  ∃ v, e = .returned (.tuple #[v, .int .i64 at_, .bool ok]) ∧ w'.ownsRow w.heap.size 31 4 v n (fl (seqF F n)) ∧ Below w.heap.size w w'
theorem empty_row {base : Nat} {F : Nat → Fc} (W : World) (hb : base ≤ W.heap.size) : (W.alloc (.cells #[] 31)).ownsRow base 31 4 (.slice (some ⟨W.heap.size, 0, none⟩) 0 0) 0 (fl (seqF F 0)) :=
  World.ownsRow_lit W #[] 0 hb (by unfold maxLen; omega) rfl
theorem sll_lit (f : Fc) (x : ByteArray) (hf : eok f = true) (hx : bs (eline f ++ [10]) = x) (w : World) :
    Calls Tryz.prog 11 #[.agg #[.int .i64 f.n, .int .i64 f.i, .int .i64 f.s, .bool f.g]] w fun e w' => e = .returned (.string x) ∧ Below w.heap.size w w' := by
  have hl : eline f = lineN f.n.toNat f.i.toNat f.s.toNat f.g := by
    obtain ⟨n0, n7, i0, i9, s1, s4⟩ := eok_all hf
    unfold eline lineN wordK
    rw [itoa_dec _ i0, itoa_dec _ s1]
    have : 0 < f.s ↔ 0 < f.s.toNat := by omega
    simp only [this]
  obtain ⟨n0, n7, i0, i9, s1, s4⟩ := eok_all hf
  have h := sll_nat f.n.toNat f.i.toNat f.s.toNat f.g (by omega) (by omega) (by omega) w
  rw [Int.toNat_of_nonneg (by omega), Int.toNat_of_nonneg i0, Int.toNat_of_nonneg s1, ← hl, hx] at h
  exact h
theorem sl_lit (s : ByteArray) (f : Fc) (q : Bool) (hs : s.size ≤ 1048576) (hv : mvP (cutL 32 s.data.toList) = (f, q)) (w : World) :
    Calls Tryz.prog 10 #[.string s] w fun e w' => e = .returned (.tuple #[.agg #[.int .i64 f.n, .int .i64 f.i, .int .i64 f.s, .bool f.g], .bool q]) ∧ Below w.heap.size w w' := by
  have := sl_any s hs w
  rw [hv] at this
  exact this
/-- texts lie in a block -/
def Lns (w : World) (g : Nat) (P : List (List UInt8)) : Prop := ∃ cs : Array Value, w.heap[g]? = some (.cells cs 9 (0, 0)) ∧ ∀ (j : Nat) (p : List UInt8), P[j]? = some p → cs[j]? = some (Value.string (bs p))
theorem Lns.cell {w : World} {g : Nat} {P : List (List UInt8)} (h : Lns w g P) {j : Nat} {p : List UInt8} (hp : P[j]? = some p) : w.cell? ⟨g, j, none⟩ = some (.string (bs p)) := by
  obtain ⟨cs, h1, h2⟩ := h
  exact cell_block h1 (h2 j p hp)
theorem Lns.below {w w' : World} {g : Nat} {P : List (List UInt8)} (h : Lns w g P) (hb : Below w.heap.size w w') : Lns w' g P := by
  obtain ⟨cs, h1, h2⟩ := h
  exact ⟨cs, (hb.block g (lt_of_block h1)).trans h1, h2⟩
theorem own_ne {W : World} {base n : Nat} {v : Value} {xs : List Value} (h : W.ownsRow base 31 4 v n xs) {g : Nat} {cs : Array Value} {fr : Nat × Nat} (hb : W.heap[g]? = some (.cells cs 9 fr)) : v.ownBlock ≠ some g := by
  rcases h.2 with ⟨rfl, _⟩ | ⟨g', cap, cur, rfl, _, hg, _⟩
  · simp [Value.ownBlock]
  · intro e
    simp only [Value.ownBlock, Option.some.injEq] at e
    subst e
    rw [hg] at hb
    cases hb
theorem Lns.grown {w w' : World} {g base n : Nat} {P : List (List UInt8)} {v : Value} {xs : List Value} (h : Lns w g P) (ho : w.ownsRow base 31 4 v n xs) (hg : w.grownBy w' v.ownBlock) : Lns w' g P := by
  obtain ⟨cs, h1, h2⟩ := h
  exact ⟨cs, (hg.block g (lt_of_block h1) (fun e => own_ne ho h1 e.symm)).trans h1, h2⟩
theorem scut_lns (s : ByteArray) (c : UInt8) (n : Int) (hn : (c.toNat : Int) = n) (hs : s.size ≤ 1048576) (w : World) :
    Calls Tryz.prog 9 #[.string s, .int .u8 n] w fun e w' => ∃ g cp, e = .returned (.slice (some ⟨g, 0, none⟩) (cutL c s.data.toList).length cp) ∧ Lns w' g (cutL c s.data.toList) ∧ Below w.heap.size w w' := by
  subst hn
  refine (scut_any s c hs w).mono ?_
  rintro e w' ⟨v, rfl, hown, hb⟩
  rcases hown.2 with ⟨_, h0⟩ | ⟨g, cap, cur, rfl, hg, hh, hc1, hc2, hc3, htake⟩
  · exact absurd (List.length_eq_zero_iff.1 h0) (cutL_ne c _)
  · refine ⟨g, cap, rfl, ⟨cur, hh, fun j p hj => ?_⟩, hb⟩
    have h1 : (svs (cutL c s.data.toList))[j]? = some (.string (bs p)) := by unfold svs; rw [List.getElem?_map, hj]; rfl
    rw [← htake, List.getElem?_take] at h1
    split at h1
    · rw [← Array.getElem?_toList]; exact h1
    · cases h1
/-- what is known of the line at hand -/
def At (P : List (List UInt8)) (F : Nat → Fc) (n : Nat) (at_ : Int) (ok : Bool) (k : Nat) : Prop :=
  (eok (F k) = true ∧ P[k]? = some (eline (F k))) ∨ (∃ p, P[k]? = some p ∧ ¬ goodL p ∧ n = 0 ∧ at_ = (k : Int) + 1 ∧ ok = false)
theorem at_line {T : List UInt8} {n : Nat} {F : Nat → Fc} {at_ : Int} {ok : Bool} (h : (AllL (cutL 10 T) n F ∧ at_ = 0 ∧ ok = true) ∨ (∃ i, BadL (cutL 10 T) i F ∧ n = 0 ∧ at_ = (i : Int) + 1 ∧ ok = false)) {k : Nat} (hk : k + 1 < (cutL 10 T).length) (hpre : ∀ i, BadL (cutL 10 T) i F → k ≤ i) : At (cutL 10 T) F n at_ ok k := by
  rcases h with ⟨⟨a, b, c⟩, _, _⟩ | ⟨i, hb, h1, h2, h3⟩
  · obtain ⟨x, y⟩ := c k (by omega)
    exact .inl ⟨x, y⟩
  · have hki := hpre i hb
    obtain ⟨hg, hx⟩ := hb
    by_cases e : k < i
    · obtain ⟨x, y⟩ := hg k e
      exact .inl ⟨x, y⟩
    · obtain rfl : k = i := by omega
      rcases hx with ⟨_, p, hp, hng⟩ | ⟨e2, _⟩
      · exact .inr ⟨p, hp, hng, h1, h2, h3⟩
      · omega
end Go.Proofs.YtlebggbbhkiokaaGreatDoor
