/- Lists of numbers in memory; whether they rise. -/
import Derived.Test.YtgcdcfjaeehnbaaGreatFacts
namespace Go.Proofs.YtgcdcfjaeehnbaaGreat
open Go.ChangeShapes Go.WideShapes Go.ChangeAt Go.RowKit
attribute [local go_sem ↓] Go.wp_at_zero Go.wp_at_succ
theorem QB {a w : World} {n : Nat} (h : Below a.heap.size a w) : Below a.heap.size a (w.drewN n) := ⟨h.os, h.tape, h.output, h.size, h.block⟩
/-- numbers lie in block b, from off on -/
def IntsIn (w : World) (b off len : Nat) (f : Nat → Int) : Prop := ∀ k, k < len → w.cell? ⟨b, off + k, none⟩ = some (.int .i64 (f k))
def ISl (w : World) (a : Option Addr) (len : Nat) (f : Nat → Int) : Prop := 0 < len → ∃ b off, a = some ⟨b, off, none⟩ ∧ b < w.heap.size ∧ IntsIn w b off len f
theorem IntsIn.below {B : Nat} {w w' : World} {b off len : Nat} {f : Nat → Int} (h : IntsIn w b off len f) (hb : Below B w w') (hl : b < B) : IntsIn w' b off len f := fun k hk => (hb.cell (p := ⟨b, _, none⟩) hl).trans (h k hk)
theorem ISl.below {w w' : World} {a : Option Addr} {len : Nat} {f : Nat → Int} (h : ISl w a len f) (hb : Below w.heap.size w w') : ISl w' a len f := fun hl => by
  obtain ⟨b, off, e, hlt, hf⟩ := h hl
  exact ⟨b, off, e, by have := hb.size; omega, hf.below hb hlt⟩
/-- a list of numbers, as cells -/
def iv (f : Nat → Int) (n : Nat) : List Value := (List.range n).map fun j => Value.int .i64 (f j)
theorem iv_succ (f : Nat → Int) (n : Nat) : iv f (n + 1) = iv f n ++ [.int .i64 (f n)] := by simp [iv, List.range_succ]
theorem iv_get (f : Nat → Int) (n j : Nat) (h : j < n) : (iv f n)[j]? = some (.int .i64 (f j)) := by simp [iv, h]
theorem own_below {w w' : World} {base size n : Nat} {e : TypeId} {v : Value} {xs : List Value} (h : w.ownsRow base e size v n xs) (hb : Below w.heap.size w w') : w'.ownsRow base e size v n xs := by
  refine ⟨h.1, h.2.imp id ?_⟩
  rintro ⟨g, cap, cur, hv, hg, hh, r⟩
  exact ⟨g, cap, cur, hv, hg, (hb.block g (lt_of_block hh)).trans hh, r⟩
theorem own_ints {w : World} {base n : Nat} {e : TypeId} {v : Value} {f : Nat → Int} (h : w.ownsRow base e 1 v n (iv f n)) : ∃ a cap, v = .slice a n cap ∧ n ≤ cap ∧ ISl w a n f := by
  have h0 := h
  rcases h.2 with ⟨rfl, rfl⟩ | ⟨g, cap, cur, rfl, hg, hh, hc, _⟩
  · exact ⟨none, 0, rfl, Nat.le_refl _, fun h => by omega⟩
  · exact ⟨_, cap, rfl, hc, fun _ => ⟨g, 0, rfl, lt_of_block hh, fun k hk => by rw [Nat.zero_add]; exact (h0.cellAt k (by omega)).trans (iv_get f n k hk)⟩⟩
theorem own_grow {a w w' : World} {v : Value} {B n : Nat} {e : TypeId} {size : Nat} {xs : List Value} (hb : Below B a w) (hB : B ≤ w.heap.size) (ho : w.ownsRow B e size v n xs) (hg : w.grownBy w' v.ownBlock) : Below B a w' :=
  hb.grown hg hB (fun k hk => (ho.lt k hk).1)
theorem info3 : (Tryz.prog.info? 3).map (fun i => (i.zero, i.size, i.bytes)) = some (some (.int .i64 0), 1, 8) := by kernel_rfl
def risB (len : Nat) (f : Nat → Int) : Bool := decide (∀ k, k < len → 0 < k → f (k - 1) < f k)
set_option maxRecDepth 10000 in
set_option maxHeartbeats 1000000 in
theorem rising_any (a : Option Addr) (len cap : Nat) (f : Nat → Int) (w : World) (h : ISl w a len f) (hl : len ≤ 1048576) :
    Calls Tryz.prog 165 #[.slice a len cap] w fun e w' => e = .returned (.bool (risB len f)) ∧ Below w.heap.size w w' := by
  go_enter Tryz.func165, Tryz.ntmps165
  go_wp2
  go_loopw [3] (fun i wr => ∃ m : Nat, (m < len ∨ m = 0) ∧ i = .int .i64 ((m : Int) + 1) ∧ Below w.heap.size w wr ∧ (∀ j, j < m + 1 → 0 < j → f (j - 1) < f j)) (fun i _ => len - (intOf i).toNat)
  case atStart => exact ⟨0, by omega, rfl, Below.refl _ _, fun j h1 h2 => by omega⟩
  case round =>
    obtain ⟨m, hk, rfl, hb, hall⟩ := hrel
    by_cases hlt : m + 1 < len
    · obtain ⟨b, off, rfl, hbl, hf⟩ := h (by omega)
      have c0 := (hf.below hb hbl) m (by omega)
      have d0 := (hf.below hb hbl) (m + 1) hlt
      have i0 : (0 : Int) ≤ (m : Int) := by omega
      have i1 : (m : Int) + 1 < (len : Int) := by omega
      have i2 : (m : Int) < (len : Int) := by omega
      have i3 : (0 : Int) ≤ (m : Int) + 1 := by omega
      have i4 : IntKind.i64.wrap (m : Int) = (m : Int) := by rw [IntKind.wrap_i64]; omega
      have i5 : IntKind.i64.wrap ((m : Int) + 1 - 1) = (m : Int) := by rw [IntKind.wrap_i64]; omega
      go_wp2
      go_quiet (fail)
      by_cases hc : f (m + 1) ≤ f m
      · go_wp2
        go_ret
        refine ⟨ret_bool ?_, QB hb⟩
        unfold risB
        symm
        refine decide_eq_false fun h => ?_
        have := h (m + 1) hlt (by omega)
        simp at this
        omega
      · go_wp2
        go_roundw
        case rel => exact ⟨m + 1, by omega, by go_num, QB hb, fun j hj h0 => by
          by_cases e : j = m + 1
          · subst e; simp; omega
          · exact hall j (by omega) h0⟩
        case measure => simp [intOf]; omega
    · go_wp2
      go_ret
      refine ⟨ret_bool ?_, hb⟩
      unfold risB
      symm
      rw [decide_eq_true_iff]
      exact fun j hj h0 => hall j (by omega) h0
end Go.Proofs.YtgcdcfjaeehnbaaGreat
