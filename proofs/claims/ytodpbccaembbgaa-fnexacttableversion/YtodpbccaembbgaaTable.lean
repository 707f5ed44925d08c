/- Tables: what is ok, the program's way; two lists with the same facts are the same. -/
import Derived.Test.YtodpbccaembbgaaFacts
namespace Go.Proofs.Ytodpbccaembbgaa
open Go.ChangeShapes Go.WideShapes Go.ChangeAt Go.RowKit
attribute [local go_sem ↓] Go.wp_at_zero Go.wp_at_succ
def allB (len : Nat) (F : Nat → Fc) : Bool := decide (∀ k, k < len → fokB (F k).n (F k).i (F k).s = true)
def ascB (len : Nat) (F : Nat → Fc) : Bool := decide (∀ k, k < len → 0 < k → (F (k - 1)).n < (F k).n)
/-- a table that is ok -/
def tokB (len : Nat) (F : Nat → Fc) : Bool := allB len F && ascB len F
theorem key_any (n i s : Int) (g : Bool) (w : World) :
    Calls Try.prog 84 #[.agg #[.int .i64 n, .int .i64 i, .int .i64 s, .bool g]] w fun r w' => r = .returned (.int .i64 n) ∧ Below w.heap.size w w' := by
  go_enter Try.func84, Try.ntmps84
  go_wp2
  go_ret
  exact ⟨rfl, balloc _ (Below.refl _ _)⟩
theorem fok_below (n i s : Int) (g : Bool) (w : World) :
    Calls Try.prog 14 #[.agg #[.int .i64 n, .int .i64 i, .int .i64 s, .bool g]] w fun r w' => r = .returned (.bool (fokB n i s)) ∧ Below w.heap.size w w' :=
  (fok_any n i s g w).mono (by rintro r w' ⟨rfl, o1, rfl⟩; exact ⟨rfl, balloc _ (Below.refl _ _)⟩)
theorem sfok_below (n i s : Int) (g : Bool) (w : World) :
    Calls Try.prog 15 #[.agg #[.int .i64 n, .int .i64 i, .int .i64 s, .bool g]] w fun r w' => r = .returned (.bool (fokB n i s)) ∧ Below w.heap.size w w' :=
  (sfok_any n i s g w).mono (by rintro r w' ⟨rfl, o1, rfl⟩; exact ⟨rfl, balloc _ (Below.refl _ _)⟩)
set_option maxRecDepth 10000 in
set_option maxHeartbeats 1000000 in
theorem asc_any (a : Option Addr) (len cap : Nat) (F : Nat → Fc) (w : World) (h : FSl w a len F) (hl : len ≤ 1048576) :
    Calls Try.prog 47 #[.slice a len cap] w fun e w' => e = .returned (.bool (ascB len F)) ∧ Below w.heap.size w w' := by
  have hm : ∀ (n i s : Int) (g : Bool) (w : World), (method 213 24 (.agg #[.int .i64 n, .int .i64 i, .int .i64 s, .bool g]) "loop.example/lightship/impl.key").run Try.prog w = .ok (84, .agg #[.int .i64 n, .int .i64 i, .int .i64 s, .bool g]) w := fun _ _ _ _ _ => by kernel_rfl
  go_enter Try.func47, Try.ntmps47
  go_wp2
  go_loopw [3] (fun i wr => ∃ m : Nat, (m < len ∨ m = 0) ∧ i = .int .i64 ((m : Int) + 1) ∧ Below w.heap.size w wr ∧ (∀ j, j < m + 1 → 0 < j → (F (j - 1)).n < (F j).n)) (fun i _ => len - (intOf i).toNat)
  case atStart => exact ⟨0, by omega, rfl, Below.refl _ _, fun j h1 h2 => by omega⟩
  case round =>
    obtain ⟨m, hk, rfl, hb, hall⟩ := hrel
    by_cases hlt : m + 1 < len
    · obtain ⟨b, off, rfl, hbl, hf⟩ := h (by omega)
      obtain ⟨c0, c1, c2, c3⟩ := (hf.below hb hbl) m (by omega)
      obtain ⟨d0, d1, d2, d3⟩ := (hf.below hb hbl) (m + 1) hlt
      have i0 : (0 : Int) ≤ (m : Int) := by omega
      have i1 : (m : Int) + 1 < (len : Int) := by omega
      have i2 : (m : Int) < (len : Int) := by omega
      have i3 : (0 : Int) ≤ (m : Int) + 1 := by omega
      have i4 : IntKind.i64.wrap (m : Int) = (m : Int) := by rw [IntKind.wrap_i64]; omega
      have i5 : IntKind.i64.wrap ((m : Int) + 1 - 1) = (m : Int) := by rw [IntKind.wrap_i64]; omega
      go_wp2_with fail
      go_region_held3 (fun w' => w'.cell? ⟨b, off + m * 4, none⟩ = some (.int .i64 (F m).n) ∧ w'.cell? ⟨b, off + m * 4 + 1, none⟩ = some (.int .i64 (F m).i) ∧ w'.cell? ⟨b, off + m * 4 + 2, none⟩ = some (.int .i64 (F m).s) ∧ w'.cell? ⟨b, off + m * 4 + 3, none⟩ = some (.bool (F m).g) ∧ w'.cell? ⟨b, off + (m + 1) * 4, none⟩ = some (.int .i64 (F (m + 1)).n) ∧ w'.cell? ⟨b, off + (m + 1) * 4 + 1, none⟩ = some (.int .i64 (F (m + 1)).i) ∧ w'.cell? ⟨b, off + (m + 1) * 4 + 2, none⟩ = some (.int .i64 (F (m + 1)).s) ∧ w'.cell? ⟨b, off + (m + 1) * 4 + 3, none⟩ = some (.bool (F (m + 1)).g)) (refine ⟨?_, ?_, ?_, ?_, ?_, ?_, ?_, ?_⟩ <;> (repeat (first | with_reducible assumption | with_reducible refine keep_drew ?_ | with_reducible refine keep_below (by assumption) ?_))) (first | (go_at_call 84; refine (key_any _ _ _ _ _).mono ?_; rintro e w1 ⟨rfl, b1⟩))
      have bb := btrans (btrans hb.drew (by assumption)) b1
      by_cases hc : (F (m + 1)).n ≤ (F m).n
      · go_wp2
        go_ret
        refine ⟨ret_bool ?_, bb⟩
        unfold ascB
        symm
        refine decide_eq_false fun h => ?_
        have := h (m + 1) hlt (by omega)
        simp at this
        omega
      · go_wp2
        go_roundw
        case rel => exact ⟨m + 1, by omega, by go_num, bb, fun j hj h0 => by
          by_cases e : j = m + 1
          · subst e; simp; omega
          · exact hall j (by omega) h0⟩
        case measure => simp [intOf]; omega
    · go_wp2
      go_ret
      refine ⟨ret_bool ?_, hb⟩
      unfold ascB
      symm
      rw [decide_eq_true_iff]
      exact fun j hj h0 => hall j (by omega) h0
set_option maxHeartbeats 400000 in
theorem tok_any (a : Option Addr) (len cap : Nat) (F : Nat → Fc) (w : World) (h : FSl w a len F) (hl : len ≤ 1048576) :
    Calls Try.prog 20 #[.slice a len cap] w fun e w' => e = .returned (.bool (tokB len F)) ∧ Below w.heap.size w w' := by
  go_enter Try.func20, Try.ntmps20
  go_wp2
  go_loopw [4, 7] (fun _ i wr => ∃ k : Nat, k ≤ len ∧ i = .int .i64 k ∧ Below w.heap.size w wr ∧ (∀ j, j < k → fokB (F j).n (F j).i (F j).s = true)) (fun _ i _ => len - (intOf i).toNat)
  case atStart => exact ⟨0, by omega, rfl, Below.refl _ _, fun j h1 => by omega⟩
  case round =>
    obtain ⟨k, hk, rfl, hb, hall⟩ := hrel
    by_cases hlt : k < len
    · obtain ⟨b, off, rfl, hbl, hf⟩ := h (by omega)
      obtain ⟨c0, c1, c2, c3⟩ := (hf.below hb hbl) k hlt
      go_wp2_with fail
      refine (fok_below _ _ _ _ _).mono ?_
      rintro e w1 ⟨rfl, b1⟩
      have hb1 := btrans (balloc _ hb) b1
      by_cases hk : fokB (F k).n (F k).i (F k).s = true
      · go_wp2
        go_roundw
        case rel => exact ⟨k + 1, by omega, by go_num, hb1, fun j hj => by
          by_cases e : j = k
          · subst e; exact hk
          · exact hall j (by omega)⟩
        case measure => simp [intOf]; omega
      · have hk' : fokB (F k).n (F k).i (F k).s = false := by simpa using hk
        go_wp2
        go_ret
        refine ⟨ret_bool ?_, hb1⟩
        unfold tokB allB
        symm
        rw [Bool.and_eq_false_iff]
        exact .inl (decide_eq_false fun h => hk (h k hlt))
    · go_wp2_with fail
      refine (asc_any _ _ _ _ _ (h.below hb) hl).mono ?_
      rintro e w1 ⟨rfl, b1⟩
      go_wp2
      go_ret
      refine ⟨ret_bool ?_, btrans hb b1⟩
      unfold tokB allB
      rw [decide_eq_true fun j hj => hall j (by omega), Bool.true_and]
theorem eqFact_same (n i s : Int) (g : Bool) (w : World) :
    Calls Try.prog 48 #[.agg #[.int .i64 n, .int .i64 i, .int .i64 s, .bool g], .agg #[.int .i64 n, .int .i64 i, .int .i64 s, .bool g]] w fun r w' => r = .returned (.bool true) ∧ Below w.heap.size w w' := by
  have e0 : (g != g) = false := by simp
  go_enter Try.func48, Try.ntmps48
  go_wp2
  go_ret
  exact ⟨rfl, balloc _ (balloc _ (Below.refl _ _))⟩
set_option maxHeartbeats 400000 in
theorem eqFactS_same (a a' : Option Addr) (len cap cap' : Nat) (F : Nat → Fc) (w : World) (h : FSl w a len F) (h' : FSl w a' len F) (hl : len ≤ 1048576) :
    Calls Try.prog 21 #[.slice a len cap, .slice a' len cap'] w fun e w' => e = .returned (.bool true) ∧ Below w.heap.size w w' := by
  go_enter Try.func21, Try.ntmps21
  go_wp2
  go_loopw [5] (fun i wr => ∃ k : Nat, k ≤ len ∧ i = .int .i64 k ∧ Below w.heap.size w wr) (fun i _ => len - (intOf i).toNat)
  case atStart => exact ⟨0, Nat.zero_le _, rfl, Below.refl _ _⟩
  case round =>
    obtain ⟨k, hk, rfl, hb⟩ := hrel
    by_cases hlt : k < len
    · obtain ⟨b, off, rfl, hbl, hf⟩ := h (by omega)
      obtain ⟨c0, c1, c2, c3⟩ := (hf.below hb hbl) k hlt
      obtain ⟨b', off', rfl, hbl', hf'⟩ := h' (by omega)
      obtain ⟨d0, d1, d2, d3⟩ := (hf'.below hb hbl') k hlt
      have i0 : (0 : Int) ≤ (k : Int) := by omega
      have i1 : (k : Int) < (len : Int) := by omega
      go_wp2_with fail
      go_region_held3 (fun w' => w'.cell? ⟨b, off + k * 4, none⟩ = some (.int .i64 (F k).n) ∧ w'.cell? ⟨b, off + k * 4 + 1, none⟩ = some (.int .i64 (F k).i) ∧ w'.cell? ⟨b, off + k * 4 + 2, none⟩ = some (.int .i64 (F k).s) ∧ w'.cell? ⟨b, off + k * 4 + 3, none⟩ = some (.bool (F k).g) ∧ w'.cell? ⟨b', off' + k * 4, none⟩ = some (.int .i64 (F k).n) ∧ w'.cell? ⟨b', off' + k * 4 + 1, none⟩ = some (.int .i64 (F k).i) ∧ w'.cell? ⟨b', off' + k * 4 + 2, none⟩ = some (.int .i64 (F k).s) ∧ w'.cell? ⟨b', off' + k * 4 + 3, none⟩ = some (.bool (F k).g)) (refine ⟨?_, ?_, ?_, ?_, ?_, ?_, ?_, ?_⟩ <;> (repeat (first | with_reducible assumption | with_reducible refine keep_drew ?_ | with_reducible refine keep_below (by assumption) ?_))) (first | (go_at_call 48; refine (eqFact_same _ _ _ _ _).mono ?_; rintro e w1 ⟨rfl, b1⟩))
      go_wp2
      go_roundw
      case rel => exact ⟨k + 1, by omega, by go_num, btrans hb.drew b1⟩
      case measure => simp [intOf]; omega
    · go_wp2
      go_ret
      exact ⟨rfl, hb⟩
end Go.Proofs.Ytodpbccaembbgaa
