/- Facts held against each other. -/
import Derived.Test.YthfafmafhodlkaaTable
namespace Go.Proofs.Ythfafmafhodlkaa
open Go.ChangeShapes Go.WideShapes Go.ChangeAt Go.RowKit
attribute [local go_sem ↓] Go.wp_at_zero Go.wp_at_succ
set_option maxHeartbeats 400000 in
theorem eqFactS_same (a a' : Option Addr) (len cap cap' : Nat) (F : Nat → Fc) (w : World) (h : FSl w a len F) (h' : FSl w a' len F) (hl : len ≤ 1048576) :
    Calls Try.prog 15 #[.slice a len cap, .slice a' len cap'] w fun e w' => e = .returned (.bool true) ∧ Below w.heap.size w w' := by
  go_enter Try.func15, Try.ntmps15
  go_wp2
  go_loopw [5] (fun i wr => ∃ k : Nat, k ≤ len ∧ i = .int .i64 k ∧ Below w.heap.size w wr) (fun i _ => len - (intOf i).toNat)
  case atStart => exact ⟨0, Nat.zero_le _, rfl, Below.refl _ _⟩
  case round =>
    obtain ⟨k, hk, rfl, hb⟩ := hrel
    by_cases hlt : k < len
    · obtain ⟨b, off, rfl, hbl, hf⟩ := h (by omega)
      obtain ⟨c0, c1, c2, c3⟩ := (hf.below hb hbl) k hlt
      obtain ⟨b', off', rfl, hbl', hf'⟩ := h' (by omega)
      obtain ⟨d0, d1, d2, d3⟩ := (hf'.below hb hbl') k hlt
      have i0 : (0 : Int) ≤ (k : Int) := by omega
      have i1 : (k : Int) < (len : Int) := by omega
      go_wp2_with fail
      go_region_held3 (fun w' => w'.cell? ⟨b, off + k * 4, none⟩ = some (.int .i64 (F k).n) ∧ w'.cell? ⟨b, off + k * 4 + 1, none⟩ = some (.int .i64 (F k).i) ∧ w'.cell? ⟨b, off + k * 4 + 2, none⟩ = some (.int .i64 (F k).s) ∧ w'.cell? ⟨b, off + k * 4 + 3, none⟩ = some (.bool (F k).g) ∧ w'.cell? ⟨b', off' + k * 4, none⟩ = some (.int .i64 (F k).n) ∧ w'.cell? ⟨b', off' + k * 4 + 1, none⟩ = some (.int .i64 (F k).i) ∧ w'.cell? ⟨b', off' + k * 4 + 2, none⟩ = some (.int .i64 (F k).s) ∧ w'.cell? ⟨b', off' + k * 4 + 3, none⟩ = some (.bool (F k).g)) (refine ⟨?_, ?_, ?_, ?_, ?_, ?_, ?_, ?_⟩ <;> (repeat (first | with_reducible assumption | with_reducible refine keep_drew ?_ | with_reducible refine keep_below (by assumption) ?_))) (first | (go_at_call 33; refine (eqFact_same _ _ _ _ _).mono ?_; rintro e w1 ⟨rfl, b1⟩))
      go_wp2
      go_roundw
      case rel => exact ⟨k + 1, by omega, by go_num, btrans hb.drew b1⟩
      case measure => simp [intOf]; omega
    · go_wp2
      go_ret
      exact ⟨rfl, hb⟩
end Go.Proofs.Ythfafmafhodlkaa
