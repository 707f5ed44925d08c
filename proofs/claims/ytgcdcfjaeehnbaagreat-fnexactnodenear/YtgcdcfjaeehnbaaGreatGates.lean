/- Gateways: the program's way and the model's; marks in lists. -/
import Derived.Test.YtgcdcfjaeehnbaaGreatExVersion
import Derived.Laws.OwnMore
namespace Go.Proofs.YtgcdcfjaeehnbaaGreat
open Go.ChangeShapes Go.WideShapes Go.ChangeAt Go.RowKit
attribute [local go_sem ↓] Go.wp_at_zero Go.wp_at_succ
/-- numbers as cells -/
def lv (L : List Int) : List Value := L.map (Value.int .i64)
/-- the first n of those that may be gateways and live, among the first k -/
def gsel (F : Nat → Fc) (n : Int) : Nat → List Int
  | 0 => []
  | k + 1 => if ((gsel F n k).length : Int) < n ∧ (F k).g = true ∧ (F k).s = 1 then gsel F n k ++ [(F k).n] else gsel F n k
def gT (len : Nat) (F : Nat → Fc) (n : Int) : List Int := if tokB len F = true then gsel F n len else []
theorem eqInts_same (a a' : Option Addr) (len cap cap' : Nat) (f : Nat → Int) (w : World) (h : ISl w a len f) (h' : ISl w a' len f) (hl : len ≤ 1048576) :
    Calls Tryz.prog 20 #[.slice a len cap, .slice a' len cap'] w fun e w' => e = .returned (.bool true) ∧ Below w.heap.size w w' := by
  go_enter Tryz.func20, Tryz.ntmps20
  go_wp2
  go_loopw [5] (fun i wr => ∃ k : Nat, k ≤ len ∧ i = .int .i64 k ∧ Below w.heap.size w wr) (fun i _ => len - (intOf i).toNat)
  case atStart => exact ⟨0, Nat.zero_le _, rfl, Below.refl _ _⟩
  case round =>
    obtain ⟨k, hk, rfl, hb⟩ := hrel
    by_cases hlt : k < len
    · obtain ⟨b, off, rfl, hbl, hf⟩ := h (by omega)
      have c0 := (hf.below hb hbl) k hlt
      obtain ⟨b', off', rfl, hbl', hf'⟩ := h' (by omega)
      have d0 := (hf'.below hb hbl') k hlt
      have i0 : (0 : Int) ≤ (k : Int) := by omega
      have i1 : (k : Int) < (len : Int) := by omega
      have e0 : ¬ (f k ≠ f k) := by simp
      go_wp2
      go_quiet (fail)
      go_wp2
      go_roundw
      case rel => exact ⟨k + 1, by omega, by go_num, QB hb⟩
      case measure => simp [intOf]; omega
    · go_wp2
      go_ret
      exact ⟨rfl, hb⟩
/-- the marks -/
def mk (k0 : Nat) (n : Nat) : List Value := (List.range n).map fun j => Value.int .i64 ((k0 + j : Nat) : Int)
end Go.Proofs.YtgcdcfjaeehnbaaGreat
