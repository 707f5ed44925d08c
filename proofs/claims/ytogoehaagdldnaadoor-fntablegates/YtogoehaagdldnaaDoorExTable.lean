/- The exact law of TableOk, walked. -/
import Derived.Test.YtogoehaagdldnaaDoorSTable
namespace Go.Proofs.YtogoehaagdldnaaDoor
open Go.ChangeShapes Go.WideShapes Go.ChangeAt Go.RowKit
attribute [local go_sem ↓] Go.wp_at_zero Go.wp_at_succ
theorem szFactS_over (a : Option Addr) (len cap : Nat) (w : World) (h1 : 1048576 < len) (hl : len ≤ maxLen) :
    Calls Tryd.prog 16 #[.slice a len cap, .int .i64 1048576] w fun e w' => e = .returned (.int .i64 (-1)) ∧ w' = w :=
  (szFactS_any a len cap 1048576 w (by omega) (by omega) hl).mono (by rintro e w' ⟨rfl, rfl⟩; rw [if_pos (by omega)]; exact ⟨rfl, rfl⟩)
theorem szFactS_in (a : Option Addr) (len cap : Nat) (w : World) (h1 : len ≤ 1048576) :
    Calls Tryd.prog 16 #[.slice a len cap, .int .i64 1048576] w fun e w' => ∃ n : Nat, e = .returned (.int .i64 (n : Int)) ∧ w' = w :=
  (szFactS_any a len cap 1048576 w (by omega) (by omega) (by unfold maxLen; omega)).mono (by rintro e w' ⟨rfl, rfl⟩; rw [if_neg (by omega)]; exact ⟨1048576 - len, ret_int (by omega), rfl⟩)
end Go.Proofs.YtogoehaagdldnaaDoor
