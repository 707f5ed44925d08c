/- Tables: what is ok, the program's way; two lists with the same facts are the same. -/
import Derived.Test.YthfafmafhodlkaaInts
namespace Go.Proofs.Ythfafmafhodlkaa
open Go.ChangeShapes Go.WideShapes Go.ChangeAt Go.RowKit
attribute [local go_sem ↓] Go.wp_at_zero Go.wp_at_succ
def allB (len : Nat) (F : Nat → Fc) : Bool := decide (∀ k, k < len → fokB (F k).n (F k).i (F k).s = true)
def ascB (len : Nat) (F : Nat → Fc) : Bool := decide (∀ k, k < len → 0 < k → (F (k - 1)).n < (F k).n)
/-- a table that is ok -/
def tokB (len : Nat) (F : Nat → Fc) : Bool := allB len F && ascB len F
theorem key_any (n i s : Int) (g : Bool) (w : World) :
    Calls Try.prog 69 #[.agg #[.int .i64 n, .int .i64 i, .int .i64 s, .bool g]] w fun r w' => r = .returned (.int .i64 n) ∧ Below w.heap.size w w' := by
  go_enter Try.func69, Try.ntmps69
  go_wp2
  go_ret
  exact ⟨rfl, balloc _ (Below.refl _ _)⟩
theorem fok_below (n i s : Int) (g : Bool) (w : World) :
    Calls Try.prog 27 #[.agg #[.int .i64 n, .int .i64 i, .int .i64 s, .bool g]] w fun r w' => r = .returned (.bool (fokB n i s)) ∧ Below w.heap.size w w' :=
  (fok_any n i s g w).mono (by rintro r w' ⟨rfl, o1, rfl⟩; exact ⟨rfl, balloc _ (Below.refl _ _)⟩)
theorem sfok_below (n i s : Int) (g : Bool) (w : World) :
    Calls Try.prog 30 #[.agg #[.int .i64 n, .int .i64 i, .int .i64 s, .bool g]] w fun r w' => r = .returned (.bool (fokB n i s)) ∧ Below w.heap.size w w' :=
  (sfok_any n i s g w).mono (by rintro r w' ⟨rfl, o1, rfl⟩; exact ⟨rfl, balloc _ (Below.refl _ _)⟩)
theorem eqFact_same (n i s : Int) (g : Bool) (w : World) :
    Calls Try.prog 33 #[.agg #[.int .i64 n, .int .i64 i, .int .i64 s, .bool g], .agg #[.int .i64 n, .int .i64 i, .int .i64 s, .bool g]] w fun r w' => r = .returned (.bool true) ∧ Below w.heap.size w w' := by
  have e0 : (g != g) = false := by simp
  go_enter Try.func33, Try.ntmps33
  go_wp2
  go_ret
  exact ⟨rfl, balloc _ (balloc _ (Below.refl _ _))⟩
end Go.Proofs.Ythfafmafhodlkaa
