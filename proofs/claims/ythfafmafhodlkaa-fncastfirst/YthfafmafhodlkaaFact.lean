/- Facts: what is ok, what overrides: the program's and the model's come to the same plain functions. -/
import Derived.Test.YthfafmafhodlkaaProg
import Derived.Below
import Derived.LoopTactic
import Derived.WalkKit
import Derived.ProofKit
import Derived.WalkLawsBesides
import Derived.Deep.QuietTactic
import Derived.BigQuiet
import Derived.Deep.RegionHeld3
import Derived.Deep.DrawnRows
namespace Go.Proofs.Ythfafmafhodlkaa
open Go.ChangeShapes Go.WideShapes Go.ChangeAt Go.RowKit
theorem ret_int {k : IntKind} {a b : Int} (h : a = b) : Ending.returned (.int k a) = .returned (.int k b) := by rw [h]
theorem ret_bool {a b : Bool} (h : a = b) : Ending.returned (.bool a) = .returned (.bool b) := by rw [h]
theorem balloc {w w' : World} (o : Obj) (h : Below w.heap.size w w') : Below w.heap.size w (w'.alloc o) := h.alloc h.size o
theorem btrans {a W w' : World} (h : Below a.heap.size a W) (k : Below W.heap.size W w') : Below a.heap.size a w' := h.trans (k.mono h.size)
theorem bcell {W w1 : World} (hb : Below W.heap.size W w1) : (∀ b o, b < W.heap.size → w1.cell? ⟨b, o, none⟩ = W.cell? ⟨b, o, none⟩) ∧ (∀ b o, b < W.heap.size → w1.frozen? ⟨b, o, none⟩ = W.frozen? ⟨b, o, none⟩) :=
  ⟨fun b o h => hb.cell (p := ⟨b, o, none⟩) h, fun b o h => hb.frozen (p := ⟨b, o, none⟩) h⟩
def inb (n lo hi : Int) : Bool := decide (lo ≤ n) && decide (n ≤ hi)
def fokB (n i s : Int) : Bool := inb n 0 7 && inb i 0 999 && inb s 1 4
/-- a fact as a value -/
abbrev F4 (n i s : Int) (g : Bool) : Value := .agg #[.int .i64 n, .int .i64 i, .int .i64 s, .bool g]
theorem within_any (n lo hi : Int) (w : World) :
    Calls Try.prog 28 #[.int .i64 n, .int .i64 lo, .int .i64 hi] w fun e w' => e = .returned (.bool (inb n lo hi)) ∧ w' = w := by
  go_enter Try.func28, Try.ntmps28
  go_wp2
  all_goals (go_ret; exact ⟨ret_bool (by unfold inb; by_cases h1 : lo ≤ n <;> by_cases h2 : n ≤ hi <;> simp [h1, h2] <;> omega), rfl⟩)
theorem lin_any (n lo hi : Int) (w : World) :
    Calls Try.prog 31 #[.int .i64 n, .int .i64 lo, .int .i64 hi] w fun e w' => e = .returned (.bool (inb n lo hi)) ∧ w' = w := by
  go_enter Try.func31, Try.ntmps31
  go_wp2
  all_goals (go_ret; exact ⟨ret_bool (by unfold inb; by_cases h1 : lo ≤ n <;> by_cases h2 : n ≤ hi <;> simp [h1, h2] <;> omega), rfl⟩)
theorem nodeOk_any (n : Int) (w : World) :
    Calls Try.prog 42 #[.int .i64 n] w fun e w' => e = .returned (.bool (inb n 0 7)) ∧ w' = w := by
  go_enter Try.func42, Try.ntmps42
  go_wp2_with (go_at_call 28; refine (within_any _ _ _ _).mono ?_; rintro e w' ⟨rfl, rfl⟩)
  go_ret
  exact ⟨rfl, rfl⟩
theorem sfok_any (n i s : Int) (g : Bool) (w : World) :
    Calls Try.prog 30 #[.agg #[.int .i64 n, .int .i64 i, .int .i64 s, .bool g]] w fun r w' => r = .returned (.bool (fokB n i s)) ∧ ∃ o, w' = w.alloc o := by
  go_enter Try.func30, Try.ntmps30
  go_wp2_with (go_at_call 31; refine (lin_any _ _ _ _).mono ?_; rintro e w' ⟨rfl, rfl⟩)
  all_goals (go_ret; exact ⟨ret_bool (by simp_all [fokB]), _, rfl⟩)
theorem fok_any (n i s : Int) (g : Bool) (w : World) :
    Calls Try.prog 27 #[.agg #[.int .i64 n, .int .i64 i, .int .i64 s, .bool g]] w fun r w' => r = .returned (.bool (fokB n i s)) ∧ ∃ o, w' = w.alloc o := by
  go_enter Try.func27, Try.ntmps27
  go_wp2_with (first | (go_at_call 28; refine (within_any _ _ _ _).mono ?_; rintro e w' ⟨rfl, rfl⟩) | (go_at_call 42; refine (nodeOk_any _ _).mono ?_; rintro e w' ⟨rfl, rfl⟩))
  all_goals (go_ret; exact ⟨ret_bool (by simp_all [fokB]), _, rfl⟩)
theorem toFact_any (n i s : Int) (g : Bool) (w : World) :
    Calls Try.prog 44 #[.agg #[.int .i64 n, .int .i64 i, .int .i64 s, .bool g]] w fun r w' => r = .returned (.agg #[.int .i64 n, .int .i64 i, .int .i64 s, .bool g]) ∧ ∃ o1 o2 o3, w' = ((w.alloc o1).alloc o2).alloc o3 := by
  go_enter Try.func44, Try.ntmps44
  go_wp2
  exact bodyPost_ret (v := .agg #[.int .i64 n, .int .i64 i, .int .i64 s, .bool g]) (by simp [results, Try.results44, go_sem]) rfl ⟨rfl, _, _, _, rfl⟩
/-- a fact overrides another one, numbers alone -/
def l3B (i s : Int) (g : Bool) (i' s' : Int) (g' : Bool) : Bool := if i ≠ i' then decide (i' < i) else if s ≠ s' then decide (s' < s) else g && !g'
def overB (n i s : Int) (g : Bool) (n' i' s' : Int) (g' : Bool) : Bool := fokB n i s && fokB n' i' s' && decide (n = n') && l3B i s g i' s' g'
theorem l3_any (n i s : Int) (g : Bool) (n' i' s' : Int) (g' : Bool) (w : World) :
    Calls Try.prog 52 #[.agg #[.int .i64 n, .int .i64 i, .int .i64 s, .bool g], .agg #[.int .i64 n', .int .i64 i', .int .i64 s', .bool g']] w fun r w' => r = .returned (.bool (l3B i s g i' s' g')) ∧ ∃ o1 o2, w' = (w.alloc o1).alloc o2 := by
  go_enter Try.func52, Try.ntmps52
  go_wp2
  all_goals (go_ret; exact ⟨ret_bool (by unfold l3B; simp_all), _, _, rfl⟩)
end Go.Proofs.Ythfafmafhodlkaa
