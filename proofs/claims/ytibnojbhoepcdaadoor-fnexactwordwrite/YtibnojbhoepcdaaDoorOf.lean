/- What a table says of a node: the program's way and the model's; the exact law. -/
import Derived.Test.YtibnojbhoepcdaaDoorList
namespace Go.Proofs.YtibnojbhoepcdaaDoor
open Go.ChangeShapes Go.WideShapes Go.ChangeAt Go.RowKit
attribute [local go_sem ↓] Go.wp_at_zero Go.wp_at_succ
/-- what a table says of a node -/
def tof (len : Nat) (F : Nat → Fc) (x : Int) : Option Fc := if tokB len F = true then tget (seqF F len) x else none
set_option maxRecDepth 20000 in
theorem tok_lit (a : Option Addr) (len cap : Nat) (F : Nat → Fc) (q : Bool) (w : World) (h : FSl w a len F) (hl : len ≤ 1048576) (hq : tokB len F = q) :
    Calls Tryd.prog 39 #[.slice a len cap] w fun e w' => e = .returned (.bool q) ∧ Below w.heap.size w w' := hq ▸ tok_any a len cap F w h hl
set_option maxRecDepth 20000 in
theorem stok_lit (a : Option Addr) (len cap : Nat) (F : Nat → Fc) (q : Bool) (w : World) (h : FSl w a len F) (hl : len ≤ 1048576) (hq : tokB len F = q) :
    Calls Tryd.prog 28 #[.slice a len cap] w fun e w' => e = .returned (.bool q) ∧ Below w.heap.size w w' := hq ▸ stok_any a len cap F w h hl
set_option maxRecDepth 20000 in
theorem blk_below {w w' : World} {b : Nat} {o : Obj} (hb : Below w.heap.size w w') (h : w.heap[b]? = some o) : w'.heap[b]? = some o := (hb.block b (lt_of_block h)).trans h
set_option maxRecDepth 20000 in
theorem fz_block {w : World} {b o : Nat} {cs : Array Value} {t : TypeId} (h : w.heap[b]? = some (.cells cs t (0, 0))) : w.frozen? ⟨b, o, none⟩ = false := by simp [World.frozen?, h]
set_option maxRecDepth 20000 in
theorem set4 {w w' : World} {x y z e : Value} (h : Below w.heap.size w w') :
    Below w.heap.size w ((((w'.setCell ⟨w.heap.size, 0, none⟩ x).setCell ⟨w.heap.size, 1, none⟩ y).setCell ⟨w.heap.size, 2, none⟩ z).setCell ⟨w.heap.size, 3, none⟩ e) :=
  (((h.setCell (p := ⟨w.heap.size, 0, none⟩) (Nat.le_refl _) x).setCell (p := ⟨w.heap.size, 1, none⟩) (Nat.le_refl _) y).setCell (p := ⟨w.heap.size, 2, none⟩) (Nat.le_refl _) z).setCell (p := ⟨w.heap.size, 3, none⟩) (Nat.le_refl _) e
/-- where the first fact of a node lies -/
def Found (len : Nat) (F : Nat → Fc) (x r : Int) : Prop := (r = -1 ∧ ∀ k, k < len → (F k).n ≠ x) ∨ ∃ k : Nat, k < len ∧ r = k ∧ (F k).n = x ∧ ∀ j, j < k → (F j).n ≠ x
set_option maxRecDepth 20000 in
theorem found_none {len : Nat} {F : Nat → Fc} {x : Int} (h : ∀ k, k < len → (F k).n ≠ x) : tget (seqF F len) x = none := by
  unfold tget
  rw [List.find?_eq_none]
  intro g hg
  obtain ⟨k, hk, rfl⟩ := seqF_mem hg
  simpa using h k hk
set_option maxRecDepth 20000 in
theorem found_some {len k : Nat} {F : Nat → Fc} {x : Int} (hk : k < len) (e : (F k).n = x) (h : ∀ j, j < k → (F j).n ≠ x) : tget (seqF F len) x = some (F k) := by
  induction len with
  | zero => omega
  | succ n ih =>
    rw [seqF_succ]
    unfold tget
    rw [List.find?_append]
    rcases Nat.lt_or_ge k n with h1 | h1
    · have := ih h1
      unfold tget at this
      rw [this]
      rfl
    · obtain rfl : k = n := by omega
      have := found_none h
      unfold tget at this
      rw [this]
      simp [e]
end Go.Proofs.YtibnojbhoepcdaaDoor
