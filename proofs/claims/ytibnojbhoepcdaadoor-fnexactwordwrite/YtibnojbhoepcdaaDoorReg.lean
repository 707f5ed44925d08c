/- The register: a map of facts behind its order, in memory. -/
import Derived.Test.YtibnojbhoepcdaaDoorTab
import Derived.Test.YtibnojbhoepcdaaDoorShelf
import Derived.Maps.OwnSet
import Derived.Lib.OwnBridge
import Derived.Sort.OwnSortedInts
import Derived.Sort.LotA
namespace Go.Proofs.YtibnojbhoepcdaaDoor
open Go.ChangeShapes Go.WideShapes Go.ChangeAt Go.RowKit
attribute [local go_sem ↓] Go.wp_at_zero Go.wp_at_succ
/-- a fact as a value, and as it reads -/
abbrev fval (f : Fc) : Value := .agg #[.int .i64 f.n, .int .i64 f.i, .int .i64 f.s, .bool f.g]
def fd (f : Fc) : DataW Unit := .agg [.lit (.int .i64 f.n), .lit (.int .i64 f.i), .lit (.int .i64 f.s), .lit (.bool f.g)]
def fE : Value → Option (DataW Unit × List MemPlace)
  | .agg ⟨[.int .i64 a, .int .i64 b, .int .i64 c, .bool g]⟩ => some (fd ⟨a, b, c, g⟩, [])
  | _ => none
theorem fE_mk (f : Fc) : fE (fval f) = some (fd f, []) := rfl
theorem fE_inv {v : Value} {z : DataW Unit × List MemPlace} (h : fE v = some z) : ∃ f, v = fval f ∧ z = (fd f, []) := by
  unfold fE at h
  split at h
  · simp only [Option.some.injEq] at h
    exact ⟨⟨_, _, _, _⟩, rfl, h.symm⟩
  · cases h
theorem fd_inj {f g : Fc} (h : fd f = fd g) : f = g := by
  obtain ⟨a, b, c, d⟩ := f
  obtain ⟨a', b', c', d'⟩ := g
  simpa [fd] using h
/-- the map holds the table -/
def Kept (D : DataW Unit) (T : List Fc) : Prop := ∀ k : Int, Maps.has D (.int .i64 k) = (tget T k).isSome ∧ D.atKey (.int .i64 k) (fd Fc.zero) = fd ((tget T k).getD Fc.zero)
theorem kept_nil : Kept (.map []) [] := fun _ => ⟨rfl, rfl⟩
theorem kept_put {D : DataW Unit} {T : List Fc} {f : Fc} (hD : Maps.IsMap D) (h : Kept D T) (ha : Asc T) (hn : tnew T f = true) : Kept (D.put (.int .i64 f.n) (fd f)) (tput T f) := fun k => by
  rw [tget_tput ha]
  by_cases e : k = f.n
  · subst e
    rw [if_pos ⟨rfl, hn⟩]
    exact ⟨Maps.has_put_same hD (by trivial) _, Maps.atKey_put_same hD (by trivial) _ _⟩
  · rw [if_neg (fun h => e h.1)]
    have hne : (Lit.int .i64 k) ≠ .int .i64 f.n := fun h => e (by simpa using h)
    rw [Maps.has_put_other hne, Maps.atKey_put_other hne]
    exact h k
theorem keyed3 : Maps.Keyed Tryd.prog 3 := Maps.int_keyed Tryd.underlying3
theorem zero30 (w : World) : (zeroValue 53).run Tryd.prog w = .ok (fval Fc.zero) w := by kernel_rfl
end Go.Proofs.YtibnojbhoepcdaaDoor
