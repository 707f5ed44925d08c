/- The register: a map of facts behind its order, in memory. -/
import Derived.Test.YtogoehaagdldnaaGreatDoorTab
import Derived.Test.YtogoehaagdldnaaGreatDoorShelf
import Derived.Maps.OwnSet
import Derived.Lib.OwnBridge
import Derived.Sort.OwnSortedInts
import Derived.Sort.LotA
namespace Go.Proofs.YtogoehaagdldnaaGreatDoor
open Go.ChangeShapes Go.WideShapes Go.ChangeAt Go.RowKit
attribute [local go_sem ↓] Go.wp_at_zero Go.wp_at_succ
/-- a fact as a value, and as it reads -/
abbrev fval (f : Fc) : Value := .agg #[.int .i64 f.n, .int .i64 f.i, .int .i64 f.s, .bool f.g]
def fd (f : Fc) : DataW Unit := .agg [.lit (.int .i64 f.n), .lit (.int .i64 f.i), .lit (.int .i64 f.s), .lit (.bool f.g)]
def fE : Value → Option (DataW Unit × List MemPlace)
  | .agg ⟨[.int .i64 a, .int .i64 b, .int .i64 c, .bool g]⟩ => some (fd ⟨a, b, c, g⟩, [])
  | _ => none
theorem fE_mk (f : Fc) : fE (fval f) = some (fd f, []) := rfl
theorem fE_inv {v : Value} {z : DataW Unit × List MemPlace} (h : fE v = some z) : ∃ f, v = fval f ∧ z = (fd f, []) := by
  unfold fE at h
  split at h
  · simp only [Option.some.injEq] at h
    exact ⟨⟨_, _, _, _⟩, rfl, h.symm⟩
  · cases h
theorem fd_inj {f g : Fc} (h : fd f = fd g) : f = g := by
  obtain ⟨a, b, c, d⟩ := f
  obtain ⟨a', b', c', d'⟩ := g
  simpa [fd] using h
/-- the map holds the table -/
def Kept (D : DataW Unit) (T : List Fc) : Prop := ∀ k : Int, Maps.has D (.int .i64 k) = (tget T k).isSome ∧ D.atKey (.int .i64 k) (fd Fc.zero) = fd ((tget T k).getD Fc.zero)
theorem kept_nil : Kept (.map []) [] := fun _ => ⟨rfl, rfl⟩
theorem kept_put {D : DataW Unit} {T : List Fc} {f : Fc} (hD : Maps.IsMap D) (h : Kept D T) (ha : Asc T) (hn : tnew T f = true) : Kept (D.put (.int .i64 f.n) (fd f)) (tput T f) := fun k => by
  rw [tget_tput ha]
  by_cases e : k = f.n
  · subst e
    rw [if_pos ⟨rfl, hn⟩]
    exact ⟨Maps.has_put_same hD (by trivial) _, Maps.atKey_put_same hD (by trivial) _ _⟩
  · rw [if_neg (fun h => e h.1)]
    have hne : (Lit.int .i64 k) ≠ .int .i64 f.n := fun h => e (by simpa using h)
    rw [Maps.has_put_other hne, Maps.atKey_put_other hne]
    exact h k
theorem keyed3 : Maps.Keyed Tryz.prog 3 := Maps.int_keyed Tryz.underlying3
theorem zero30 (w : World) : (zeroValue 33).run Tryz.prog w = .ok (fval Fc.zero) w := by kernel_rfl
theorem wpList_lookup_fact {w : World} {ops : Array Oper} {rest : List Oper} {o : Oper} {a : Act} {Q : Exit → Act → World → Prop} (hg : o.guard = none) (m x : Operand) (hop : o.op = Op.lookup 54 m x true)
    (b n : Nat) (D : DataW Unit) (T : List Fc) (hm : a.eval m = .map (some b)) (hown : w.ownsMap Tryz.prog 3 fE b n D) (hT : Kept D T) (k : Int) (hx : a.eval x = .int .i64 k) (hk : (Lit.int .i64 k).wf = true)
    (g : Fc) (q : Bool) (hgk : (tget T k).getD Fc.zero = g) (hq : (tget T k).isSome = q)
    (hK : wpList Tryz.prog ops Q rest (a.put o.dst (.tuple #[fval g, .bool q])) w) :
    wpList Tryz.prog ops Q (o :: rest) a w :=
  wpList_lookup_own_ok w hg m x 54 hop 3 33 keyed3 Tryz.underlying54 fE (zero30 w) (fd Fc.zero) [] rfl b n D hm hown _ _ hx (Maps.keyOf_int_mk Tryz.underlying3 hk) (fun v ps hv => by
    obtain ⟨f, rfl, hz⟩ := fE_inv hv
    simp only [Prod.mk.injEq] at hz
    rw [(hT k).2, hgk] at hz
    rw [(hT k).1, hq, ← fd_inj hz.1]
    exact hK)
/-- a register that holds a table -/
def Reg (w : World) (base rb c : Nat) (T : List Fc) : Prop :=
  ∃ v mb D, w.heap[rb]? = some (.cells #[v, .map (some mb)] 56 (0, 0)) ∧ base ≤ rb ∧ base ≤ mb ∧ w.ownsRow base 3 1 v T.length (lv (T.map (·.n))) ∧ w.ownsMap Tryz.prog 3 fE mb c D ∧ Kept D T
theorem Reg.below {w w' : World} {base rb c : Nat} {T : List Fc} (h : Reg w base rb c T) (hb : Below w.heap.size w w') : Reg w' base rb c T := by
  obtain ⟨v, mb, D, h1, h2, h3, h4, h5, h6⟩ := h
  have hm := h5
  obtain ⟨es, clock, e1, r⟩ := h5
  exact ⟨v, mb, D, (hb.block rb (lt_of_block h1)).trans h1, h2, h3, own_below h4 hb, ⟨es, clock, (hb.block mb hm.lt).trans e1, r⟩, h6⟩
end Go.Proofs.YtogoehaagdldnaaGreatDoor
