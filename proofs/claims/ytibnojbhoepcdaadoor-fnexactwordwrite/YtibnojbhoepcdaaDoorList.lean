/- What a register tells; the program's TableOf, TablePut, TableJoin. -/
import Derived.Test.YtibnojbhoepcdaaDoorRegof
namespace Go.Proofs.YtibnojbhoepcdaaDoor
open Go.ChangeShapes Go.WideShapes Go.ChangeAt Go.RowKit
attribute [local go_sem ↓] Go.wp_at_zero Go.wp_at_succ
set_option maxRecDepth 20000 in
theorem tget_at : ∀ {T : List Fc} (k : Nat), Asc T → k < T.length → tget T (T.getD k Fc.zero).n = some (T.getD k Fc.zero)
  | [], k, _, h => by simp at h
  | g :: r, 0, _, _ => by rw [tget_cons]; simp
  | g :: r, k + 1, h, hk => by
    obtain ⟨h1, h2⟩ := asc_cons.1 h
    have hk' : k < r.length := by simpa using hk
    have e : (g :: r).getD (k + 1) Fc.zero = r.getD k Fc.zero := by simp
    rw [e, tget_cons, if_neg, tget_at k h2 hk']
    have := h1 (r.getD k Fc.zero) (by simp [List.getD, hk'])
    omega
set_option maxRecDepth 20000 in
theorem take_snoc (T : List Fc) (k : Nat) (h : k < T.length) : T.take (k + 1) = T.take k ++ [T.getD k Fc.zero] := by
  rw [List.take_add_one]
  simp [List.getD, h]
end Go.Proofs.YtibnojbhoepcdaaDoor
