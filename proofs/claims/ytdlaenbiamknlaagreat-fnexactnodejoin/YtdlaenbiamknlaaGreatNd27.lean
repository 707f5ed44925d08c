/- Nodes: at every node NodeOk answers as its model does. -/
import Derived.Test.YtdlaenbiamknlaaGreatNd25
import Derived.Test.YtdlaenbiamknlaaGreatNd24
namespace Go.Proofs.YtdlaenbiamknlaaGreat
open Go.ChangeShapes Go.WideShapes Go.ChangeAt Go.RowKit
attribute [local go_sem ↓] Go.wp_at_zero Go.wp_at_succ
theorem DtEq.symm' {x y z : Dt} (h : DtEq x z) (h' : DtEq y z) : DtEq x y := by
  obtain ⟨a0, a1, a2, a3, a4⟩ := h
  obtain ⟨b0, b1, b2, b3, b4⟩ := h'
  exact ⟨a0.trans b0.symm, a1.trans b1.symm, a2.trans b2.symm, a3.trans b3.symm, a4.trans b4.symm⟩
theorem PlEq.symm' {x y z : Pl} (h : PlEq x z) (h' : PlEq y z) : PlEq x y := by
  obtain ⟨a0, a1, a2, a3, a4, a5, a6⟩ := h
  obtain ⟨b0, b1, b2, b3, b4, b5, b6⟩ := h'
  exact ⟨a0.trans b0.symm, a1.trans b1.symm, a2.trans b2.symm, a3.trans b3.symm, a4.trans b4.symm, a5.trans b5.symm, a6.trans b6.symm⟩
theorem FgEq.symm' {x y z : Fg} (h : FgEq x z) (h' : FgEq y z) : FgEq x y := by
  obtain ⟨a0, a1, a2⟩ := h
  obtain ⟨b0, b1, b2⟩ := h'
  exact ⟨a0.trans b0.symm, a1.trans b1.symm, a2.trans b2.symm⟩
theorem row32 : ∃ d, Tryz.prog.underlying 32 = some d ∧ d.isRow = true := by
  have h : (Tryz.prog.underlying 32).map TypeDesc.isRow = some true := by kernel_rfl
  cases e : Tryz.prog.underlying 32 with
  | none => rw [e] at h; cases h
  | some d => rw [e] at h; exact ⟨d, rfl, by simpa using h⟩
theorem size32 : (Tryz.prog.info? 32).map (·.size) = some 21 := by kernel_rfl
theorem load32 {ops : Array Oper} {S : World → Prop} {op : Oper} {a : Act} (hw : Region.wanted op (yielded ops a.tmps) = true) (x : Operand) (ho : op.op = .load 32 x) (b : Nat) (hx : a.eval x = .pointer (some ⟨b, 0, none⟩)) (xs : List Value) (hS : ∀ w, S w → w.rangeAt b 0 xs) (hn : xs.length = 21) : YieldsIf Tryz.prog ops S op (.agg xs.toArray) a := by
  obtain ⟨d, hu, hd⟩ := row32
  exact yieldsIf_load_mid hw 32 x ho b 0 hx xs d hS hu hd (hn ▸ size32)
theorem load32L {ops : Array Oper} {rest : List Oper} {op : Oper} {a : Act} {w : World} {Q : Exit → Act → World → Prop} (hw : Region.wanted op (yielded ops a.tmps) = true) (x : Operand) (ho : op.op = .load 32 x) (b : Nat) (hx : a.eval x = .pointer (some ⟨b, 0, none⟩)) (xs : List Value) (hS : w.rangeAt b 0 xs) (hn : xs.length = 21)
    (h : wpList Tryz.prog ops Q rest (a.put op.dst (.agg xs.toArray)) w) : wpList Tryz.prog ops Q (op :: rest) a w := by
  obtain ⟨d, hu, hd⟩ := row32
  unfold wpList
  rw [if_pos hw]
  exact Or.inl (wp_load_mid 32 x ho b 0 hx xs d hS hu hd (hn ▸ size32) h)
def o3_10 : Array Oper := #[{ dst := some 22, op := .load 42 (.tmp 5), type := 42, pos := "exact.go:1726", after := #[], guard := none }, { dst := some 23, op := .load 32 (.tmp 1), type := 32, pos := "exact.go:1726", after := #[], guard := none }, { dst := some 24, op := .call { callee := .value (.func 8), args := #[.tmp 23], argTypes := #[32] }, type := 42, pos := "exact.go:1726", after := #[{ on := 1, ground := .data }], guard := none }, { dst := some 25, op := .call { callee := .value (.func 10), args := #[.tmp 22, .tmp 24], argTypes := #[42, 42] }, type := 4, pos := "exact.go:1726", after := #[{ on := 0, ground := .data }, { on := 2, ground := .data }, { on := 2, ground := .chain }], guard := none }, { dst := some 26, op := .unOp .not 4 (.tmp 25), type := 4, pos := "exact.go:1726", after := #[{ on := 3, ground := .data }], guard := none }]
theorem fo3_10 : FreeN .any o3_10 5 := ⟨⟨by kernel_rfl⟩, by kernel_rfl⟩
theorem o3_10_0 : o3_10[0]? = some { dst := some 22, op := .load 42 (.tmp 5), type := 42, pos := "exact.go:1726", after := #[], guard := none } := rfl
theorem o3_10_1 : o3_10[1]? = some { dst := some 23, op := .load 32 (.tmp 1), type := 32, pos := "exact.go:1726", after := #[], guard := none } := rfl
theorem o3_10_2 : o3_10[2]? = some { dst := some 24, op := .call { callee := .value (.func 8), args := #[.tmp 23], argTypes := #[32] }, type := 42, pos := "exact.go:1726", after := #[{ on := 1, ground := .data }], guard := none } := rfl
theorem o3_10_3 : o3_10[3]? = some { dst := some 25, op := .call { callee := .value (.func 10), args := #[.tmp 22, .tmp 24], argTypes := #[42, 42] }, type := 4, pos := "exact.go:1726", after := #[{ on := 0, ground := .data }, { on := 2, ground := .data }, { on := 2, ground := .chain }], guard := none } := rfl
theorem o3_10_4 : o3_10[4]? = some { dst := some 26, op := .unOp .not 4 (.tmp 25), type := 4, pos := "exact.go:1726", after := #[{ on := 3, ground := .data }], guard := none } := rfl
end Go.Proofs.YtdlaenbiamknlaaGreat
