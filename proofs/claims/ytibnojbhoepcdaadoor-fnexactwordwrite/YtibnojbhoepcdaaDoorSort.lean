/- The library's sort at the register's order. -/
import Derived.Test.YtibnojbhoepcdaaDoorReg
namespace Go.Proofs.YtibnojbhoepcdaaDoor
open Go.ChangeShapes Go.WideShapes Go.ChangeAt Go.RowKit
attribute [local go_sem ↓] Go.wp_at_zero Go.wp_at_succ
open Go.Shelf Go.Lib Go.Sort
theorem siT : ∃ i, Tryd.prog.info? 92 = some i ∧ i.desc = .slice 3 := ⟨(Tryd.prog.info? 92).get (by kernel_rfl), by kernel_rfl, by kernel_rfl⟩
theorem siE : ∃ i, Tryd.prog.info? 3 = some i ∧ i.size = 1 ∧ i.hasPointers = false ∧ i.bytes = 8 := ⟨(Tryd.prog.info? 3).get (by kernel_rfl), by kernel_rfl, by kernel_rfl, by kernel_rfl, by kernel_rfl⟩
end Go.Proofs.YtibnojbhoepcdaaDoor
