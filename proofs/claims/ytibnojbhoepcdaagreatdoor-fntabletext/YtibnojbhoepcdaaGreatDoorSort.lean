/- The library's sort at the register's order. -/
import Derived.Test.YtibnojbhoepcdaaGreatDoorReg
namespace Go.Proofs.YtibnojbhoepcdaaGreatDoor
open Go.ChangeShapes Go.WideShapes Go.ChangeAt Go.RowKit
attribute [local go_sem ↓] Go.wp_at_zero Go.wp_at_succ
open Go.Shelf Go.Lib Go.Sort
theorem siT : ∃ i, Tryz.prog.info? 90 = some i ∧ i.desc = .slice 3 := ⟨(Tryz.prog.info? 90).get (by kernel_rfl), by kernel_rfl, by kernel_rfl⟩
theorem siE : ∃ i, Tryz.prog.info? 3 = some i ∧ i.size = 1 ∧ i.hasPointers = false ∧ i.bytes = 8 := ⟨(Tryz.prog.info? 3).get (by kernel_rfl), by kernel_rfl, by kernel_rfl, by kernel_rfl, by kernel_rfl⟩
end Go.Proofs.YtibnojbhoepcdaaGreatDoor
