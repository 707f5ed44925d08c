/- deBruijn64tab, out of what is laid. -/
import Derived.Test.YtibnojbhoepcdaaDoorLaid
namespace Go.Proofs.YtibnojbhoepcdaaDoor
open Go.ChangeShapes Go.WideShapes Go.ChangeAt Go.RowKit
def dbTab : List Int := [0, 1, 56, 2, 57, 49, 28, 3, 61, 58, 42, 50, 38, 29, 17, 4, 62, 47, 59, 36, 45, 43, 51, 22, 53, 39, 33, 30, 24, 18, 12, 5, 63, 55, 48, 27, 60, 41, 37, 16, 46, 35, 44, 21, 52, 32, 23, 11, 54, 26, 40, 15, 34, 20, 31, 10, 25, 14, 19, 9, 13, 8, 7, 6]
theorem gDb : Tryd.prog.globalNamed "math/bits.deBruijn64tab" = some 5 := by kernel_rfl
theorem db_eq : (Rows.laid_math_bits_deBruijn64tab : DataW Unit) = Lib.tabData .u8 dbTab := by kernel_rfl
theorem tDb : (Tryd.prog.globals[5]?).map (·.type) = some 136 := by kernel_rfl
theorem laid_db {W : World} (h0 : laidMetH Tryd.prog laidL W) : W.cell? ⟨5, 15, none⟩ = some (.int .u8 4) := by
  have h : laidMet Tryd.prog laidL W := h0
  have h2 := h.tail
  rw [db_eq] at h2
  have t : Lib.TabIs Tryd.prog W "math/bits.deBruijn64tab" .u8 dbTab := Lib.tabIs_of_head gDb tDb Tryd.underlying136 Tryd.underlying5 (by kernel_rfl) (by kernel_rfl) h2
  exact t.cell gDb 15 (by decide)
end Go.Proofs.YtibnojbhoepcdaaDoor
