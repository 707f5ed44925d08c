/- The library's variables that the rows list: what they give the walks; a world in which they are laid. -/
import Derived.Test.YtoimfgfhlbkdcaaGreatDoorTa
import Derived.Test.YtoimfgfhlbkdcaaGreatDoorRows
import Derived.WalkKit
import Derived.ProofKit
import Derived.OpenShut
import Derived.Lib.LaidTab
import Derived.Lay
import Derived.Stop.LaidErr
import Derived.Deep.DeepHandedRow
import Derived.Deep.DeepWitnessRowRef
namespace Go.Proofs.YtoimfgfhlbkdcaaGreatDoor
open Go.ChangeShapes Go.WideShapes Go.ChangeAt Go.RowKit
/-- what the rows list -/
abbrev laidL : List (String × DataW Unit) := [("math/bits.deBruijn32tab", Rows.laid_math_bits_deBruijn32tab), ("math/bits.deBruijn64tab", Rows.laid_math_bits_deBruijn64tab), ("internal/strconv.uint64pow10", Rows.laid_internal_strconv_uint64pow10), ("unicode.White_Space", Rows.laid_unicode_White_Space), ("strings.asciiSpace", Rows.laid_strings_asciiSpace)]
theorem gPow' : Tryz.prog.globalNamed "internal/strconv.uint64pow10" = some 0 := by kernel_rfl
theorem gSpace' : Tryz.prog.globalNamed "strings.asciiSpace" = some 1 := by kernel_rfl
theorem tPow : (Tryz.prog.globals[0]?).map (·.type) = some 219 := by kernel_rfl
theorem tSpace : (Tryz.prog.globals[1]?).map (·.type) = some 237 := by kernel_rfl
theorem pow_eq : (Rows.laid_internal_strconv_uint64pow10 : DataW Unit) = Lib.tabData .u64 Lib.pow10Tab := by kernel_rfl
theorem space_eq : (Rows.laid_strings_asciiSpace : DataW Unit) = Lib.tabData .u8 Lib.asciiSpaceTab := by kernel_rfl
theorem laid_tabs {W : World} (h0 : laidMetH Tryz.prog laidL W) : Tabs W := by
  have h : laidMet Tryz.prog laidL W := h0
  have h3 := h.tail.tail
  have h5 := h.tail.tail.tail.tail
  rw [pow_eq] at h3
  rw [space_eq] at h5
  exact ⟨Lib.tabIs_of_head gPow' tPow Tryz.underlying219 Tryz.underlying204 (by kernel_rfl) (by kernel_rfl) h3, Lib.tabIs_of_head gSpace' tSpace Tryz.underlying237 Tryz.underlying5 (by kernel_rfl) (by kernel_rfl) h5⟩
theorem laid_met (os : Os) (args : Array Value) : laidMet Tryz.prog laidL ((World.laidAll Tryz.prog os laidL).forCall (fun _ _ => 0) ⟨#[], args, []⟩).memory :=
  laidMet_laidAll args (by kernel_rfl) (by kernel_rfl)
end Go.Proofs.YtoimfgfhlbkdcaaGreatDoor
