/- The library's variables that the rows list: what they give the walks; a world in which they are laid. -/
import Derived.Test.YtibnojbhoepcdaaGreatDoorPNum
import Derived.Test.YtibnojbhoepcdaaGreatDoorRows
import Derived.WalkKit
import Derived.ProofKit
import Derived.OpenShut
import Derived.Lib.LaidTab
import Derived.Lay
import Derived.Stop.LaidErr
import Derived.Deep.DeepHandedRow
import Derived.Deep.DeepWitnessRowRef
namespace Go.Proofs.YtibnojbhoepcdaaGreatDoor
open Go.ChangeShapes Go.WideShapes Go.ChangeAt Go.RowKit
/-- what the rows list -/
abbrev laidL : List (String × DataW Unit) := [("math/bits.deBruijn32tab", Rows.laid_math_bits_deBruijn32tab), ("math/bits.deBruijn64tab", Rows.laid_math_bits_deBruijn64tab), ("internal/strconv.uint64pow10", Rows.laid_internal_strconv_uint64pow10), ("unicode/utf8.acceptRanges", Rows.laid_unicode_utf8_acceptRanges), ("strconv.ErrRange", Rows.laid_strconv_ErrRange), ("strconv.ErrSyntax", Rows.laid_strconv_ErrSyntax), ("unicode.White_Space", Rows.laid_unicode_White_Space), ("strings.asciiSpace", Rows.laid_strings_asciiSpace), ("unicode/utf8.first", Rows.laid_unicode_utf8_first)]
theorem gPow' : Tryz.prog.globalNamed "internal/strconv.uint64pow10" = some 3 := by kernel_rfl
theorem gSpace' : Tryz.prog.globalNamed "strings.asciiSpace" = some 0 := by kernel_rfl
theorem tPow : (Tryz.prog.globals[3]?).map (·.type) = some 170 := by kernel_rfl
theorem tSpace : (Tryz.prog.globals[0]?).map (·.type) = some 142 := by kernel_rfl
theorem pow_eq : (Rows.laid_internal_strconv_uint64pow10 : DataW Unit) = Lib.tabData .u64 Lib.pow10Tab := by kernel_rfl
theorem space_eq : (Rows.laid_strings_asciiSpace : DataW Unit) = Lib.tabData .u8 Lib.asciiSpaceTab := by kernel_rfl
theorem laid_tabs {W : World} (h0 : laidMetH Tryz.prog laidL W) : Tabs W := by
  have h : laidMet Tryz.prog laidL W := h0
  have h3 := h.tail.tail
  have h5 := h.tail.tail.tail.tail.tail.tail.tail
  rw [pow_eq] at h3
  rw [space_eq] at h5
  exact ⟨Lib.tabIs_of_head gPow' tPow Tryz.underlying170 Tryz.underlying146 (by kernel_rfl) (by kernel_rfl) h3, Lib.tabIs_of_head gSpace' tSpace Tryz.underlying142 Tryz.underlying5 (by kernel_rfl) (by kernel_rfl) h5⟩
theorem gSyn : Tryz.prog.globalNamed "strconv.ErrSyntax" = some 6 := by kernel_rfl
theorem gRan : Tryz.prog.globalNamed "strconv.ErrRange" = some 7 := by kernel_rfl
theorem tSyn : (Tryz.prog.globals[6]?).map (·.type) = some 85 := by kernel_rfl
theorem tRan : (Tryz.prog.globals[7]?).map (·.type) = some 85 := by kernel_rfl
theorem starErr : "*" ++ "errors.errorString" = "*errors.errorString" := by decide
theorem rowErr (u : TypeId) (h : Tryz.prog.typeName? 3 u = some "*errors.errorString") : u = 198 :=
  typeName_ptr_named (nm := "errors.errorString") (by rw [starErr]; kernel_rfl) (by kernel_rfl) (by decide) u (by rw [starErr]; exact h)
/-- what the walks ask of the world, out of what is laid and of the shape of bytealg.MaxLen -/
theorem laid_pst {W : World} (h0 : laidMetH Tryz.prog laidL W) (hS : W.ShapedOpen Tryz.prog) : Pst W := by
  have h : laidMet Tryz.prog laidL W := h0
  obtain ⟨a, _, ha, _, _, _⟩ := laid_sentinel (h.tail.tail.tail.tail.tail) gSyn tSyn Tryz.underlying85 rowErr Tryz.underlying198 Tryz.underlying200 rfl rfl Tryz.underlying9 (by kernel_rfl) (by kernel_rfl)
  obtain ⟨b, _, hb, _, _, _⟩ := laid_sentinel (h.tail.tail.tail.tail) gRan tRan Tryz.underlying85 rowErr Tryz.underlying198 Tryz.underlying200 rfl rfl Tryz.underlying9 (by kernel_rfl) (by kernel_rfl)
  exact ⟨laid_tabs h0, ⟨_, _, ha⟩, ⟨_, _, hb⟩, Go.Proofs.cell_of_shapedOpen_int (zero := #[.int .i64 0]) (t := 3) hS (of_decide_eq_true (by kernel_rfl)) (by kernel_rfl) rfl (by kernel_rfl) (by kernel_rfl) Tryz.underlying3⟩
/-- a world for the witness -/
noncomputable def laidWorld (os : Os) : World := World.laidAll Tryz.prog os laidL
theorem laid_met (os : Os) (args : Array Value) : laidMet Tryz.prog laidL ((laidWorld os).forCall (fun _ _ => 0) ⟨#[], args, []⟩).memory :=
  laidMet_laidAll args (by kernel_rfl) (by kernel_rfl)
end Go.Proofs.YtibnojbhoepcdaaGreatDoor
