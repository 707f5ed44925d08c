/- The library's variables that the rows list: what they give the walks; a world in which they are laid. -/
import Derived.Test.YtflapeligjdlbaaDoorPNum
import Derived.Test.YtflapeligjdlbaaDoorRows
import Derived.WalkKit
import Derived.ProofKit
import Derived.OpenShut
import Derived.Lib.LaidTab
import Derived.Lay
import Derived.Stop.LaidErr
import Derived.Deep.DeepHandedRow
import Derived.Deep.DeepWitnessRowRef
namespace Go.Proofs.YtflapeligjdlbaaDoor
open Go.ChangeShapes Go.WideShapes Go.ChangeAt Go.RowKit
/-- what the rows list -/
abbrev laidL : List (String × DataW Unit) := [("math/bits.deBruijn32tab", Rows.laid_math_bits_deBruijn32tab), ("math/bits.deBruijn64tab", Rows.laid_math_bits_deBruijn64tab), ("internal/strconv.uint64pow10", Rows.laid_internal_strconv_uint64pow10), ("unicode/utf8.acceptRanges", Rows.laid_unicode_utf8_acceptRanges), ("strconv.ErrRange", Rows.laid_strconv_ErrRange), ("strconv.ErrSyntax", Rows.laid_strconv_ErrSyntax), ("unicode.White_Space", Rows.laid_unicode_White_Space), ("strings.asciiSpace", Rows.laid_strings_asciiSpace), ("unicode/utf8.first", Rows.laid_unicode_utf8_first)]
theorem gPow' : Tryd.prog.globalNamed "internal/strconv.uint64pow10" = some 7 := by kernel_rfl
theorem gSpace' : Tryd.prog.globalNamed "strings.asciiSpace" = some 1 := by kernel_rfl
theorem tPow : (Tryd.prog.globals[7]?).map (·.type) = some 108 := by kernel_rfl
theorem tSpace : (Tryd.prog.globals[1]?).map (·.type) = some 76 := by kernel_rfl
theorem pow_eq : (Rows.laid_internal_strconv_uint64pow10 : DataW Unit) = Lib.tabData .u64 Lib.pow10Tab := by kernel_rfl
theorem space_eq : (Rows.laid_strings_asciiSpace : DataW Unit) = Lib.tabData .u8 Lib.asciiSpaceTab := by kernel_rfl
theorem laid_tabs {W : World} (h0 : laidMetH Tryd.prog laidL W) : Tabs W := by
  have h : laidMet Tryd.prog laidL W := h0
  have h3 := h.tail.tail
  have h5 := h.tail.tail.tail.tail.tail.tail.tail
  rw [pow_eq] at h3
  rw [space_eq] at h5
  exact ⟨Lib.tabIs_of_head gPow' tPow Tryd.underlying108 Tryd.underlying85 (by kernel_rfl) (by kernel_rfl) h3, Lib.tabIs_of_head gSpace' tSpace Tryd.underlying76 Tryd.underlying5 (by kernel_rfl) (by kernel_rfl) h5⟩
theorem gSyn : Tryd.prog.globalNamed "strconv.ErrSyntax" = some 4 := by kernel_rfl
theorem gRan : Tryd.prog.globalNamed "strconv.ErrRange" = some 5 := by kernel_rfl
theorem tSyn : (Tryd.prog.globals[4]?).map (·.type) = some 50 := by kernel_rfl
theorem tRan : (Tryd.prog.globals[5]?).map (·.type) = some 50 := by kernel_rfl
theorem starErr : "*" ++ "errors.errorString" = "*errors.errorString" := by decide
theorem rowErr (u : TypeId) (h : Tryd.prog.typeName? 3 u = some "*errors.errorString") : u = 104 :=
  typeName_ptr_named (nm := "errors.errorString") (by rw [starErr]; kernel_rfl) (by kernel_rfl) (by decide) u (by rw [starErr]; exact h)
/-- what the walks ask of the world, out of what is laid and of the shape of bytealg.MaxLen -/
theorem laid_pst {W : World} (h0 : laidMetH Tryd.prog laidL W) (hS : W.ShapedOpen Tryd.prog) : Pst W := by
  have h : laidMet Tryd.prog laidL W := h0
  obtain ⟨a, _, ha, _, _, _⟩ := laid_sentinel (h.tail.tail.tail.tail.tail) gSyn tSyn Tryd.underlying50 rowErr Tryd.underlying104 Tryd.underlying106 rfl rfl Tryd.underlying9 (by kernel_rfl) (by kernel_rfl)
  obtain ⟨b, _, hb, _, _, _⟩ := laid_sentinel (h.tail.tail.tail.tail) gRan tRan Tryd.underlying50 rowErr Tryd.underlying104 Tryd.underlying106 rfl rfl Tryd.underlying9 (by kernel_rfl) (by kernel_rfl)
  exact ⟨laid_tabs h0, ⟨_, _, ha⟩, ⟨_, _, hb⟩, Go.Proofs.cell_of_shapedOpen_int (zero := #[.int .i64 0]) (t := 3) hS (of_decide_eq_true (by kernel_rfl)) (by kernel_rfl) rfl (by kernel_rfl) (by kernel_rfl) Tryd.underlying3⟩
/-- a world for the witness -/
noncomputable def laidWorld (os : Os) : World := World.laidAll Tryd.prog os laidL
theorem laid_met (os : Os) (args : Array Value) : laidMet Tryd.prog laidL ((laidWorld os).forCall (fun _ _ => 0) ⟨#[], args, []⟩).memory :=
  laidMet_laidAll args (by kernel_rfl) (by kernel_rfl)
end Go.Proofs.YtflapeligjdlbaaDoor
