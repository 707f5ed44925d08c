/- The library's variables that the rows list: what they give the walks; a world in which they are laid. -/
import Derived.Test.YtlebggbbhkiokaaGreatDoorRNum
import Derived.Test.YtlebggbbhkiokaaGreatDoorRows
import Derived.WalkKit
import Derived.ProofKit
import Derived.OpenShut
import Derived.LaidHandle
import Derived.LaidLaws
import Derived.Lib.LaidTab
import Derived.Lay
import Derived.Stop.LaidErr
import Derived.Deep.DeepHandedRow
import Derived.Deep.DeepWitnessRowRef
namespace Go.Proofs.YtlebggbbhkiokaaGreatDoor
open Go.ChangeShapes Go.WideShapes Go.ChangeAt Go.RowKit
/-- what the rows list -/
abbrev laidL : List (String × DataW Unit) := [("math/bits.deBruijn32tab", Rows.laid_math_bits_deBruijn32tab), ("math/bits.deBruijn64tab", Rows.laid_math_bits_deBruijn64tab), ("internal/strconv.uint64pow10", Rows.laid_internal_strconv_uint64pow10), ("unicode/utf8.acceptRanges", Rows.laid_unicode_utf8_acceptRanges), ("errors.errorType", Rows.laid_errors_errorType), ("strconv.ErrRange", Rows.laid_strconv_ErrRange), ("strconv.ErrSyntax", Rows.laid_strconv_ErrSyntax), ("unicode.White_Space", Rows.laid_unicode_White_Space), ("strings.asciiSpace", Rows.laid_strings_asciiSpace), ("loop.example/lightship/impl.errTooLong", Rows.laid_loop_example_lightship_impl_errTooLong), ("unicode/utf8.first", Rows.laid_unicode_utf8_first)]
/-- .. but the handle of a type -/
abbrev plainL : List (String × DataW Unit) := [("math/bits.deBruijn32tab", Rows.laid_math_bits_deBruijn32tab), ("math/bits.deBruijn64tab", Rows.laid_math_bits_deBruijn64tab), ("internal/strconv.uint64pow10", Rows.laid_internal_strconv_uint64pow10), ("unicode/utf8.acceptRanges", Rows.laid_unicode_utf8_acceptRanges), ("strconv.ErrRange", Rows.laid_strconv_ErrRange), ("strconv.ErrSyntax", Rows.laid_strconv_ErrSyntax), ("unicode.White_Space", Rows.laid_unicode_White_Space), ("strings.asciiSpace", Rows.laid_strings_asciiSpace), ("loop.example/lightship/impl.errTooLong", Rows.laid_loop_example_lightship_impl_errTooLong), ("unicode/utf8.first", Rows.laid_unicode_utf8_first)]
theorem laid_two {W : World} (h : laidMetH Tryz.prog laidL W) : laidMet Tryz.prog plainL W ∧ handlesMet Tryz.prog [("errors.errorType", Rows.laid_errors_errorType)] W := h
theorem gPow' : Tryz.prog.globalNamed "internal/strconv.uint64pow10" = some 5 := by kernel_rfl
theorem gSpace' : Tryz.prog.globalNamed "strings.asciiSpace" = some 3 := by kernel_rfl
theorem tPow : (Tryz.prog.globals[5]?).map (·.type) = some 128 := by kernel_rfl
theorem tSpace : (Tryz.prog.globals[3]?).map (·.type) = some 106 := by kernel_rfl
theorem pow_eq : (Rows.laid_internal_strconv_uint64pow10 : DataW Unit) = Lib.tabData .u64 Lib.pow10Tab := by kernel_rfl
theorem space_eq : (Rows.laid_strings_asciiSpace : DataW Unit) = Lib.tabData .u8 Lib.asciiSpaceTab := by kernel_rfl
theorem laid_tabs {W : World} (h : laidMet Tryz.prog plainL W) : Tabs W := by
  have h3 := h.tail.tail
  have h5 := h.tail.tail.tail.tail.tail.tail.tail
  rw [pow_eq] at h3
  rw [space_eq] at h5
  exact ⟨Lib.tabIs_of_head gPow' tPow Tryz.underlying128 Tryz.underlying111 (by kernel_rfl) (by kernel_rfl) h3, Lib.tabIs_of_head gSpace' tSpace Tryz.underlying106 Tryz.underlying5 (by kernel_rfl) (by kernel_rfl) h5⟩
theorem gSyn : Tryz.prog.globalNamed "strconv.ErrSyntax" = some 8 := by kernel_rfl
theorem gRan : Tryz.prog.globalNamed "strconv.ErrRange" = some 9 := by kernel_rfl
theorem gTL : Tryz.prog.globalNamed "loop.example/lightship/impl.errTooLong" = some 0 := by kernel_rfl
theorem gET : Tryz.prog.globalNamed "errors.errorType" = some 1 := by kernel_rfl
theorem tSyn : (Tryz.prog.globals[8]?).map (·.type) = some 36 := by kernel_rfl
theorem tRan : (Tryz.prog.globals[9]?).map (·.type) = some 36 := by kernel_rfl
theorem tTL : (Tryz.prog.globals[0]?).map (·.type) = some 36 := by kernel_rfl
theorem starErr : "*" ++ "errors.errorString" = "*errors.errorString" := by decide
theorem rowErr (u : TypeId) (h : Tryz.prog.typeName? 3 u = some "*errors.errorString") : u = 157 :=
  typeName_ptr_named (nm := "errors.errorString") (by rw [starErr]; kernel_rfl) (by kernel_rfl) (by decide) u (by rw [starErr]; exact h)
theorem rtRow : (Tryz.prog.cutTypes.find? (·.1 == "internal/reflectlite.rtype")).map (·.2) = some 71 := by kernel_rfl
theorem oneRow : ((List.range 188).filter fun t => Tryz.prog.rowNamed t [101, 114, 114, 111, 114]) = [36] := by kernel_rfl
theorem typesSize : Tryz.prog.types.size = 188 := by kernel_rfl
theorem handle_cell {W : World} (h : handlesMet Tryz.prog [("errors.errorType", Rows.laid_errors_errorType)] W) : W.cell? ⟨1, 0, none⟩ = some (.iface 71 (.agg #[.pointer (some ⟨13, 36, none⟩)])) := by
  obtain ⟨name, u, ty, e1, e2, e3, e4, e5⟩ := h _ (List.mem_singleton.2 rfl)
  have en : name = [101, 114, 114, 111, 114] := (Option.some.inj e1).symm
  subst en
  obtain rfl := Option.some.inj (rtRow.symm.trans e2)
  have hm : ty ∈ (List.range 188).filter fun t => Tryz.prog.rowNamed t [101, 114, 114, 111, 114] := List.mem_filter.2 ⟨List.mem_range.2 (by rw [← typesSize]; exact e3), e4⟩
  rw [oneRow] at hm
  obtain rfl := List.mem_singleton.1 hm
  have hh : typeHandle Tryz.prog 36 = .pointer (some ⟨13, 36, none⟩) := by kernel_rfl
  rw [hh] at e5
  simpa using World.var?_cell gET e5 0
/-- what the walks ask of the world, out of what is laid and of the shape of bytealg.MaxLen -/
theorem laid_pst {W : World} (h0 : laidMetH Tryz.prog laidL W) (hS : W.ShapedOpen Tryz.prog) : Pst W := by
  obtain ⟨h, hh⟩ := laid_two h0
  obtain ⟨a, _, ha, _, _, _⟩ := laid_sentinel (h.tail.tail.tail.tail.tail) gSyn tSyn Tryz.underlying36 rowErr Tryz.underlying157 Tryz.underlying159 rfl rfl Tryz.underlying9 (by kernel_rfl) (by kernel_rfl)
  obtain ⟨b, _, hb, _, _, _⟩ := laid_sentinel (h.tail.tail.tail.tail) gRan tRan Tryz.underlying36 rowErr Tryz.underlying157 Tryz.underlying159 rfl rfl Tryz.underlying9 (by kernel_rfl) (by kernel_rfl)
  obtain ⟨c, _, hc, _, _, _⟩ := laid_sentinel (h.tail.tail.tail.tail.tail.tail.tail.tail) gTL tTL Tryz.underlying36 rowErr Tryz.underlying157 Tryz.underlying159 rfl rfl Tryz.underlying9 (by kernel_rfl) (by kernel_rfl)
  exact ⟨laid_tabs h, ⟨_, _, ha⟩, ⟨_, _, hb⟩, Go.Proofs.cell_of_shapedOpen_int (zero := #[.int .i64 0]) (t := 3) hS (of_decide_eq_true (by kernel_rfl)) (by kernel_rfl) rfl (by kernel_rfl) (by kernel_rfl) Tryz.underlying3, ⟨_, by simpa using World.var?_cell gTL hc 0⟩, handle_cell hh⟩
theorem laid_met (os : Os) (args : Array Value) : laidMetH Tryz.prog laidL ((World.layVars Tryz.prog { World.holding Tryz.prog os ⟨#[], #[], []⟩ with heap := (World.holding Tryz.prog os ⟨#[], #[], []⟩).heap.modify 1 fun | .cells _ t frozen => .cells #[.iface 71 (.agg #[.pointer (some ⟨13, 36, none⟩)])] t frozen | o => o } plainL).forCall (fun _ _ => 0) ⟨#[], args, []⟩).memory := by
  have e1 : (plainL.filter fun x => (plainL.map (·.1)).contains x.1) = plainL := List.filter_eq_self.2 fun x hx => List.contains_iff_mem.2 (List.mem_map.2 ⟨x, hx, rfl⟩)
  have e2 : (plainL.filter fun x => !(plainL.map (·.1)).contains x.1) = [] := List.filter_eq_nil_iff.2 fun x hx => by rw [List.contains_iff_mem.2 (List.mem_map.2 ⟨x, hx, rfl⟩)]; simp
  have h : laidMet Tryz.prog plainL (World.layVars Tryz.prog { World.holding Tryz.prog os ⟨#[], #[], []⟩ with heap := (World.holding Tryz.prog os ⟨#[], #[], []⟩).heap.modify 1 fun | .cells _ t frozen => .cells #[.iface 71 (.agg #[.pointer (some ⟨13, 36, none⟩)])] t frozen | o => o } plainL) := laidMet_layVars (w0 := { World.holding Tryz.prog os ⟨#[], #[], []⟩ with heap := (World.holding Tryz.prog os ⟨#[], #[], []⟩).heap.modify 1 fun | .cells _ t frozen => .cells #[.iface 71 (.agg #[.pointer (some ⟨13, 36, none⟩)])] t frozen | o => o }) (plainL.map (·.1)) [] (by rw [e1]) (by rw [e1]; kernel_rfl) (by rw [e1]; kernel_rfl) (by rw [e2]; exact LaidIn.none)
  have h2 : laidMet Tryz.prog plainL ((World.layVars Tryz.prog { World.holding Tryz.prog os ⟨#[], #[], []⟩ with heap := (World.holding Tryz.prog os ⟨#[], #[], []⟩).heap.modify 1 fun | .cells _ t frozen => .cells #[.iface 71 (.agg #[.pointer (some ⟨13, 36, none⟩)])] t frozen | o => o } plainL).forCall (fun _ _ => 0) ⟨#[], args, []⟩).memory := h.of_heap (by simp [World.memory, World.forCall, Input.heap])
  exact laidMetH_of_parts h2 (by kernel_rfl)
theorem laid_os (os : Os) : (World.layVars Tryz.prog { World.holding Tryz.prog os ⟨#[], #[], []⟩ with heap := (World.holding Tryz.prog os ⟨#[], #[], []⟩).heap.modify 1 fun | .cells _ t frozen => .cells #[.iface 71 (.agg #[.pointer (some ⟨13, 36, none⟩)])] t frozen | o => o } plainL).os = os := World.layVars_os _ _ _
end Go.Proofs.YtlebggbbhkiokaaGreatDoor
