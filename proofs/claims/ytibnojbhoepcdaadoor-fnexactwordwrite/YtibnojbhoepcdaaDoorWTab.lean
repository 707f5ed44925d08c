/- The program's table of sums. -/
import Derived.Test.YtibnojbhoepcdaaDoorWSsum
import Derived.Deep.MidRow
namespace Go.Proofs.YtibnojbhoepcdaaDoor.S
open Go.ChangeShapes Go.WideShapes Go.ChangeAt Go.RowKit
def zeroV : Array Value := (List.replicate 256 (Value.int .u32 0)).toArray
def tabV : Array Value := (tabN.map fun (n : Nat) => Value.int .u32 (n : Int)).toArray
theorem zero35 (w : World) : (zeroValue 73).run Tryd.prog w = .ok (.agg zeroV) w := by kernel_rfl
theorem wp_run {P : Program} {o : Oper} {a : Act} {w w' : World} {K : Act → World → Prop} {Q : Exit → Act → World → Prop} {v : Value} (h : (execOp a.eval o).run P w = .ok (.value v) w') (hK : K (a.put o.dst v) w') : o.wp P a w K Q := by
  unfold Oper.wp; rw [h]; exact hK
theorem tab_size : tabV.size = 256 := by kernel_rfl
theorem there_new (w : World) : (w.alloc (.cells zeroV 73)).there w.heap.size 0 tabV.toList.length := fun j hj => by
  have hj' : j < 256 := by have := tab_size; simp only [Array.length_toList] at hj; omega
  refine ⟨?_, by simp [go_sem]⟩
  rw [World.cell?_alloc_new]
  have hz : zeroV.size = 256 := by kernel_rfl
  simp only [Nat.zero_add]
  rw [Array.getElem?_eq_getElem (by omega)]
  rfl
theorem below_cells {B : Nat} {w : World} (b : Nat) : ∀ (vs : List Value) (o : Nat) (w' : World), B ≤ b → Below B w w' → Below B w (w'.setCells b o vs)
  | [], _, _, _, h => h
  | v :: vs, o, _, hb, h => below_cells b vs (o + 1) _ hb (h.setCell (p := ⟨b, o, none⟩) hb v)
set_option maxRecDepth 100000 in
set_option maxHeartbeats 4000000 in
theorem tab_any (w : World) :
    Calls Tryd.prog 49 #[] w fun e w' => e = .returned (.agg tabV) ∧ Below w.heap.size w w' := by
  go_enter Tryd.func49, Tryd.ntmps49
  refine wp_seq (wp_region_lit (wpList_plain rfl fun K hK => wp_run (v := .pointer (some ⟨w.heap.size, 0, none⟩)) (w' := w.alloc (.cells zeroV 73)) (by kernel_rfl) (hK _ _ (wpList_nil ?_))))
  clear hK K
  refine wp_seq (wp_region_lit (wpList_plain rfl fun K hK => wp_run (v := .agg tabV) (w' := w.alloc (.cells zeroV 73)) (by kernel_rfl) (hK _ _ ?_)))
  clear hK K
  refine wpList_store_mid rfl 73 _ _ rfl w.heap.size 0 tabV rfl rfl ?_ (by kernel_rfl) (by kernel_rfl) (wpList_nil ?_)
  · exact there_new w
  refine wp_ret (bodyPost_ret (v := .agg tabV) ?_ rfl ⟨rfl, ?_⟩)
  · have hr := run_loadVar_mid (P := Tryd.prog) _ w.heap.size 0 73 tabV.toList _ (World.rangeAt_setCells_same (w.alloc (.cells zeroV 73)) w.heap.size 0 tabV.toList (there_new w)) Tryd.underlying73 rfl (by kernel_rfl)
    simp only [results, Tryd.results49]
    rw [Array.toArray_toList] at hr
    generalize ((w.alloc (Obj.cells zeroV 73)).setCells w.heap.size 0 tabV.toList) = W at *
    simp [Act.put, asAddr, hr]
  · exact below_cells _ _ _ _ (Nat.le_refl _) ((Below.refl _ _).alloc (Nat.le_refl _) _)
end Go.Proofs.YtibnojbhoepcdaaDoor.S
