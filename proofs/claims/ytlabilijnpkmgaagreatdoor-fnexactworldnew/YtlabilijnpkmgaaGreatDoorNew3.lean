/- A new node, the program's way; nodes compared, marked and held. -/
import Derived.Test.YtlabilijnpkmgaaGreatDoorNew2
import Derived.Deep.Cut
namespace Go.Proofs.YtlabilijnpkmgaaGreatDoor
open Go.ChangeShapes Go.WideShapes Go.ChangeAt Go.RowKit
attribute [local go_sem ↓] Go.wp_at_zero Go.wp_at_succ
theorem readAt {w : World} {b : Nat} {cs : Array Value} (h : w.rangeAt b 0 cs.toList) (hs : cs.size = 21) : (Instr.loadAt 41 (.pointer (some ⟨b, 0, none⟩))).run Tryz.prog w = .ok (.agg cs) w := by
  have hr := run_loadAt_mid (P := Tryz.prog) w b 0 41 cs.toList _ h Tryz.underlying41 rfl (by rw [Array.length_toList, hs]; kernel_rfl)
  rwa [Array.toArray_toList] at hr
theorem cs_same {w : World} {b i : Nat} {u : Value} (v : Value) (h : w.cell? ⟨b, i, none⟩ = some u) : (w.setCell ⟨b, i, none⟩ v).cell? ⟨b, i, none⟩ = some v := by simp [go_sem, h]
theorem okN_set (me : Int) (gate : Bool) (t t' : Value) : (okN me gate t').toList = ((okN me gate t).toList).set 8 t' := rfl
theorem range_set8 {w : World} {b : Nat} {me : Int} {gate : Bool} {t : Value} (t' : Value) (h : w.rangeAt b 0 (okN me gate t).toList) : (w.setCell ⟨b, 8, none⟩ t').rangeAt b 0 (okN me gate t').toList := fun j v hv => by
  rw [okN_set me gate t t', List.getElem?_set] at hv
  by_cases e : 8 = j
  · subst e
    rw [if_pos rfl, if_pos (show 8 < (okN me gate t).toList.length by have : (okN me gate t).toList.length = 21 := rfl; omega)] at hv
    obtain rfl := Option.some.inj hv
    have h8 := h 8 t rfl
    rw [Nat.zero_add] at h8 ⊢
    exact cs_same t' h8
  · rw [if_neg e] at hv
    have hj := h j v hv
    refine (World.cell?_setCell_other _ _ _ _ (fun h => e ?_)).trans hj
    have := congrArg Addr.off h
    simpa using this
theorem there_set8 {w : World} {b c o n : Nat} (v : Value) (h : w.there c o n) (hne : c ≠ b) : (w.setCell ⟨b, 8, none⟩ v).there c o n := fun j hj => by
  obtain ⟨h1, h2⟩ := h j hj
  have e := heap_setCell_other w ⟨b, 8, none⟩ c v (by simpa using hne)
  exact ⟨by rw [World.cell?_of_block (a := ⟨c, o + j, none⟩) e]; exact h1, (World.frozen?_of_block (a := ⟨c, o + j, none⟩) e).trans h2⟩
theorem there_cells {w : World} {b c o n o' : Nat} (vs : List Value) (h : w.there c o n) (hne : c ≠ b) : (w.setCells b o' vs).there c o n := fun j hj => by
  obtain ⟨h1, h2⟩ := h j hj
  have e := World.heap_setCells_far w b o' vs hne
  exact ⟨by rw [World.cell?_of_block (a := ⟨c, o + j, none⟩) e]; exact h1, (World.frozen?_of_block (a := ⟨c, o + j, none⟩) e).trans h2⟩
theorem probe_below (w : World) : Calls Tryz.prog 35 #[] w fun r w' => r = .returned (.agg #[.int .i64 (-1), .int .i64 0, .int .i64 0, .bool false]) ∧ Below w.heap.size w w' := (probe_any w).mono (by rintro r w' ⟨rfl, o, rfl⟩; exact ⟨rfl, balloc _ (Below.refl _ _)⟩)
theorem cnew_below (w : World) : Calls Tryz.prog 36 #[] w fun r w' => r = .returned (.agg #[.int .i64 0, .int .i64 0, .int .i64 0, .int .i64 1500]) ∧ Below w.heap.size w w' := (cnew_any w).mono (by rintro r w' ⟨rfl, o, rfl⟩; exact ⟨rfl, balloc _ (Below.refl _ _)⟩)
theorem self_below (me : Int) (gate : Bool) (w : World) : Calls Tryz.prog 37 #[.agg (okN me gate (.slice none 0 0))] w fun r w' => r = .returned (.agg #[.int .i64 me, .int .i64 0, .int .i64 1, .bool gate]) ∧ Below w.heap.size w w' := (self_any me gate w).mono (by rintro r w' ⟨rfl, o1, o2, rfl⟩; exact ⟨rfl, balloc _ (balloc _ (Below.refl _ _))⟩)
set_option maxHeartbeats 1000000 in
set_option maxRecDepth 20000 in
theorem fnew_ok (me : Int) (gate : Bool) (w : World) (hk : inb me 0 7 = true) :
    Calls Tryz.prog 13 #[.int .i64 me, .bool gate] w fun r w' => ∃ b, r = .returned (.agg (okN me gate (.slice (some ⟨b, 0, none⟩) 1 1))) ∧ Row1 w' b me 0 1 gate ∧ w.heap.size ≤ b ∧ Below w.heap.size w w' := by
  go_enter Tryz.func13, Tryz.ntmps13
  go_wp2_with fail
  have t4 : (w.alloc (.cells #[.int .i64 0, .bool false, .bool false, .bool false, .int .i64 0, .int .i64 0, .int .i64 0, .int .i64 0, .slice none 0 0, .slice none 0 0, .int .i64 0, .int .i64 0, .int .i64 0, .bool false, .slice none 0 0, .int .i64 0, .int .i64 0, .int .i64 0, .int .i64 0, .slice none 0 0, .slice none 0 0] 41)).there w.heap.size 0 21 := there_new w
  have bw : Below w.heap.size w (w.alloc (.cells #[.int .i64 0, .bool false, .bool false, .bool false, .int .i64 0, .int .i64 0, .int .i64 0, .int .i64 0, .slice none 0 0, .slice none 0 0, .int .i64 0, .int .i64 0, .int .i64 0, .bool false, .slice none 0 0, .int .i64 0, .int .i64 0, .int .i64 0, .int .i64 0, .slice none 0 0, .slice none 0 0] 41)) := balloc _ (Below.refl _ _)
  have hlt : w.heap.size < (w.alloc (.cells #[.int .i64 0, .bool false, .bool false, .bool false, .int .i64 0, .int .i64 0, .int .i64 0, .int .i64 0, .slice none 0 0, .slice none 0 0, .int .i64 0, .int .i64 0, .int .i64 0, .bool false, .slice none 0 0, .int .i64 0, .int .i64 0, .int .i64 0, .int .i64 0, .slice none 0 0, .slice none 0 0] 41)).heap.size := by simp
  generalize (w.alloc (.cells #[.int .i64 0, .bool false, .bool false, .bool false, .int .i64 0, .int .i64 0, .int .i64 0, .int .i64 0, .slice none 0 0, .slice none 0 0, .int .i64 0, .int .i64 0, .int .i64 0, .bool false, .slice none 0 0, .int .i64 0, .int .i64 0, .int .i64 0, .int .i64 0, .slice none 0 0, .slice none 0 0] 41)) = W at *
  refine (nodeOk_lit _ true hk _).mono ?_
  rintro e w1 ⟨rfl, hw⟩
  obtain rfl := hw.symm
  go_wp2_with fail
  refine (probe_below _).mono ?_
  rintro e w2 ⟨rfl, b2⟩
  replace t4 := there_below t4 b2
  have B2 := btrans bw b2
  have hlt2 : w.heap.size < w2.heap.size := by have := b2.size; omega
  clear bw b2 hlt
  go_wp2_with fail
  refine (cnew_below _).mono ?_
  rintro e w3 ⟨rfl, b3⟩
  replace t4 := there_alloc (.cells #[.int .i64 0, .bool false, .bool false, .bool false, .int .i64 0, .int .i64 0, .int .i64 0, .int .i64 0, .slice none 0 0, .slice none 0 0, .int .i64 0, .int .i64 0, .int .i64 0, .bool false, .slice none 0 0, .int .i64 0, .int .i64 0, .int .i64 0, .int .i64 0, .slice none 0 0, .slice none 0 0] 41) (there_below t4 b3)
  have B3 := balloc (.cells #[.int .i64 0, .bool false, .bool false, .bool false, .int .i64 0, .int .i64 0, .int .i64 0, .int .i64 0, .slice none 0 0, .slice none 0 0, .int .i64 0, .int .i64 0, .int .i64 0, .bool false, .slice none 0 0, .int .i64 0, .int .i64 0, .int .i64 0, .int .i64 0, .slice none 0 0, .slice none 0 0] 41) (btrans B2 b3)
  have hlt3 : w.heap.size < w3.heap.size := by have := b3.size; omega
  clear B2 b3 hlt2
  have t5 : (w3.alloc (.cells #[.int .i64 0, .bool false, .bool false, .bool false, .int .i64 0, .int .i64 0, .int .i64 0, .int .i64 0, .slice none 0 0, .slice none 0 0, .int .i64 0, .int .i64 0, .int .i64 0, .bool false, .slice none 0 0, .int .i64 0, .int .i64 0, .int .i64 0, .int .i64 0, .slice none 0 0, .slice none 0 0] 41)).there w3.heap.size 0 21 := there_new w3
  replace t4 := there_cells (o' := 0) (okN me gate (.slice none 0 0)).toList t4 (show w.heap.size ≠ w3.heap.size by omega)
  replace B3 := below_cells w3.heap.size (okN me gate (.slice none 0 0)).toList 0 _ (show w.heap.size ≤ w3.heap.size by omega) B3
  have r5 := World.rangeAt_setCells_same (w3.alloc (.cells #[.int .i64 0, .bool false, .bool false, .bool false, .int .i64 0, .int .i64 0, .int .i64 0, .int .i64 0, .slice none 0 0, .slice none 0 0, .int .i64 0, .int .i64 0, .int .i64 0, .bool false, .slice none 0 0, .int .i64 0, .int .i64 0, .int .i64 0, .int .i64 0, .slice none 0 0, .slice none 0 0] 41)) w3.heap.size 0 (okN me gate (.slice none 0 0)).toList t5
  have t6 : ((w3.alloc (.cells #[.int .i64 0, .bool false, .bool false, .bool false, .int .i64 0, .int .i64 0, .int .i64 0, .int .i64 0, .slice none 0 0, .slice none 0 0, .int .i64 0, .int .i64 0, .int .i64 0, .bool false, .slice none 0 0, .int .i64 0, .int .i64 0, .int .i64 0, .int .i64 0, .slice none 0 0, .slice none 0 0] 41)).setCells w3.heap.size 0 (okN me gate (.slice none 0 0)).toList).there w3.heap.size 0 21 := World.there_setCells t5 _ _ _
  go_upto_region 4 with (refine wpList_store_mid rfl 41 _ _ rfl w3.heap.size 0 (okN me gate (.slice none 0 0)) rfl rfl t5 (by kernel_rfl) (by kernel_rfl) ?_; clear t5; generalize ((w3.alloc (.cells #[.int .i64 0, .bool false, .bool false, .bool false, .int .i64 0, .int .i64 0, .int .i64 0, .int .i64 0, .slice none 0 0, .slice none 0 0, .int .i64 0, .int .i64 0, .int .i64 0, .bool false, .slice none 0 0, .int .i64 0, .int .i64 0, .int .i64 0, .int .i64 0, .slice none 0 0, .slice none 0 0] 41)).setCells w3.heap.size 0 (okN me gate (.slice none 0 0)).toList) = W5 at *)
  refine wp_region_lit ?_
  refine wpList_load_mid rfl 41 _ rfl w3.heap.size 0 rfl (okN me gate (.slice none 0 0)).toList _ r5 Tryz.underlying41 rfl (by kernel_rfl) ?_
  go_wp2_with fail
  refine (self_below me gate _).mono ?_
  rintro e w6 ⟨rfl, b6⟩
  have l6 : w3.heap.size < w6.heap.size := by
    have h0 := World.block_lt_of_cell? _ _ (r5 0 _ rfl)
    have := b6.size
    simp at h0
    omega
  have r6 := range_below r5 b6
  have t6' := there_below t6 b6
  have c8 : (w6.alloc (.cells #[.int .i64 me, .int .i64 0, .int .i64 1, .bool gate] 45)).cell? ⟨w3.heap.size, 8, none⟩ = some (.slice none 0 0) := by have := range_below r6 (balloc (.cells #[.int .i64 me, .int .i64 0, .int .i64 1, .bool gate] 45) (Below.refl _ _)) 8 _ rfl; simpa using this
  have g8 : (w6.alloc (.cells #[.int .i64 me, .int .i64 0, .int .i64 1, .bool gate] 45)).frozen? ⟨w3.heap.size, 8, none⟩ = false := by have := (there_alloc (.cells #[.int .i64 me, .int .i64 0, .int .i64 1, .bool gate] 45) t6' 8 (by omega)).2; simpa using this
  have r7 := range_below (range_set8 (.slice (some ⟨w6.heap.size, 0, none⟩) 1 1) r6) (balloc (.cells #[.int .i64 me, .int .i64 0, .int .i64 1, .bool gate] 45) (Below.refl _ _))
  have t7 := there_alloc (.cells #[.int .i64 me, .int .i64 0, .int .i64 1, .bool gate] 45) (there_set8 (b := w3.heap.size) (.slice (some ⟨w6.heap.size, 0, none⟩) 1 1) (there_below t4 b6) (show w.heap.size ≠ w3.heap.size by omega))
  have R7 : Row1 ((w6.setCell ⟨w3.heap.size, 8, none⟩ (.slice (some ⟨w6.heap.size, 0, none⟩) 1 1)).alloc (.cells #[.int .i64 me, .int .i64 0, .int .i64 1, .bool gate] 45)) w6.heap.size me 0 1 gate := by
    refine ⟨⟨?_, ?_, ?_, ?_⟩, ?_, ?_, ?_, ?_⟩ <;> simp [go_sem]
  have B7 := balloc (.cells #[.int .i64 me, .int .i64 0, .int .i64 1, .bool gate] 45) ((btrans B3 b6).setCell (p := ⟨w3.heap.size, 8, none⟩) (show w.heap.size ≤ w3.heap.size by omega) (.slice (some ⟨w6.heap.size, 0, none⟩) 1 1))
  clear b6 r5 B3 r6 t4 t6 t6'
  go_upto_region 5 with fail
  clear c8 g8
  generalize ((w6.setCell ⟨w3.heap.size, 8, none⟩ (.slice (some ⟨w6.heap.size, 0, none⟩) 1 1)).alloc (.cells #[.int .i64 me, .int .i64 0, .int .i64 1, .bool gate] 45)) = W8 at *
  have hle : w.heap.size ≤ w6.heap.size := by omega
  have hnb : w6.heap.size ≠ w.heap.size := by omega
  generalize w6.heap.size = BB at *
  generalize w3.heap.size = K5 at *
  refine wp_region_lit ?_
  refine wpList_load_mid rfl 41 _ rfl K5 0 rfl (okN me gate (.slice (some ⟨BB, 0, none⟩) 1 1)).toList _ r7 Tryz.underlying41 rfl (by kernel_rfl) ?_
  refine wpList_store_mid rfl 41 _ _ rfl w.heap.size 0 (okN me gate (.slice (some ⟨BB, 0, none⟩) 1 1)) rfl rfl t7 (by kernel_rfl) (by kernel_rfl) ?_
  have hr := read32 (World.rangeAt_setCells_same W8 w.heap.size 0 (okN me gate (.slice (some ⟨BB, 0, none⟩) 1 1)).toList t7) rfl
  have R8 := R7.cells (c := w.heap.size) hnb (okN me gate (.slice (some ⟨BB, 0, none⟩) 1 1)).toList 0
  have B8 := below_cells w.heap.size (okN me gate (.slice (some ⟨BB, 0, none⟩) 1 1)).toList 0 _ (Nat.le_refl _) B7
  generalize (W8.setCells w.heap.size 0 (okN me gate (.slice (some ⟨BB, 0, none⟩) 1 1)).toList) = W9 at *
  go_wp2
  refine bodyPost_ret (v := .agg (okN me gate (.slice (some ⟨BB, 0, none⟩) 1 1))) ?_ rfl ⟨BB, rfl, R8, hle, B8⟩
  simp only [results, Tryz.results13]
  simp [Act.put, asAddr, hr]
end Go.Proofs.YtlabilijnpkmgaaGreatDoor
