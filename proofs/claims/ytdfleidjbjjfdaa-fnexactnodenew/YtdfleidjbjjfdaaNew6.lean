/- The exact law of NodeNew, walked. -/
import Derived.Test.YtdfleidjbjjfdaaNew5
namespace Go.Proofs.Ytdfleidjbjjfdaa
open Go.ChangeShapes Go.WideShapes Go.ChangeAt Go.RowKit
attribute [local go_sem ↓] Go.wp_at_zero Go.wp_at_succ
theorem range_cells {w : World} {b c : Nat} {cs : List Value} (hne : b ≠ c) (vs : List Value) (o : Nat) (h : w.rangeAt b 0 cs) : (w.setCells c o vs).rangeAt b 0 cs := fun j v hv => (World.cell?_of_block (a := ⟨b, 0 + j, none⟩) (World.heap_setCells_far w c o vs hne)).trans (h j v hv)
theorem below_grown {a w w' : World} {b : Nat} (h : Below a.heap.size a w) (g : w.grownBy w' (some b)) (hb : a.heap.size ≤ b) : Below a.heap.size a w' := h.trans ⟨g.os, g.tape, g.output, g.size, fun k hk => g.block k (by have := h.size; omega) (by simp; omega)⟩
theorem eqOk (me : Int) (gate : Bool) (b b' : Nat) (w : World) (h : Row1 w b me 0 1 gate) (h' : Row1 w b' me 0 1 gate) :
    Calls Try.prog 6 #[.agg (okN me gate (.slice (some ⟨b, 0, none⟩) 1 1)), .agg (okN me gate (.slice (some ⟨b', 0, none⟩) 1 1))] w fun r w' => r = .returned (.bool true) ∧ Below w.heap.size w w' :=
  eqNode_same me 0 0 0 0 (-1) 0 0 0 0 0 1500 true false gate false _ _ 1 1 1 _ w h.fsl h'.fsl (by decide)
theorem eqZ (w : World) : Calls Try.prog 6 #[.agg zN, .agg zN] w fun r w' => r = .returned (.bool true) ∧ Below w.heap.size w w' :=
  eqNode_same 0 0 0 0 0 0 0 0 0 0 0 0 false false false false none none 0 0 0 (fun _ => ⟨0, 0, 0, false⟩) w (fun h => absurd h (by omega)) (fun h => absurd h (by omega)) (by decide)
theorem markOk (me : Int) (gate : Bool) (b : Nat) (w : World) (h : Row1 w b me 0 1 gate) :
    Calls Try.prog 7 #[.agg (okN me gate (.slice (some ⟨b, 0, none⟩) 1 1)), .int .i64 1] w fun r w' => r = .returned (.int .i64 5) ∧ Row1 w' b 1 2 3 false ∧ w.grownBy w' (some b) :=
  markNode1 me 0 0 0 0 (-1) 0 0 0 0 0 1500 true false gate false b me 0 1 gate w h
theorem heldOk (me : Int) (gate : Bool) (b : Nat) (w : World) (h : Row1 w b 1 2 3 false) :
    Calls Try.prog 8 #[.agg (okN me gate (.slice (some ⟨b, 0, none⟩) 1 1)), .int .i64 1] w fun r w' => r = .returned (.int .i64 5) ∧ Below w.heap.size w w' :=
  heldNode1 me 0 0 0 0 (-1) 0 0 0 0 0 1500 true false gate false b w h
theorem markZ (w : World) : Calls Try.prog 7 #[.agg zN, .int .i64 1] w fun r w' => r = .returned (.int .i64 1) ∧ Below w.heap.size w w' :=
  markNode0 0 0 0 0 0 0 0 0 0 0 0 0 false false false false w
theorem heldZ (w : World) : Calls Try.prog 8 #[.agg zN, .int .i64 1] w fun r w' => r = .returned (.int .i64 1) ∧ Below w.heap.size w w' :=
  heldNode0 0 0 0 0 0 0 0 0 0 0 0 0 false false false false w
set_option maxHeartbeats 2000000 in
theorem exNew_bad (me : Int) (gate : Bool) (w : World) (hk : inb me 0 7 = false) :
    Calls Try.prog 3 #[.int .i64 me, .bool gate] w fun r w' => r = .returned (.bool true) ∧ Below w.heap.size w w' := by
  go_enter Try.func3, Try.ntmps3
  go_wp2_with fail
  refine (snew_bad me gate _ hk).mono ?_
  rintro e w1 ⟨rfl, B1⟩
  have s1 := B1.size
  have t1 : (w1.alloc (.cells #[.int .i64 0, .bool false, .bool false, .bool false, .int .i64 0, .int .i64 0, .int .i64 0, .int .i64 0, .slice none 0 0, .slice none 0 0, .int .i64 0, .int .i64 0, .int .i64 0, .bool false, .slice none 0 0, .int .i64 0, .int .i64 0, .int .i64 0, .int .i64 0, .slice none 0 0, .slice none 0 0] 32)).there w1.heap.size 0 21 := there_new w1
  have r1 := World.rangeAt_setCells_same (w1.alloc (.cells #[.int .i64 0, .bool false, .bool false, .bool false, .int .i64 0, .int .i64 0, .int .i64 0, .int .i64 0, .slice none 0 0, .slice none 0 0, .int .i64 0, .int .i64 0, .int .i64 0, .bool false, .slice none 0 0, .int .i64 0, .int .i64 0, .int .i64 0, .int .i64 0, .slice none 0 0, .slice none 0 0] 32)) w1.heap.size 0 zN.toList t1
  have B2 := below_cells w1.heap.size zN.toList 0 _ (show w.heap.size ≤ w1.heap.size by omega) (balloc (.cells #[.int .i64 0, .bool false, .bool false, .bool false, .int .i64 0, .int .i64 0, .int .i64 0, .int .i64 0, .slice none 0 0, .slice none 0 0, .int .i64 0, .int .i64 0, .int .i64 0, .bool false, .slice none 0 0, .int .i64 0, .int .i64 0, .int .i64 0, .int .i64 0, .slice none 0 0, .slice none 0 0] 32) B1)
  clear B1
  go_wp2_with (refine wpList_store_mid rfl 32 _ _ rfl w1.heap.size 0 zN rfl rfl t1 (by kernel_rfl) (by kernel_rfl) ?_; clear t1; generalize ((w1.alloc (.cells #[.int .i64 0, .bool false, .bool false, .bool false, .int .i64 0, .int .i64 0, .int .i64 0, .int .i64 0, .slice none 0 0, .slice none 0 0, .int .i64 0, .int .i64 0, .int .i64 0, .bool false, .slice none 0 0, .int .i64 0, .int .i64 0, .int .i64 0, .int .i64 0, .slice none 0 0, .slice none 0 0] 32)).setCells w1.heap.size 0 zN.toList) = V1 at *)
  generalize w1.heap.size = K1 at *
  refine (fnew_bad me gate _ hk).mono ?_
  rintro e w2 ⟨rfl, b2⟩
  have k1 : K1 < V1.heap.size := by have h0 := World.block_lt_of_cell? _ _ (r1 0 _ rfl); simpa using h0
  have s2 := b2.size
  have v1 := B2.size
  have B3 := btrans B2 b2
  have r2 := range_cells (show K1 ≠ w2.heap.size by omega) zN.toList 0 (range_below (range_below r1 b2) (balloc (.cells #[.int .i64 0, .bool false, .bool false, .bool false, .int .i64 0, .int .i64 0, .int .i64 0, .int .i64 0, .slice none 0 0, .slice none 0 0, .int .i64 0, .int .i64 0, .int .i64 0, .bool false, .slice none 0 0, .int .i64 0, .int .i64 0, .int .i64 0, .int .i64 0, .slice none 0 0, .slice none 0 0] 32) (Below.refl _ _)))
  have t2 : (w2.alloc (.cells #[.int .i64 0, .bool false, .bool false, .bool false, .int .i64 0, .int .i64 0, .int .i64 0, .int .i64 0, .slice none 0 0, .slice none 0 0, .int .i64 0, .int .i64 0, .int .i64 0, .bool false, .slice none 0 0, .int .i64 0, .int .i64 0, .int .i64 0, .int .i64 0, .slice none 0 0, .slice none 0 0] 32)).there w2.heap.size 0 21 := there_new w2
  have q2 := World.rangeAt_setCells_same (w2.alloc (.cells #[.int .i64 0, .bool false, .bool false, .bool false, .int .i64 0, .int .i64 0, .int .i64 0, .int .i64 0, .slice none 0 0, .slice none 0 0, .int .i64 0, .int .i64 0, .int .i64 0, .bool false, .slice none 0 0, .int .i64 0, .int .i64 0, .int .i64 0, .int .i64 0, .slice none 0 0, .slice none 0 0] 32)) w2.heap.size 0 zN.toList t2
  have B4 := below_cells w2.heap.size zN.toList 0 _ (show w.heap.size ≤ w2.heap.size by omega) (balloc (.cells #[.int .i64 0, .bool false, .bool false, .bool false, .int .i64 0, .int .i64 0, .int .i64 0, .int .i64 0, .slice none 0 0, .slice none 0 0, .int .i64 0, .int .i64 0, .int .i64 0, .bool false, .slice none 0 0, .int .i64 0, .int .i64 0, .int .i64 0, .int .i64 0, .slice none 0 0, .slice none 0 0] 32) B3)
  clear r1 b2 B2 B3
  go_upto_region 3 with (refine wpList_store_mid rfl 32 _ _ rfl w2.heap.size 0 zN rfl rfl t2 (by kernel_rfl) (by kernel_rfl) ?_; clear t2; generalize ((w2.alloc (.cells #[.int .i64 0, .bool false, .bool false, .bool false, .int .i64 0, .int .i64 0, .int .i64 0, .int .i64 0, .slice none 0 0, .slice none 0 0, .int .i64 0, .int .i64 0, .int .i64 0, .bool false, .slice none 0 0, .int .i64 0, .int .i64 0, .int .i64 0, .int .i64 0, .slice none 0 0, .slice none 0 0] 32)).setCells w2.heap.size 0 zN.toList) = V2 at *)
  generalize w2.heap.size = K2 at *
  refine wp_region_lit ?_
  refine wpList_load_mid rfl 32 _ rfl K2 0 rfl zN.toList _ q2 Try.underlying32 rfl (by kernel_rfl) ?_
  refine wpList_load_mid rfl 32 _ rfl K1 0 rfl zN.toList _ r2 Try.underlying32 rfl (by kernel_rfl) ?_
  go_wp2_with fail
  refine (eqZ _).mono ?_
  rintro e w3 ⟨rfl, b3⟩
  have r3 := range_below r2 b3
  have q3 := range_below q2 b3
  have B5 := btrans B4 b3
  clear r2 q2 B4 b3
  go_upto_region 6 with fail
  refine wp_region_lit ?_
  refine wpList_load_mid rfl 32 _ rfl K2 0 rfl zN.toList _ q3 Try.underlying32 rfl (by kernel_rfl) ?_
  go_wp2_with fail
  refine (markZ _).mono ?_
  rintro e w4 ⟨rfl, b4⟩
  have r4 := range_below r3 b4
  have q4 := range_below q3 b4
  have B6 := btrans B5 b4
  clear r3 q3 B5 b4
  go_upto_region 8 with fail
  refine wp_region_lit ?_
  refine wpList_load_mid rfl 32 _ rfl K2 0 rfl zN.toList _ q4 Try.underlying32 rfl (by kernel_rfl) ?_
  go_wp2_with fail
  refine (heldZ _).mono ?_
  rintro e w5 ⟨rfl, b5⟩
  have r5 := range_below r4 b5
  have q5 := range_below q4 b5
  have B7 := btrans B6 b5
  clear r4 q4 B6 b5
  go_wp2_with fail
  refine (fnew_bad me gate _ hk).mono ?_
  rintro e w6 ⟨rfl, b6'⟩
  have k5 : K1 < w5.heap.size := by have h0 := World.block_lt_of_cell? _ _ (r5 0 _ rfl); simpa using h0
  have k6 : K2 < w5.heap.size := by have h0 := World.block_lt_of_cell? _ _ (q5 0 _ rfl); simpa using h0
  have s6 := b6'.size
  have B8 := btrans B7 b6'
  have z8 := B8.size
  have r6 := range_cells (show K1 ≠ w6.heap.size by omega) zN.toList 0 (range_below (range_below r5 b6') (balloc (.cells #[.int .i64 0, .bool false, .bool false, .bool false, .int .i64 0, .int .i64 0, .int .i64 0, .int .i64 0, .slice none 0 0, .slice none 0 0, .int .i64 0, .int .i64 0, .int .i64 0, .bool false, .slice none 0 0, .int .i64 0, .int .i64 0, .int .i64 0, .int .i64 0, .slice none 0 0, .slice none 0 0] 32) (Below.refl _ _)))
  have q6 := range_cells (show K2 ≠ w6.heap.size by omega) zN.toList 0 (range_below (range_below q5 b6') (balloc (.cells #[.int .i64 0, .bool false, .bool false, .bool false, .int .i64 0, .int .i64 0, .int .i64 0, .int .i64 0, .slice none 0 0, .slice none 0 0, .int .i64 0, .int .i64 0, .int .i64 0, .bool false, .slice none 0 0, .int .i64 0, .int .i64 0, .int .i64 0, .int .i64 0, .slice none 0 0, .slice none 0 0] 32) (Below.refl _ _)))
  have t6 : (w6.alloc (.cells #[.int .i64 0, .bool false, .bool false, .bool false, .int .i64 0, .int .i64 0, .int .i64 0, .int .i64 0, .slice none 0 0, .slice none 0 0, .int .i64 0, .int .i64 0, .int .i64 0, .bool false, .slice none 0 0, .int .i64 0, .int .i64 0, .int .i64 0, .int .i64 0, .slice none 0 0, .slice none 0 0] 32)).there w6.heap.size 0 21 := there_new w6
  have p6 := World.rangeAt_setCells_same (w6.alloc (.cells #[.int .i64 0, .bool false, .bool false, .bool false, .int .i64 0, .int .i64 0, .int .i64 0, .int .i64 0, .slice none 0 0, .slice none 0 0, .int .i64 0, .int .i64 0, .int .i64 0, .bool false, .slice none 0 0, .int .i64 0, .int .i64 0, .int .i64 0, .int .i64 0, .slice none 0 0, .slice none 0 0] 32)) w6.heap.size 0 zN.toList t6
  have B9 := below_cells w6.heap.size zN.toList 0 _ (show w.heap.size ≤ w6.heap.size by omega) (balloc (.cells #[.int .i64 0, .bool false, .bool false, .bool false, .int .i64 0, .int .i64 0, .int .i64 0, .int .i64 0, .slice none 0 0, .slice none 0 0, .int .i64 0, .int .i64 0, .int .i64 0, .bool false, .slice none 0 0, .int .i64 0, .int .i64 0, .int .i64 0, .int .i64 0, .slice none 0 0, .slice none 0 0] 32) B8)
  clear r5 q5 B7 B8 b6'
  go_upto_region 14 with (refine wpList_store_mid rfl 32 _ _ rfl w6.heap.size 0 zN rfl rfl t6 (by kernel_rfl) (by kernel_rfl) ?_; clear t6; generalize ((w6.alloc (.cells #[.int .i64 0, .bool false, .bool false, .bool false, .int .i64 0, .int .i64 0, .int .i64 0, .int .i64 0, .slice none 0 0, .slice none 0 0, .int .i64 0, .int .i64 0, .int .i64 0, .bool false, .slice none 0 0, .int .i64 0, .int .i64 0, .int .i64 0, .int .i64 0, .slice none 0 0, .slice none 0 0] 32)).setCells w6.heap.size 0 zN.toList) = V6 at *)
  generalize w6.heap.size = K6 at *
  refine wp_region_lit ?_
  refine wpList_load_mid rfl 32 _ rfl K6 0 rfl zN.toList _ p6 Try.underlying32 rfl (by kernel_rfl) ?_
  refine wpList_load_mid rfl 32 _ rfl K1 0 rfl zN.toList _ r6 Try.underlying32 rfl (by kernel_rfl) ?_
  go_wp2_with fail
  refine (eqZ _).mono ?_
  rintro e w7 ⟨rfl, b7⟩
  have q7 := range_below q6 b7
  have B10 := btrans B9 b7
  clear r6 q6 p6 B9 b7
  go_upto_region 17 with fail
  refine wp_region_lit ?_
  refine wpList_load_mid rfl 32 _ rfl K2 0 rfl zN.toList _ q7 Try.underlying32 rfl (by kernel_rfl) ?_
  go_wp2_with fail
  refine (heldZ _).mono ?_
  rintro e w8 ⟨rfl, b8⟩
  have B11 := btrans B10 b8
  clear q7 B10 b8
  go_wp2
  go_ret
  exact ⟨rfl, B11⟩
set_option maxHeartbeats 2000000 in
theorem exNew_ok (me : Int) (gate : Bool) (w : World) (hk : inb me 0 7 = true) :
    Calls Try.prog 3 #[.int .i64 me, .bool gate] w fun r w' => r = .returned (.bool true) ∧ Below w.heap.size w w' := by
  go_enter Try.func3, Try.ntmps3
  go_wp2_with fail
  refine (snew_ok me gate _ hk).mono ?_
  rintro e w1 ⟨b0, rfl, R0, l0, B1⟩
  have s1 := B1.size
  have t1 : (w1.alloc (.cells #[.int .i64 0, .bool false, .bool false, .bool false, .int .i64 0, .int .i64 0, .int .i64 0, .int .i64 0, .slice none 0 0, .slice none 0 0, .int .i64 0, .int .i64 0, .int .i64 0, .bool false, .slice none 0 0, .int .i64 0, .int .i64 0, .int .i64 0, .int .i64 0, .slice none 0 0, .slice none 0 0] 32)).there w1.heap.size 0 21 := there_new w1
  have r1 := World.rangeAt_setCells_same (w1.alloc (.cells #[.int .i64 0, .bool false, .bool false, .bool false, .int .i64 0, .int .i64 0, .int .i64 0, .int .i64 0, .slice none 0 0, .slice none 0 0, .int .i64 0, .int .i64 0, .int .i64 0, .bool false, .slice none 0 0, .int .i64 0, .int .i64 0, .int .i64 0, .int .i64 0, .slice none 0 0, .slice none 0 0] 32)) w1.heap.size 0 (okN me gate (.slice (some ⟨b0, 0, none⟩) 1 1)).toList t1
  have B2 := below_cells w1.heap.size (okN me gate (.slice (some ⟨b0, 0, none⟩) 1 1)).toList 0 _ (show w.heap.size ≤ w1.heap.size by omega) (balloc (.cells #[.int .i64 0, .bool false, .bool false, .bool false, .int .i64 0, .int .i64 0, .int .i64 0, .int .i64 0, .slice none 0 0, .slice none 0 0, .int .i64 0, .int .i64 0, .int .i64 0, .bool false, .slice none 0 0, .int .i64 0, .int .i64 0, .int .i64 0, .int .i64 0, .slice none 0 0, .slice none 0 0] 32) B1)
  have R1 := (R0.below (balloc (.cells #[.int .i64 0, .bool false, .bool false, .bool false, .int .i64 0, .int .i64 0, .int .i64 0, .int .i64 0, .slice none 0 0, .slice none 0 0, .int .i64 0, .int .i64 0, .int .i64 0, .bool false, .slice none 0 0, .int .i64 0, .int .i64 0, .int .i64 0, .int .i64 0, .slice none 0 0, .slice none 0 0] 32) (Below.refl _ _))).cells (c := w1.heap.size) (by have := R0.lt; omega) (okN me gate (.slice (some ⟨b0, 0, none⟩) 1 1)).toList 0
  clear R0
  clear B1
  go_wp2_with (refine wpList_store_mid rfl 32 _ _ rfl w1.heap.size 0 (okN me gate (.slice (some ⟨b0, 0, none⟩) 1 1)) rfl rfl t1 (by kernel_rfl) (by kernel_rfl) ?_; clear t1; generalize ((w1.alloc (.cells #[.int .i64 0, .bool false, .bool false, .bool false, .int .i64 0, .int .i64 0, .int .i64 0, .int .i64 0, .slice none 0 0, .slice none 0 0, .int .i64 0, .int .i64 0, .int .i64 0, .bool false, .slice none 0 0, .int .i64 0, .int .i64 0, .int .i64 0, .int .i64 0, .slice none 0 0, .slice none 0 0] 32)).setCells w1.heap.size 0 (okN me gate (.slice (some ⟨b0, 0, none⟩) 1 1)).toList) = V1 at *)
  generalize w1.heap.size = K1 at *
  refine (fnew_ok me gate _ hk).mono ?_
  rintro e w2 ⟨b1, rfl, G0, l1, b2⟩
  have k1 : K1 < V1.heap.size := by have h0 := World.block_lt_of_cell? _ _ (r1 0 _ rfl); simpa using h0
  have s2 := b2.size
  have v1 := B2.size
  have B3 := btrans B2 b2
  have r2 := range_cells (show K1 ≠ w2.heap.size by omega) (okN me gate (.slice (some ⟨b1, 0, none⟩) 1 1)).toList 0 (range_below (range_below r1 b2) (balloc (.cells #[.int .i64 0, .bool false, .bool false, .bool false, .int .i64 0, .int .i64 0, .int .i64 0, .int .i64 0, .slice none 0 0, .slice none 0 0, .int .i64 0, .int .i64 0, .int .i64 0, .bool false, .slice none 0 0, .int .i64 0, .int .i64 0, .int .i64 0, .int .i64 0, .slice none 0 0, .slice none 0 0] 32) (Below.refl _ _)))
  have t2 : (w2.alloc (.cells #[.int .i64 0, .bool false, .bool false, .bool false, .int .i64 0, .int .i64 0, .int .i64 0, .int .i64 0, .slice none 0 0, .slice none 0 0, .int .i64 0, .int .i64 0, .int .i64 0, .bool false, .slice none 0 0, .int .i64 0, .int .i64 0, .int .i64 0, .int .i64 0, .slice none 0 0, .slice none 0 0] 32)).there w2.heap.size 0 21 := there_new w2
  have q2 := World.rangeAt_setCells_same (w2.alloc (.cells #[.int .i64 0, .bool false, .bool false, .bool false, .int .i64 0, .int .i64 0, .int .i64 0, .int .i64 0, .slice none 0 0, .slice none 0 0, .int .i64 0, .int .i64 0, .int .i64 0, .bool false, .slice none 0 0, .int .i64 0, .int .i64 0, .int .i64 0, .int .i64 0, .slice none 0 0, .slice none 0 0] 32)) w2.heap.size 0 (okN me gate (.slice (some ⟨b1, 0, none⟩) 1 1)).toList t2
  have B4 := below_cells w2.heap.size (okN me gate (.slice (some ⟨b1, 0, none⟩) 1 1)).toList 0 _ (show w.heap.size ≤ w2.heap.size by omega) (balloc (.cells #[.int .i64 0, .bool false, .bool false, .bool false, .int .i64 0, .int .i64 0, .int .i64 0, .int .i64 0, .slice none 0 0, .slice none 0 0, .int .i64 0, .int .i64 0, .int .i64 0, .bool false, .slice none 0 0, .int .i64 0, .int .i64 0, .int .i64 0, .int .i64 0, .slice none 0 0, .slice none 0 0] 32) B3)
  have n01 : b0 ≠ b1 := by have := R1.lt; omega
  have R2 := ((R1.below b2).below (balloc (.cells #[.int .i64 0, .bool false, .bool false, .bool false, .int .i64 0, .int .i64 0, .int .i64 0, .int .i64 0, .slice none 0 0, .slice none 0 0, .int .i64 0, .int .i64 0, .int .i64 0, .bool false, .slice none 0 0, .int .i64 0, .int .i64 0, .int .i64 0, .int .i64 0, .slice none 0 0, .slice none 0 0] 32) (Below.refl _ _))).cells (c := w2.heap.size) (by have := R1.lt; omega) (okN me gate (.slice (some ⟨b1, 0, none⟩) 1 1)).toList 0
  have G2 := (G0.below (balloc (.cells #[.int .i64 0, .bool false, .bool false, .bool false, .int .i64 0, .int .i64 0, .int .i64 0, .int .i64 0, .slice none 0 0, .slice none 0 0, .int .i64 0, .int .i64 0, .int .i64 0, .bool false, .slice none 0 0, .int .i64 0, .int .i64 0, .int .i64 0, .int .i64 0, .slice none 0 0, .slice none 0 0] 32) (Below.refl _ _))).cells (c := w2.heap.size) (by have := G0.lt; omega) (okN me gate (.slice (some ⟨b1, 0, none⟩) 1 1)).toList 0
  have nK : K1 ≠ b1 := by omega
  have nL : w2.heap.size ≠ b1 := by have := G0.lt; omega
  have hB : w.heap.size ≤ b1 := by omega
  clear R1 G0
  clear r1 b2 B2 B3
  go_upto_region 3 with (refine wpList_store_mid rfl 32 _ _ rfl w2.heap.size 0 (okN me gate (.slice (some ⟨b1, 0, none⟩) 1 1)) rfl rfl t2 (by kernel_rfl) (by kernel_rfl) ?_; clear t2; generalize ((w2.alloc (.cells #[.int .i64 0, .bool false, .bool false, .bool false, .int .i64 0, .int .i64 0, .int .i64 0, .int .i64 0, .slice none 0 0, .slice none 0 0, .int .i64 0, .int .i64 0, .int .i64 0, .bool false, .slice none 0 0, .int .i64 0, .int .i64 0, .int .i64 0, .int .i64 0, .slice none 0 0, .slice none 0 0] 32)).setCells w2.heap.size 0 (okN me gate (.slice (some ⟨b1, 0, none⟩) 1 1)).toList) = V2 at *)
  generalize w2.heap.size = K2 at *
  refine wp_region_lit ?_
  refine wpList_load_mid rfl 32 _ rfl K2 0 rfl (okN me gate (.slice (some ⟨b1, 0, none⟩) 1 1)).toList _ q2 Try.underlying32 rfl (by kernel_rfl) ?_
  refine wpList_load_mid rfl 32 _ rfl K1 0 rfl (okN me gate (.slice (some ⟨b0, 0, none⟩) 1 1)).toList _ r2 Try.underlying32 rfl (by kernel_rfl) ?_
  go_wp2_with fail
  refine (eqOk me gate b1 b0 _ G2 R2).mono ?_
  rintro e w3 ⟨rfl, b3⟩
  have r3 := range_below r2 b3
  have q3 := range_below q2 b3
  have B5 := btrans B4 b3
  have R3 := R2.below b3
  have G3 := G2.below b3
  clear R2 G2
  clear r2 q2 B4 b3
  go_upto_region 6 with fail
  refine wp_region_lit ?_
  refine wpList_load_mid rfl 32 _ rfl K2 0 rfl (okN me gate (.slice (some ⟨b1, 0, none⟩) 1 1)).toList _ q3 Try.underlying32 rfl (by kernel_rfl) ?_
  go_wp2_with fail
  refine (markOk me gate b1 _ G3).mono ?_
  rintro e w4 ⟨rfl, G4, g4⟩
  have r4 := range_grown r3 g4 nK
  have q4 := range_grown q3 g4 nL
  have R4 := R3.grown g4 n01
  have B6 := below_grown B5 g4 hB
  clear r3 q3 R3 G3 B5 g4
  go_upto_region 8 with fail
  refine wp_region_lit ?_
  refine wpList_load_mid rfl 32 _ rfl K2 0 rfl (okN me gate (.slice (some ⟨b1, 0, none⟩) 1 1)).toList _ q4 Try.underlying32 rfl (by kernel_rfl) ?_
  go_wp2_with fail
  refine (heldOk me gate b1 _ G4).mono ?_
  rintro e w5 ⟨rfl, b5⟩
  have r5 := range_below r4 b5
  have q5 := range_below q4 b5
  have B7 := btrans B6 b5
  have R5 := R4.below b5
  have G5 := G4.below b5
  clear R4 G4
  clear r4 q4 B6 b5
  go_wp2_with fail
  refine (fnew_ok me gate _ hk).mono ?_
  rintro e w6 ⟨b6, rfl, H0, l6, b6'⟩
  have k5 : K1 < w5.heap.size := by have h0 := World.block_lt_of_cell? _ _ (r5 0 _ rfl); simpa using h0
  have k6 : K2 < w5.heap.size := by have h0 := World.block_lt_of_cell? _ _ (q5 0 _ rfl); simpa using h0
  have s6 := b6'.size
  have B8 := btrans B7 b6'
  have z8 := B8.size
  have r6 := range_cells (show K1 ≠ w6.heap.size by omega) (okN me gate (.slice (some ⟨b6, 0, none⟩) 1 1)).toList 0 (range_below (range_below r5 b6') (balloc (.cells #[.int .i64 0, .bool false, .bool false, .bool false, .int .i64 0, .int .i64 0, .int .i64 0, .int .i64 0, .slice none 0 0, .slice none 0 0, .int .i64 0, .int .i64 0, .int .i64 0, .bool false, .slice none 0 0, .int .i64 0, .int .i64 0, .int .i64 0, .int .i64 0, .slice none 0 0, .slice none 0 0] 32) (Below.refl _ _)))
  have q6 := range_cells (show K2 ≠ w6.heap.size by omega) (okN me gate (.slice (some ⟨b6, 0, none⟩) 1 1)).toList 0 (range_below (range_below q5 b6') (balloc (.cells #[.int .i64 0, .bool false, .bool false, .bool false, .int .i64 0, .int .i64 0, .int .i64 0, .int .i64 0, .slice none 0 0, .slice none 0 0, .int .i64 0, .int .i64 0, .int .i64 0, .bool false, .slice none 0 0, .int .i64 0, .int .i64 0, .int .i64 0, .int .i64 0, .slice none 0 0, .slice none 0 0] 32) (Below.refl _ _)))
  have t6 : (w6.alloc (.cells #[.int .i64 0, .bool false, .bool false, .bool false, .int .i64 0, .int .i64 0, .int .i64 0, .int .i64 0, .slice none 0 0, .slice none 0 0, .int .i64 0, .int .i64 0, .int .i64 0, .bool false, .slice none 0 0, .int .i64 0, .int .i64 0, .int .i64 0, .int .i64 0, .slice none 0 0, .slice none 0 0] 32)).there w6.heap.size 0 21 := there_new w6
  have p6 := World.rangeAt_setCells_same (w6.alloc (.cells #[.int .i64 0, .bool false, .bool false, .bool false, .int .i64 0, .int .i64 0, .int .i64 0, .int .i64 0, .slice none 0 0, .slice none 0 0, .int .i64 0, .int .i64 0, .int .i64 0, .bool false, .slice none 0 0, .int .i64 0, .int .i64 0, .int .i64 0, .int .i64 0, .slice none 0 0, .slice none 0 0] 32)) w6.heap.size 0 (okN me gate (.slice (some ⟨b6, 0, none⟩) 1 1)).toList t6
  have B9 := below_cells w6.heap.size (okN me gate (.slice (some ⟨b6, 0, none⟩) 1 1)).toList 0 _ (show w.heap.size ≤ w6.heap.size by omega) (balloc (.cells #[.int .i64 0, .bool false, .bool false, .bool false, .int .i64 0, .int .i64 0, .int .i64 0, .int .i64 0, .slice none 0 0, .slice none 0 0, .int .i64 0, .int .i64 0, .int .i64 0, .bool false, .slice none 0 0, .int .i64 0, .int .i64 0, .int .i64 0, .int .i64 0, .slice none 0 0, .slice none 0 0] 32) B8)
  have R6 := ((R5.below b6').below (balloc (.cells #[.int .i64 0, .bool false, .bool false, .bool false, .int .i64 0, .int .i64 0, .int .i64 0, .int .i64 0, .slice none 0 0, .slice none 0 0, .int .i64 0, .int .i64 0, .int .i64 0, .bool false, .slice none 0 0, .int .i64 0, .int .i64 0, .int .i64 0, .int .i64 0, .slice none 0 0, .slice none 0 0] 32) (Below.refl _ _))).cells (c := w6.heap.size) (by have := R5.lt; omega) (okN me gate (.slice (some ⟨b6, 0, none⟩) 1 1)).toList 0
  have G6 := ((G5.below b6').below (balloc (.cells #[.int .i64 0, .bool false, .bool false, .bool false, .int .i64 0, .int .i64 0, .int .i64 0, .int .i64 0, .slice none 0 0, .slice none 0 0, .int .i64 0, .int .i64 0, .int .i64 0, .bool false, .slice none 0 0, .int .i64 0, .int .i64 0, .int .i64 0, .int .i64 0, .slice none 0 0, .slice none 0 0] 32) (Below.refl _ _))).cells (c := w6.heap.size) (by have := G5.lt; omega) (okN me gate (.slice (some ⟨b6, 0, none⟩) 1 1)).toList 0
  have H6 := (H0.below (balloc (.cells #[.int .i64 0, .bool false, .bool false, .bool false, .int .i64 0, .int .i64 0, .int .i64 0, .int .i64 0, .slice none 0 0, .slice none 0 0, .int .i64 0, .int .i64 0, .int .i64 0, .bool false, .slice none 0 0, .int .i64 0, .int .i64 0, .int .i64 0, .int .i64 0, .slice none 0 0, .slice none 0 0] 32) (Below.refl _ _))).cells (c := w6.heap.size) (by have := H0.lt; omega) (okN me gate (.slice (some ⟨b6, 0, none⟩) 1 1)).toList 0
  clear R5 G5 H0
  clear r5 q5 B7 B8 b6'
  go_upto_region 14 with (refine wpList_store_mid rfl 32 _ _ rfl w6.heap.size 0 (okN me gate (.slice (some ⟨b6, 0, none⟩) 1 1)) rfl rfl t6 (by kernel_rfl) (by kernel_rfl) ?_; clear t6; generalize ((w6.alloc (.cells #[.int .i64 0, .bool false, .bool false, .bool false, .int .i64 0, .int .i64 0, .int .i64 0, .int .i64 0, .slice none 0 0, .slice none 0 0, .int .i64 0, .int .i64 0, .int .i64 0, .bool false, .slice none 0 0, .int .i64 0, .int .i64 0, .int .i64 0, .int .i64 0, .slice none 0 0, .slice none 0 0] 32)).setCells w6.heap.size 0 (okN me gate (.slice (some ⟨b6, 0, none⟩) 1 1)).toList) = V6 at *)
  generalize w6.heap.size = K6 at *
  refine wp_region_lit ?_
  refine wpList_load_mid rfl 32 _ rfl K6 0 rfl (okN me gate (.slice (some ⟨b6, 0, none⟩) 1 1)).toList _ p6 Try.underlying32 rfl (by kernel_rfl) ?_
  refine wpList_load_mid rfl 32 _ rfl K1 0 rfl (okN me gate (.slice (some ⟨b0, 0, none⟩) 1 1)).toList _ r6 Try.underlying32 rfl (by kernel_rfl) ?_
  go_wp2_with fail
  refine (eqOk me gate b6 b0 _ H6 R6).mono ?_
  rintro e w7 ⟨rfl, b7⟩
  have q7 := range_below q6 b7
  have B10 := btrans B9 b7
  have G7 := G6.below b7
  clear R6 G6 H6
  clear r6 q6 p6 B9 b7
  go_upto_region 17 with fail
  refine wp_region_lit ?_
  refine wpList_load_mid rfl 32 _ rfl K2 0 rfl (okN me gate (.slice (some ⟨b1, 0, none⟩) 1 1)).toList _ q7 Try.underlying32 rfl (by kernel_rfl) ?_
  go_wp2_with fail
  refine (heldOk me gate b1 _ G7).mono ?_
  rintro e w8 ⟨rfl, b8⟩
  have B11 := btrans B10 b8
  clear q7 B10 b8
  go_wp2
  go_ret
  exact ⟨rfl, B11⟩
theorem exNew_walk (me : Int) (gate : Bool) (w : World) : Calls Try.prog 3 #[.int .i64 me, .bool gate] w fun r w' => r = .returned (.bool true) ∧ Below w.heap.size w w' := by
  cases hk : inb me 0 7
  · exact exNew_bad me gate w hk
  · exact exNew_ok me gate w hk
end Go.Proofs.Ytdfleidjbjjfdaa
