/- A new node: the program's way and the model's; nodes compared, marked and held. -/
import Derived.Test.YtlabilijnpkmgaaGreatDoorNew
import Derived.Deep.MidRow
namespace Go.Proofs.YtlabilijnpkmgaaGreatDoor
open Go.ChangeShapes Go.WideShapes Go.ChangeAt Go.RowKit
attribute [local go_sem ↓] Go.wp_at_zero Go.wp_at_succ
/-- one fact lies at block b, and may be written -/
def Row1 (w : World) (b : Nat) (n i s : Int) (g : Bool) : Prop :=
  (w.cell? ⟨b, 0, none⟩ = some (.int .i64 n) ∧ w.cell? ⟨b, 1, none⟩ = some (.int .i64 i) ∧ w.cell? ⟨b, 2, none⟩ = some (.int .i64 s) ∧ w.cell? ⟨b, 3, none⟩ = some (.bool g)) ∧
  (w.frozen? ⟨b, 0, none⟩ = false ∧ w.frozen? ⟨b, 1, none⟩ = false ∧ w.frozen? ⟨b, 2, none⟩ = false ∧ w.frozen? ⟨b, 3, none⟩ = false)
theorem Row1.lt {w : World} {b : Nat} {n i s : Int} {g : Bool} (h : Row1 w b n i s g) : b < w.heap.size := World.block_lt_of_cell? w _ h.1.1
theorem Row1.block {w w' : World} {b : Nat} {n i s : Int} {g : Bool} (h : Row1 w b n i s g) (hb : w'.heap[b]? = w.heap[b]?) : Row1 w' b n i s g := by
  obtain ⟨⟨c0, c1, c2, c3⟩, f0, f1, f2, f3⟩ := h
  exact ⟨⟨(World.cell?_of_block (a := ⟨b, 0, none⟩) hb).trans c0, (World.cell?_of_block (a := ⟨b, 1, none⟩) hb).trans c1, (World.cell?_of_block (a := ⟨b, 2, none⟩) hb).trans c2, (World.cell?_of_block (a := ⟨b, 3, none⟩) hb).trans c3⟩, (World.frozen?_of_block (a := ⟨b, 0, none⟩) hb).trans f0, (World.frozen?_of_block (a := ⟨b, 1, none⟩) hb).trans f1, (World.frozen?_of_block (a := ⟨b, 2, none⟩) hb).trans f2, (World.frozen?_of_block (a := ⟨b, 3, none⟩) hb).trans f3⟩
theorem Row1.below {w w' : World} {b : Nat} {n i s : Int} {g : Bool} (h : Row1 w b n i s g) (hb : Below w.heap.size w w') : Row1 w' b n i s g := h.block (hb.block b h.lt)
theorem Row1.grown {w w' : World} {b r : Nat} {n i s : Int} {g : Bool} (h : Row1 w b n i s g) (hg : w.grownBy w' (some r)) (hne : b ≠ r) : Row1 w' b n i s g := h.block (hg.block b h.lt (by simpa using hne))
theorem Row1.fsl {w : World} {b : Nat} {n i s : Int} {g : Bool} (h : Row1 w b n i s g) : FSl w (some ⟨b, 0, none⟩) 1 (fun _ => ⟨n, i, s, g⟩) := fun _ => ⟨b, 0, rfl, h.lt, fun k hk => by
  obtain rfl : k = 0 := by omega
  simpa using h.1⟩
theorem self_any (me : Int) (gate : Bool) (w : World) :
    Calls Tryz.prog 37 #[.agg #[.int .i64 me, .bool true, .bool false, .bool gate, .int .i64 0, .int .i64 0, .int .i64 0, .int .i64 0, .slice none 0 0, .slice none 0 0, .int .i64 (-1), .int .i64 0, .int .i64 0, .bool false, .slice none 0 0, .int .i64 0, .int .i64 0, .int .i64 0, .int .i64 1500, .slice none 0 0, .slice none 0 0]] w fun r w' => r = .returned (.agg #[.int .i64 me, .int .i64 0, .int .i64 1, .bool gate]) ∧ ∃ o1 o2, w' = (w.alloc o1).alloc o2 := by
  go_enter Tryz.func37, Tryz.ntmps37
  go_wp2
  exact bodyPost_ret (v := .agg #[.int .i64 me, .int .i64 0, .int .i64 1, .bool gate]) (by simp [results, Tryz.results37, go_sem]) rfl ⟨rfl, _, _, rfl⟩
def zN : Array Value := #[.int .i64 0, .bool false, .bool false, .bool false, .int .i64 0, .int .i64 0, .int .i64 0, .int .i64 0, .slice none 0 0, .slice none 0 0, .int .i64 0, .int .i64 0, .int .i64 0, .bool false, .slice none 0 0, .int .i64 0, .int .i64 0, .int .i64 0, .int .i64 0, .slice none 0 0, .slice none 0 0]
theorem there_new (w : World) : (w.alloc (.cells zN 41)).there w.heap.size 0 21 := fun j hj => by
  refine ⟨?_, by simp [go_sem]⟩
  rw [World.cell?_alloc_new]
  have hz : zN.size = 21 := by kernel_rfl
  simp only [Nat.zero_add]
  rw [Array.getElem?_eq_getElem (by omega)]
  rfl
theorem there_alloc {w : World} {b o n : Nat} (x : Obj) (h : w.there b o n) : (w.alloc x).there b o n := fun j hj => by
  obtain ⟨h1, h2⟩ := h j hj
  obtain ⟨v, hv⟩ := Option.isSome_iff_exists.1 h1
  have hb := Below.heap_alloc w x b (World.block_lt_of_cell? w _ hv)
  exact ⟨by rw [World.cell?_of_block (a := ⟨b, o + j, none⟩) hb]; exact h1, (World.frozen?_of_block (a := ⟨b, o + j, none⟩) hb).trans h2⟩
/-- a new node's cells, the table t -/
def okN (me : Int) (gate : Bool) (t : Value) : Array Value := #[.int .i64 me, .bool true, .bool false, .bool gate, .int .i64 0, .int .i64 0, .int .i64 0, .int .i64 0, t, .slice none 0 0, .int .i64 (-1), .int .i64 0, .int .i64 0, .bool false, .slice none 0 0, .int .i64 0, .int .i64 0, .int .i64 0, .int .i64 1500, .slice none 0 0, .slice none 0 0]
theorem there_below {w w' : World} {b o n : Nat} (h : w.there b o n) (hb : Below w.heap.size w w') : w'.there b o n := fun j hj => by
  obtain ⟨h1, h2⟩ := h j hj
  obtain ⟨v, hv⟩ := Option.isSome_iff_exists.1 h1
  have e := hb.block b (World.block_lt_of_cell? w _ hv)
  exact ⟨by rw [World.cell?_of_block (a := ⟨b, o + j, none⟩) e]; exact h1, (World.frozen?_of_block (a := ⟨b, o + j, none⟩) e).trans h2⟩
theorem range_below {w w' : World} {b : Nat} {cs : List Value} (h : w.rangeAt b 0 cs) (hb : Below w.heap.size w w') : w'.rangeAt b 0 cs := fun j v hv => (hb.cell (p := ⟨b, 0 + j, none⟩) (World.block_lt_of_cell? w _ (h j v hv))).trans (h j v hv)
theorem range_grown {w w' : World} {b r : Nat} {cs : List Value} (h : w.rangeAt b 0 cs) (hg : w.grownBy w' (some r)) (hne : b ≠ r) : w'.rangeAt b 0 cs := fun j v hv => hg.cell (h j v hv) (by simpa using hne)
theorem World.heap_setCells_far (w : World) (g o : Nat) (vs : List Value) {i : Nat} (hne : i ≠ g) : (w.setCells g o vs).heap[i]? = w.heap[i]? := by
  induction vs generalizing w o with
  | nil => rfl
  | cons v vs ih => exact (ih (w.setCell ⟨g, o, none⟩ v) (o + 1)).trans (heap_setCell_other w ⟨g, o, none⟩ i v (by simpa using hne))
theorem Row1.cells {w : World} {b c : Nat} {n i s : Int} {g : Bool} (h : Row1 w b n i s g) (hne : b ≠ c) : ∀ (vs : List Value) (o : Nat), Row1 (w.setCells c o vs) b n i s g := fun vs o =>
  h.block (World.heap_setCells_far w c o vs hne)
theorem read32 {w : World} {b : Nat} {cs : Array Value} (h : w.rangeAt b 0 cs.toList) (hs : cs.size = 21) : (loadVar 41 ⟨b, 0, none⟩).run Tryz.prog w = .ok (.agg cs) w := by
  have hr := run_loadVar_mid (P := Tryz.prog) w b 0 41 cs.toList _ h Tryz.underlying41 rfl (by rw [Array.length_toList, hs]; kernel_rfl)
  rwa [Array.toArray_toList] at hr
theorem snew_bad (me : Int) (gate : Bool) (w : World) (hk : inb me 0 7 = false) :
    Calls Tryz.prog 9 #[.int .i64 me, .bool gate] w fun r w' => r = .returned (.agg zN) ∧ Below w.heap.size w w' := by
  have hz : ∀ w, (zeroValue 41).run Tryz.prog w = .ok (.agg zN) w := fun _ => by kernel_rfl
  go_enter Tryz.func9, Tryz.ntmps9
  go_wp2_with (first | (go_at_call 28; refine (lin_lit _ _ _ false hk _).mono ?_; rintro e w' ⟨rfl, rfl⟩) | (refine wpList_store_mid rfl 41 _ _ rfl w.heap.size 0 zN rfl rfl (there_new w) (by kernel_rfl) (by kernel_rfl) ?_))
  have hr := read32 (World.rangeAt_setCells_same (w.alloc (.cells zN 41)) w.heap.size 0 zN.toList (there_new w)) rfl
  refine bodyPost_ret (v := .agg zN) ?_ rfl ⟨rfl, below_cells _ _ _ _ (Nat.le_refl _) (balloc _ (Below.refl _ _))⟩
  simp only [results, Tryz.results9]
  generalize ((w.alloc (.cells zN 41)).setCells w.heap.size 0 zN.toList) = W at *
  simp [Act.put, asAddr, hr]
theorem fnew_bad (me : Int) (gate : Bool) (w : World) (hk : inb me 0 7 = false) :
    Calls Tryz.prog 13 #[.int .i64 me, .bool gate] w fun r w' => r = .returned (.agg zN) ∧ Below w.heap.size w w' := by
  have hz : ∀ w, (zeroValue 41).run Tryz.prog w = .ok (.agg zN) w := fun _ => by kernel_rfl
  go_enter Tryz.func13, Tryz.ntmps13
  go_wp2_with (first | (go_at_call 34; refine (nodeOk_lit _ false hk _).mono ?_; rintro e w' ⟨rfl, rfl⟩) | (refine wpList_store_mid rfl 41 _ _ rfl w.heap.size 0 zN rfl rfl (there_new w) (by kernel_rfl) (by kernel_rfl) ?_))
  have hr := read32 (World.rangeAt_setCells_same (w.alloc (.cells zN 41)) w.heap.size 0 zN.toList (there_new w)) rfl
  refine bodyPost_ret (v := .agg zN) ?_ rfl ⟨rfl, below_cells _ _ _ _ (Nat.le_refl _) (balloc _ (Below.refl _ _))⟩
  simp only [results, Tryz.results13]
  generalize ((w.alloc (.cells zN 41)).setCells w.heap.size 0 zN.toList) = W at *
  simp [Act.put, asAddr, hr]
set_option maxHeartbeats 1000000 in
theorem snew_ok (me : Int) (gate : Bool) (w : World) (hk : inb me 0 7 = true) :
    Calls Tryz.prog 9 #[.int .i64 me, .bool gate] w fun r w' => ∃ b, r = .returned (.agg (okN me gate (.slice (some ⟨b, 0, none⟩) 1 1))) ∧ Row1 w' b me 0 1 gate ∧ w.heap.size ≤ b ∧ Below w.heap.size w w' := by
  go_enter Tryz.func9, Tryz.ntmps9
  go_wp2_with fail
  have t4 : (w.alloc (.cells #[.int .i64 0, .bool false, .bool false, .bool false, .int .i64 0, .int .i64 0, .int .i64 0, .int .i64 0, .slice none 0 0, .slice none 0 0, .int .i64 0, .int .i64 0, .int .i64 0, .bool false, .slice none 0 0, .int .i64 0, .int .i64 0, .int .i64 0, .int .i64 0, .slice none 0 0, .slice none 0 0] 41)).there w.heap.size 0 21 := there_new w
  have bw : Below w.heap.size w (w.alloc (.cells #[.int .i64 0, .bool false, .bool false, .bool false, .int .i64 0, .int .i64 0, .int .i64 0, .int .i64 0, .slice none 0 0, .slice none 0 0, .int .i64 0, .int .i64 0, .int .i64 0, .bool false, .slice none 0 0, .int .i64 0, .int .i64 0, .int .i64 0, .int .i64 0, .slice none 0 0, .slice none 0 0] 41)) := balloc _ (Below.refl _ _)
  have hlt : w.heap.size < (w.alloc (.cells #[.int .i64 0, .bool false, .bool false, .bool false, .int .i64 0, .int .i64 0, .int .i64 0, .int .i64 0, .slice none 0 0, .slice none 0 0, .int .i64 0, .int .i64 0, .int .i64 0, .bool false, .slice none 0 0, .int .i64 0, .int .i64 0, .int .i64 0, .int .i64 0, .slice none 0 0, .slice none 0 0] 41)).heap.size := by simp
  generalize (w.alloc (.cells #[.int .i64 0, .bool false, .bool false, .bool false, .int .i64 0, .int .i64 0, .int .i64 0, .int .i64 0, .slice none 0 0, .slice none 0 0, .int .i64 0, .int .i64 0, .int .i64 0, .bool false, .slice none 0 0, .int .i64 0, .int .i64 0, .int .i64 0, .int .i64 0, .slice none 0 0, .slice none 0 0] 41)) = W at *
  refine (lin_lit _ _ _ true hk _).mono ?_
  rintro e w1 ⟨rfl, hw⟩
  obtain rfl := hw.symm
  go_wp2_with fail
  have R0 : Row1 (W.alloc (.cells #[.int .i64 me, .int .i64 0, .int .i64 1, .bool gate] 45)) W.heap.size me 0 1 gate := by
    refine ⟨⟨?_, ?_, ?_, ?_⟩, ?_, ?_, ?_, ?_⟩ <;> simp [go_sem]
  have t5 := there_alloc (.cells #[.int .i64 me, .int .i64 0, .int .i64 1, .bool gate] 45) t4
  have b5 := balloc (.cells #[.int .i64 me, .int .i64 0, .int .i64 1, .bool gate] 45) bw
  generalize (W.alloc (.cells #[.int .i64 me, .int .i64 0, .int .i64 1, .bool gate] 45)) = W2 at *
  generalize hBB : W.heap.size = BB at *
  refine (scnew_any _).mono ?_
  rintro e w2 ⟨rfl, o1, rfl⟩
  have R1 := R0.below (balloc o1 (Below.refl _ _))
  have t6 := there_alloc o1 t5
  have b6 := balloc o1 b5
  clear R0 t5 b5 t4 bw
  generalize (W2.alloc o1) = W3 at *
  go_wp2_with (refine wpList_store_mid rfl 41 _ _ rfl w.heap.size 0 (okN me gate (.slice (some ⟨BB, 0, none⟩) 1 1)) rfl rfl t6 (by kernel_rfl) (by kernel_rfl) ?_)
  have hr := read32 (World.rangeAt_setCells_same W3 w.heap.size 0 (okN me gate (.slice (some ⟨BB, 0, none⟩) 1 1)).toList t6) rfl
  have R2 := R1.cells (c := w.heap.size) (by omega) (okN me gate (.slice (some ⟨BB, 0, none⟩) 1 1)).toList 0
  refine bodyPost_ret (v := .agg (okN me gate (.slice (some ⟨BB, 0, none⟩) 1 1))) ?_ rfl ⟨BB, rfl, R2, by omega, below_cells _ _ _ _ (Nat.le_refl _) b6⟩
  simp only [results, Tryz.results9]
  generalize (W3.setCells w.heap.size 0 (okN me gate (.slice (some ⟨BB, 0, none⟩) 1 1)).toList) = W4 at *
  simp [Act.put, asAddr, hr]
end Go.Proofs.YtlabilijnpkmgaaGreatDoor
