/- A line read as an event, and held against what would be written: the program's way. -/
import Derived.Test.YtlebggbbhkiokaaGreatDoorREvt
namespace Go.Proofs.YtlebggbbhkiokaaGreatDoor
open Go.ChangeShapes Go.WideShapes Go.ChangeAt Go.RowKit
attribute [local go_sem ↓] Go.wp_at_zero Go.wp_at_succ
/-- what a line is -/
def sevP (s : List UInt8) : Fc × Bool := ((evP (Lib.splitN (Lib.trimSuffix s [10]) [32] 4)).1, (evP (Lib.splitN (Lib.trimSuffix s [10]) [32] 4)).2 && (eline (evP (Lib.splitN (Lib.trimSuffix s [10]) [32] 4)).1 ++ [10] == s))
theorem trim_line {p : List UInt8} : Lib.trimSuffix (p ++ [10]) [10] = p := by
  unfold Lib.trimSuffix Lib.hasSuffix
  simp
theorem sevP_good {g : Fc} (h : eok g = true) : sevP (eline g ++ [10]) = (g, true) := by
  unfold sevP
  rw [trim_line, eline_split h, evP_line h]
  simp
theorem sevP_bad {p : List UInt8} (h : ¬ goodL p) : (sevP (p ++ [10])).2 = false := by
  cases hq : (sevP (p ++ [10])).2 with
  | false => rfl
  | true =>
    unfold sevP at hq
    simp only [Bool.and_eq_true, beq_iff_eq] at hq
    exact absurd ⟨_, evP_ok _ hq.1, List.append_cancel_right hq.2⟩ h
theorem sevP_last {p : List UInt8} (h : (10 : UInt8) ∉ p) : (sevP p).2 = false := by
  cases hq : (sevP p).2 with
  | false => rfl
  | true =>
    unfold sevP at hq
    simp only [Bool.and_eq_true, beq_iff_eq] at hq
    exact absurd (by rw [← hq.2]; simp) h
theorem sline_lit (f : Fc) (x : ByteArray) (hf : eok f = true) (hx : bs (eline f) = x) (w : World) (ht : Tabs w) :
    Calls Tryz.prog 29 #[.agg #[.int .i64 f.n, .int .i64 f.i, .int .i64 f.s, .bool f.g]] w fun e w' => e = .returned (.string x) ∧ Below w.heap.size w w' := hx ▸ sline_any f hf w ht
theorem bs_size (l : List UInt8) : (bs l).size = l.length := by simp [ByteArray.size]
theorem trim_len (s : List UInt8) : (Lib.trimSuffix s [10]).length ≤ s.length := by
  unfold Lib.trimSuffix
  split
  · rw [List.length_take]; omega
  · exact Nat.le_refl _
theorem evOf_lit (s : ByteArray) (f : Fc) (q : Bool) (hs : s.size ≤ 1048576) (hv : evP (Lib.splitN s.data.toList [32] 4) = (f, q)) (w : World) (hp : Pst w) :
    Calls Tryz.prog 27 #[.string s] w fun e w' => e = .returned (.tuple #[.agg #[.int .i64 f.n, .int .i64 f.i, .int .i64 f.s, .bool f.g], .bool q]) ∧ Below w.heap.size w w' := by
  have := evOf_any s hs w hp
  rw [hv] at this
  exact this
set_option maxRecDepth 20000 in
set_option maxHeartbeats 8000000 in
theorem sev_any (s : ByteArray) (hs : s.size ≤ 1048576) (w : World) (hp : Pst w) :
    Calls Tryz.prog 19 #[.string s] w fun e w' => Rev (sevP s.data.toList) w e w' := by
  have hL : s.data.toList.length = s.size := by simp
  obtain ⟨y, hy⟩ : ∃ y, bs (Lib.trimSuffix s.data.toList [10]) = y := ⟨_, rfl⟩
  have hyl : y.size ≤ 1048576 := by rw [← hy, bs_size]; have := trim_len s.data.toList; omega
  have hT := fun w => Tryz.strings_TrimSuffix s (bs [10]) w (by omega)
  have hT' : Hid (∀ w, Calls Tryz.prog 28 #[.string s, .string (bs [10])] w fun e w' => e = .returned (.string y) ∧ w' = w) := by unfold Hid; rw [← hy]; exact hT
  have hsv : Hid (sevP s.data.toList = ((evP (Lib.splitN y.data.toList [32] 4)).1, (evP (Lib.splitN y.data.toList [32] 4)).2 && (eline (evP (Lib.splitN y.data.toList [32] 4)).1 ++ [10] == s.data.toList))) := by unfold Hid; rw [← hy]; rfl
  have hok0 := evP_ok (Lib.splitN y.data.toList [32] 4)
  clear hT hy hL
  obtain ⟨f, hf⟩ : ∃ f, (evP (Lib.splitN y.data.toList [32] 4)).1 = f := ⟨_, rfl⟩
  obtain ⟨q, hq⟩ : ∃ q, (evP (Lib.splitN y.data.toList [32] 4)).2 = q := ⟨_, rfl⟩
  have hE : Hid (evP (Lib.splitN y.data.toList [32] 4) = (f, q)) := by unfold Hid; rw [← hf, ← hq]
  rw [hf, hq] at hsv hok0
  clear hf hq
  obtain ⟨x, hx⟩ : ∃ x, Hid (bs (eline f) = x) := ⟨bs (eline f), Eq.refl _⟩
  obtain ⟨q2, hq2⟩ : ∃ q2, Hid ((eline f ++ [10] == s.data.toList) = q2) := ⟨(eline f ++ [10] == s.data.toList), Eq.refl _⟩
  rw [hq2.out] at hsv
  have hx2 : ((x ++ bs [10]).toList == s.toList) = q2 := by rw [← hq2.out, ← hx.out, bs_append, ByteArray.toList_eq, ByteArray.toList_eq]
  go_enter Tryz.func19, Tryz.ntmps19
  go_wp2_with fail
  have BA : Bx (w.alloc (.cells #[.int .i64 0, .int .i64 0, .int .i64 0, .bool false] 31)) w.heap.size ⟨0, 0, 0, false⟩ := ⟨by simp, by simp, by simp, by simp, by simp, fun k => by simp⟩
  have BW : Below w.heap.size w (w.alloc (.cells #[.int .i64 0, .int .i64 0, .int .i64 0, .bool false] 31)) := balloc _ (Below.refl _ _)
  have hgt : w.heap.size < (w.alloc (.cells #[.int .i64 0, .int .i64 0, .int .i64 0, .bool false] 31)).heap.size := by simp
  generalize (w.alloc (.cells #[.int .i64 0, .int .i64 0, .int .i64 0, .bool false] 31)) = w0 at *
  refine (hT'.out _).mono ?_
  rintro e w00 ⟨rfl, hw⟩
  obtain rfl := hw.symm
  clear hw hT'
  go_wp2_with fail
  refine (evOf_lit y f q hyl hE.out _ (hp.below BW)).mono ?_
  rintro e w1 ⟨rfl, bb⟩
  replace BW := btrans BW bb
  replace BA := BA.below bb
  have hbx : w1.heap.size ≠ w.heap.size := by have := bb.size; omega
  clear bb hE hgt
  have b2 : Below w1.heap.size w1 (w1.alloc (.cells #[.int .i64 f.n, .int .i64 f.i, .int .i64 f.s, .bool f.g] 31)) := balloc _ (Below.refl _ _)
  have BX : Bx (w1.alloc (.cells #[.int .i64 f.n, .int .i64 f.i, .int .i64 f.s, .bool f.g] 31)) w1.heap.size f := ⟨by simp, by simp, by simp, by simp, by simp, fun k => by simp⟩
  go_wp2_with fail
  replace BW := btrans BW b2
  replace BA := BA.below b2
  clear b2
  generalize (w1.alloc (.cells #[.int .i64 f.n, .int .i64 f.i, .int .i64 f.s, .bool f.g] 31)) = w2 at *
  obtain ⟨bx, hbxe⟩ : ∃ bx, Hid (w1.heap.size = bx) := ⟨_, rfl⟩
  rw [hbxe.out] at BX hbx ⊢
  have e0 := BX.c0
  have e1 := BX.c1
  have e2 := BX.c2
  have e3 := BX.c3
  cases q
  · have hv : Hid (sevP s.data.toList = (f, false)) := by unfold Hid; rw [hsv.out]; rfl
    clear hsv hok0 hx hx2 hq2
    refine wp_region_held_drew (S := fun w' => w'.cell? ⟨bx, 0, none⟩ = some (.int .i64 f.n) ∧ w'.cell? ⟨bx, 1, none⟩ = some (.int .i64 f.i) ∧ w'.cell? ⟨bx, 2, none⟩ = some (.int .i64 f.s) ∧ w'.cell? ⟨bx, 3, none⟩ = some (.bool f.g)) (by kernel_rfl) ?_ (fun hHeld => ?_)
    · (try dsimp only); (refine ⟨?_, ?_, ?_, ?_⟩ <;> (repeat (first | with_reducible assumption | with_reducible refine keep_drew ?_ | with_reducible refine keep_below (by assumption) ?_)))
    refine wpAnyH_take (i := 0) (oi := { dst := some 12, op := Go.Op.load 31 (Go.Operand.tmp 4), type := 31, pos := "l54_script.go:60", after := #[], guard := none }) (v := ?_) rfl (by kernel_rfl) (by kernel_rfl) (by kernel_rfl) (fun _ _ _ h => h) (Or.inl ⟨by rfl, ?_⟩) (by assumption) ?_
    rotate_left 1
    · (intro w hSw; (try dsimp only at hSw); go_simp; try with_reducible rfl)
    (try simp only [Act.put, List.setIfInBounds_toArray, List.set_cons_zero, List.set_cons_succ])
    refine wpAnyH_take (i := 1) (oi := { dst := some 13, op := Go.Op.move (Go.Operand.tmp 5), type := 4, pos := "l54_script.go:60", after := #[], guard := none }) (v := ?_) rfl (by kernel_rfl) (by kernel_rfl) (by kernel_rfl) (fun _ _ _ h => h) (Or.inl ⟨by rfl, ?_⟩) (by assumption) ?_
    rotate_left 1
    · (intro w hSw; (try dsimp only at hSw); go_simp; try with_reducible rfl)
    (try simp only [Act.put, List.setIfInBounds_toArray, List.set_cons_zero, List.set_cons_succ])
    refine wpAnyH_take (i := 2) (oi := { dst := some 14, op := Go.Op.move (Go.Operand.tmp 13), type := 4, pos := "l54_script.go:60", after := #[{ on := 1, ground := Go.Ground.data }], guard := none }) (v := ?_) rfl (by kernel_rfl) (by kernel_rfl) (by kernel_rfl) (fun _ _ _ h => h) (Or.inl ⟨by rfl, ?_⟩) (by assumption) ?_
    rotate_left 1
    · (intro w hSw; (try dsimp only at hSw); go_simp; try with_reducible rfl)
    (try simp only [Act.put, List.setIfInBounds_toArray, List.set_cons_zero, List.set_cons_succ])
    refine wpAnyH_take (i := 3) (oi := { dst := some 15, op := Go.Op.load 31 (Go.Operand.tmp 4), type := 31, pos := "l54_script.go:60", after := #[{ on := 2, ground := Go.Ground.guard }], guard := some (2, true) }) (v := undef) rfl (by kernel_rfl) (by kernel_rfl) (by kernel_rfl) (fun _ _ _ h => h) (Or.inr ⟨by rfl, rfl⟩) (by assumption) ?_
    (try simp only [Act.put, List.setIfInBounds_toArray, List.set_cons_zero, List.set_cons_succ])
    refine wpAnyH_take (i := 4) (oi := { dst := some 16, op := Go.Op.call { callee := Go.Callee.value (Go.Operand.func 29), args := #[Go.Operand.tmp 15], argTypes := #[31] }, type := 9, pos := "l54_script.go:60", after := #[{ on := 3, ground := Go.Ground.data }, { on := 2, ground := Go.Ground.chain }, { on := 2, ground := Go.Ground.guard }], guard := some (2, true) }) (v := undef) rfl (by kernel_rfl) (by kernel_rfl) (by kernel_rfl) (fun _ _ _ h => h) (Or.inr ⟨by rfl, rfl⟩) (by assumption) ?_
    (try simp only [Act.put, List.setIfInBounds_toArray, List.set_cons_zero, List.set_cons_succ])
    refine wpAnyH_take (i := 5) (oi := { dst := some 17, op := Go.Op.binOp Go.BinOp.add 9 (Go.Operand.tmp 16) (Go.Operand.const (Go.Value.string { data := #[10] })) 9, type := 9, pos := "l54_script.go:60", after := #[{ on := 4, ground := Go.Ground.data }, { on := 2, ground := Go.Ground.guard }, { on := 9, ground := Go.Ground.gcOnly Go.Departure.lateStores }], guard := some (2, true) }) (v := undef) rfl (by kernel_rfl) (by kernel_rfl) (by kernel_rfl) (fun _ _ _ h => h) (Or.inr ⟨by rfl, rfl⟩) (by assumption) ?_
    (try simp only [Act.put, List.setIfInBounds_toArray, List.set_cons_zero, List.set_cons_succ])
    refine wpAnyH_take (i := 6) (oi := { dst := some 18, op := Go.Op.move (Go.Operand.tmp 0), type := 9, pos := "l54_script.go:60", after := #[{ on := 2, ground := Go.Ground.guard }, { on := 9, ground := Go.Ground.gcOnly Go.Departure.lateStores }], guard := some (2, true) }) (v := undef) rfl (by kernel_rfl) (by kernel_rfl) (by kernel_rfl) (fun _ _ _ h => h) (Or.inr ⟨by rfl, rfl⟩) (by assumption) ?_
    (try simp only [Act.put, List.setIfInBounds_toArray, List.set_cons_zero, List.set_cons_succ])
    refine wpAnyH_take (i := 7) (oi := { dst := some 19, op := Go.Op.binOp Go.BinOp.eql 9 (Go.Operand.tmp 17) (Go.Operand.tmp 18) 9, type := 4, pos := "l54_script.go:60", after := #[{ on := 5, ground := Go.Ground.data }, { on := 6, ground := Go.Ground.data }, { on := 2, ground := Go.Ground.guard }, { on := 9, ground := Go.Ground.gcOnly Go.Departure.lateStores }], guard := some (2, true) }) (v := undef) rfl (by kernel_rfl) (by kernel_rfl) (by kernel_rfl) (fun _ _ _ h => h) (Or.inr ⟨by rfl, rfl⟩) (by assumption) ?_
    (try simp only [Act.put, List.setIfInBounds_toArray, List.set_cons_zero, List.set_cons_succ])
    refine wpAnyH_take (i := 8) (oi := { dst := some 20, op := Go.Op.pick (Go.Operand.tmp 14) (Go.Operand.tmp 19) (Go.Operand.const (Go.Value.bool false)), type := 4, pos := "l54_script.go:60", after := #[{ on := 2, ground := Go.Ground.data }, { on := 7, ground := Go.Ground.data }, { on := 9, ground := Go.Ground.gcOnly Go.Departure.lateStores }], guard := none }) (v := ?_) rfl (by kernel_rfl) (by kernel_rfl) (by kernel_rfl) (fun _ _ _ h => h) (Or.inl ⟨by rfl, ?_⟩) (by assumption) ?_
    rotate_left 1
    · (intro w hSw; (try dsimp only at hSw); go_simp; try with_reducible rfl)
    (try simp only [Act.put, List.setIfInBounds_toArray, List.set_cons_zero, List.set_cons_succ])
    replace BW := qd BW
    replace BA := BA.drew
    replace BX := BX.drew
    clear hHeld
    generalize w2.drew = wd at *
    have BA8 := (((BA.set0 f.n).set1 f.i).set2 f.s).set3 f.g
    have BE : Below w.heap.size w ((((wd.setCell ⟨w.heap.size, 0, none⟩ (.int .i64 f.n)).setCell ⟨w.heap.size, 1, none⟩ (.int .i64 f.i)).setCell ⟨w.heap.size, 2, none⟩ (.int .i64 f.s)).setCell ⟨w.heap.size, 3, none⟩ (.bool f.g)) := (((BW.setCell (Nat.le_refl _) _).setCell (Nat.le_refl _) _).setCell (Nat.le_refl _) _).setCell (Nat.le_refl _) _
    have BX8 : Bx ((((wd.setCell ⟨w.heap.size, 0, none⟩ (.int .i64 f.n)).setCell ⟨w.heap.size, 1, none⟩ (.int .i64 f.i)).setCell ⟨w.heap.size, 2, none⟩ (.int .i64 f.s)).setCell ⟨w.heap.size, 3, none⟩ (.bool f.g)) bx f := (((BX.far hbx).far hbx).far hbx).far hbx
    have a0 := BA.c0
    have a1 := BA.c1
    have a2 := BA.c2
    have a3 := BA.c3
    have z0 := BA.z 0
    have z1 := BA.z 1
    have z2 := BA.z 2
    have z3 := BA.z 3
    refine wpAnyH_ready (rs := [9]) (by kernel_rfl) (by simp) ?_
    refine AllReadyH.cons (o := { dst := none, op := Go.Op.store 31 (Go.Operand.tmp 2) (Go.Operand.tmp 12), type := 0, pos := "l54_script.go:60", after := #[{ on := 0, ground := Go.Ground.data }, { on := 4, ground := Go.Ground.chain }, { on := 0, ground := Go.Ground.phase }, { on := 1, ground := Go.Ground.textOnly Go.Departure.lateStores }, { on := 2, ground := Go.Ground.textOnly Go.Departure.lateStores }, { on := 3, ground := Go.Ground.textOnly Go.Departure.lateStores }, { on := 4, ground := Go.Ground.textOnly Go.Departure.lateStoresUnsure }, { on := 5, ground := Go.Ground.textOnly Go.Departure.lateStores }, { on := 6, ground := Go.Ground.textOnly Go.Departure.lateStores }, { on := 7, ground := Go.Ground.textOnly Go.Departure.lateStores }, { on := 8, ground := Go.Ground.textOnly Go.Departure.lateStores }], guard := none }) rfl (fun K hK => ?_) (AllReadyH.nil)
    go_simp
    refine hK.out _ _ ?_ (fun hHeld => ?_)
    · exact ⟨BX8.c0, BX8.c1, BX8.c2, BX8.c3⟩
    clear hK K
    (try simp only [Act.put, List.setIfInBounds_toArray, List.set_cons_zero, List.set_cons_succ])
    refine wpAnyH_take (i := 10) (oi := { dst := some 3, op := Go.Op.assign (Go.Operand.tmp 20), type := 4, pos := "l54_script.go:60", after := #[{ on := 8, ground := Go.Ground.data }, { on := 9, ground := Go.Ground.chain }, { on := 0, ground := Go.Ground.phase }, { on := 1, ground := Go.Ground.phase }, { on := 2, ground := Go.Ground.phase }, { on := 3, ground := Go.Ground.phase }, { on := 4, ground := Go.Ground.phase }, { on := 5, ground := Go.Ground.phase }, { on := 6, ground := Go.Ground.phase }, { on := 7, ground := Go.Ground.phase }, { on := 8, ground := Go.Ground.phase }, { on := 9, ground := Go.Ground.phase }], guard := none }) (v := ?_) rfl (by kernel_rfl) (by kernel_rfl) (by kernel_rfl) (fun _ _ _ h => h) (Or.inl ⟨by rfl, ?_⟩) (by assumption) ?_
    rotate_left 1
    · (intro w hSw; (try dsimp only at hSw); go_simp; try with_reducible rfl)
    (try simp only [Act.put, List.setIfInBounds_toArray, List.set_cons_zero, List.set_cons_succ])
    refine wpAnyH_done (by kernel_rfl) ?_ _
    clear a0 a1 a2 a3 z0 z1 z2 z3 BA BW BX BX8 hHeld
    generalize ((((wd.setCell ⟨w.heap.size, 0, none⟩ (.int .i64 f.n)).setCell ⟨w.heap.size, 1, none⟩ (.int .i64 f.i)).setCell ⟨w.heap.size, 2, none⟩ (.int .i64 f.s)).setCell ⟨w.heap.size, 3, none⟩ (.bool f.g)) = w9 at *
    have a0 := BA8.c0
    have a1 := BA8.c1
    have a2 := BA8.c2
    have a3 := BA8.c3
    go_wp2
    exact bodyPost_ret (v := .tuple #[.agg #[.int .i64 f.n, .int .i64 f.i, .int .i64 f.s, .bool f.g], .bool false]) (by simp [results, Tryz.results19, go_sem, a0, a1, a2, a3]) rfl (Rev.of hv BE)
  · have hv : Hid (sevP s.data.toList = (f, q2)) := by unfold Hid; rw [hsv.out]; simp
    have hok : Hid (eok f = true) := hok0 rfl
    have hxl := eline_len hok.out
    have k1 : ¬ 9223372036854775807 < x.size + 1 := by rw [← hx.out, bs_size]; omega
    clear hsv hok0 hq2 hxl
    refine wp_region_held_drew (S := fun w' => w'.cell? ⟨bx, 0, none⟩ = some (.int .i64 f.n) ∧ w'.cell? ⟨bx, 1, none⟩ = some (.int .i64 f.i) ∧ w'.cell? ⟨bx, 2, none⟩ = some (.int .i64 f.s) ∧ w'.cell? ⟨bx, 3, none⟩ = some (.bool f.g)) (by kernel_rfl) ?_ (fun hHeld => ?_)
    · (try dsimp only); (refine ⟨?_, ?_, ?_, ?_⟩ <;> (repeat (first | with_reducible assumption | with_reducible refine keep_drew ?_ | with_reducible refine keep_below (by assumption) ?_)))
    refine wpAnyH_take (i := 0) (oi := { dst := some 12, op := Go.Op.load 31 (Go.Operand.tmp 4), type := 31, pos := "l54_script.go:60", after := #[], guard := none }) (v := ?_) rfl (by kernel_rfl) (by kernel_rfl) (by kernel_rfl) (fun _ _ _ h => h) (Or.inl ⟨by rfl, ?_⟩) (by assumption) ?_
    rotate_left 1
    · (intro w hSw; (try dsimp only at hSw); go_simp; try with_reducible rfl)
    (try simp only [Act.put, List.setIfInBounds_toArray, List.set_cons_zero, List.set_cons_succ])
    refine wpAnyH_take (i := 1) (oi := { dst := some 13, op := Go.Op.move (Go.Operand.tmp 5), type := 4, pos := "l54_script.go:60", after := #[], guard := none }) (v := ?_) rfl (by kernel_rfl) (by kernel_rfl) (by kernel_rfl) (fun _ _ _ h => h) (Or.inl ⟨by rfl, ?_⟩) (by assumption) ?_
    rotate_left 1
    · (intro w hSw; (try dsimp only at hSw); go_simp; try with_reducible rfl)
    (try simp only [Act.put, List.setIfInBounds_toArray, List.set_cons_zero, List.set_cons_succ])
    refine wpAnyH_take (i := 2) (oi := { dst := some 14, op := Go.Op.move (Go.Operand.tmp 13), type := 4, pos := "l54_script.go:60", after := #[{ on := 1, ground := Go.Ground.data }], guard := none }) (v := ?_) rfl (by kernel_rfl) (by kernel_rfl) (by kernel_rfl) (fun _ _ _ h => h) (Or.inl ⟨by rfl, ?_⟩) (by assumption) ?_
    rotate_left 1
    · (intro w hSw; (try dsimp only at hSw); go_simp; try with_reducible rfl)
    (try simp only [Act.put, List.setIfInBounds_toArray, List.set_cons_zero, List.set_cons_succ])
    refine wpAnyH_take (i := 3) (oi := { dst := some 15, op := Go.Op.load 31 (Go.Operand.tmp 4), type := 31, pos := "l54_script.go:60", after := #[{ on := 2, ground := Go.Ground.guard }], guard := some (2, true) }) (v := ?_) rfl (by kernel_rfl) (by kernel_rfl) (by kernel_rfl) (fun _ _ _ h => h) (Or.inl ⟨by rfl, ?_⟩) (by assumption) ?_
    rotate_left 1
    · (intro w hSw; (try dsimp only at hSw); go_simp; try with_reducible rfl)
    (try simp only [Act.put, List.setIfInBounds_toArray, List.set_cons_zero, List.set_cons_succ])
    refine wpAnyH_take (i := 6) (oi := { dst := some 18, op := Go.Op.move (Go.Operand.tmp 0), type := 9, pos := "l54_script.go:60", after := #[{ on := 2, ground := Go.Ground.guard }, { on := 9, ground := Go.Ground.gcOnly Go.Departure.lateStores }], guard := some (2, true) }) (v := ?_) rfl (by kernel_rfl) (by kernel_rfl) (by kernel_rfl) (fun _ _ _ h => h) (Or.inl ⟨by rfl, ?_⟩) (by assumption) ?_
    rotate_left 1
    · (intro w hSw; (try dsimp only at hSw); go_simp; try with_reducible rfl)
    (try simp only [Act.put, List.setIfInBounds_toArray, List.set_cons_zero, List.set_cons_succ])
    refine wpAnyH_ready (rs := [4]) (by kernel_rfl) (by simp) ?_
    refine AllReadyH.cons (o := { dst := some 16, op := Go.Op.call { callee := Go.Callee.value (Go.Operand.func 29), args := #[Go.Operand.tmp 15], argTypes := #[31] }, type := 9, pos := "l54_script.go:60", after := #[{ on := 3, ground := Go.Ground.data }, { on := 2, ground := Go.Ground.chain }, { on := 2, ground := Go.Ground.guard }], guard := some (2, true) }) rfl (fun K hK => ?_) (AllReadyH.nil)
    go_simp
    refine (sline_lit f x hok.out hx.out _ ((hp.below BW).t.below (qd (Below.refl _ _)))).mono ?_
    rintro e w3 ⟨rfl, bb⟩
    replace BW := btrans (qd BW) bb
    replace BA := BA.drew.below bb
    replace BX := BX.drew.below bb
    go_wp2_with fail
    refine hK.out _ _ ?_ (fun hHeld => ?_)
    · exact ⟨BX.c0, BX.c1, BX.c2, BX.c3⟩
    clear hK K bb
    (try simp only [Act.put, List.setIfInBounds_toArray, List.set_cons_zero, List.set_cons_succ])
    refine wpAnyH_take (i := 5) (oi := { dst := some 17, op := Go.Op.binOp Go.BinOp.add 9 (Go.Operand.tmp 16) (Go.Operand.const (Go.Value.string { data := #[10] })) 9, type := 9, pos := "l54_script.go:60", after := #[{ on := 4, ground := Go.Ground.data }, { on := 2, ground := Go.Ground.guard }, { on := 9, ground := Go.Ground.gcOnly Go.Departure.lateStores }], guard := some (2, true) }) (v := ?_) rfl (by kernel_rfl) (by kernel_rfl) (by kernel_rfl) (fun _ _ _ h => h) (Or.inl ⟨by rfl, ?_⟩) (by assumption) ?_
    rotate_left 1
    · (intro w hSw; (try dsimp only at hSw); go_simp; try with_reducible rfl)
    (try simp only [Act.put, List.setIfInBounds_toArray, List.set_cons_zero, List.set_cons_succ])
    refine wpAnyH_take (i := 7) (oi := { dst := some 19, op := Go.Op.binOp Go.BinOp.eql 9 (Go.Operand.tmp 17) (Go.Operand.tmp 18) 9, type := 4, pos := "l54_script.go:60", after := #[{ on := 5, ground := Go.Ground.data }, { on := 6, ground := Go.Ground.data }, { on := 2, ground := Go.Ground.guard }, { on := 9, ground := Go.Ground.gcOnly Go.Departure.lateStores }], guard := some (2, true) }) (v := ?_) rfl (by kernel_rfl) (by kernel_rfl) (by kernel_rfl) (fun _ _ _ h => h) (Or.inl ⟨by rfl, ?_⟩) (by assumption) ?_
    rotate_left 1
    · (intro w hSw; (try dsimp only at hSw); go_simp; try with_reducible rfl)
    (try simp only [Act.put, List.setIfInBounds_toArray, List.set_cons_zero, List.set_cons_succ])
    refine wpAnyH_take (i := 8) (oi := { dst := some 20, op := Go.Op.pick (Go.Operand.tmp 14) (Go.Operand.tmp 19) (Go.Operand.const (Go.Value.bool false)), type := 4, pos := "l54_script.go:60", after := #[{ on := 2, ground := Go.Ground.data }, { on := 7, ground := Go.Ground.data }, { on := 9, ground := Go.Ground.gcOnly Go.Departure.lateStores }], guard := none }) (v := ?_) rfl (by kernel_rfl) (by kernel_rfl) (by kernel_rfl) (fun _ _ _ h => h) (Or.inl ⟨by rfl, ?_⟩) (by assumption) ?_
    rotate_left 1
    · (intro w hSw; (try dsimp only at hSw); go_simp; try with_reducible rfl)
    (try simp only [Act.put, List.setIfInBounds_toArray, List.set_cons_zero, List.set_cons_succ])
    clear hHeld
    have BA8 := (((BA.set0 f.n).set1 f.i).set2 f.s).set3 f.g
    have BE : Below w.heap.size w ((((w3.setCell ⟨w.heap.size, 0, none⟩ (.int .i64 f.n)).setCell ⟨w.heap.size, 1, none⟩ (.int .i64 f.i)).setCell ⟨w.heap.size, 2, none⟩ (.int .i64 f.s)).setCell ⟨w.heap.size, 3, none⟩ (.bool f.g)) := (((BW.setCell (Nat.le_refl _) _).setCell (Nat.le_refl _) _).setCell (Nat.le_refl _) _).setCell (Nat.le_refl _) _
    have BX8 : Bx ((((w3.setCell ⟨w.heap.size, 0, none⟩ (.int .i64 f.n)).setCell ⟨w.heap.size, 1, none⟩ (.int .i64 f.i)).setCell ⟨w.heap.size, 2, none⟩ (.int .i64 f.s)).setCell ⟨w.heap.size, 3, none⟩ (.bool f.g)) bx f := (((BX.far hbx).far hbx).far hbx).far hbx
    have a0 := BA.c0
    have a1 := BA.c1
    have a2 := BA.c2
    have a3 := BA.c3
    have z0 := BA.z 0
    have z1 := BA.z 1
    have z2 := BA.z 2
    have z3 := BA.z 3
    refine wpAnyH_ready (rs := [9]) (by kernel_rfl) (by simp) ?_
    refine AllReadyH.cons (o := { dst := none, op := Go.Op.store 31 (Go.Operand.tmp 2) (Go.Operand.tmp 12), type := 0, pos := "l54_script.go:60", after := #[{ on := 0, ground := Go.Ground.data }, { on := 4, ground := Go.Ground.chain }, { on := 0, ground := Go.Ground.phase }, { on := 1, ground := Go.Ground.textOnly Go.Departure.lateStores }, { on := 2, ground := Go.Ground.textOnly Go.Departure.lateStores }, { on := 3, ground := Go.Ground.textOnly Go.Departure.lateStores }, { on := 4, ground := Go.Ground.textOnly Go.Departure.lateStoresUnsure }, { on := 5, ground := Go.Ground.textOnly Go.Departure.lateStores }, { on := 6, ground := Go.Ground.textOnly Go.Departure.lateStores }, { on := 7, ground := Go.Ground.textOnly Go.Departure.lateStores }, { on := 8, ground := Go.Ground.textOnly Go.Departure.lateStores }], guard := none }) rfl (fun K hK => ?_) (AllReadyH.nil)
    go_simp
    refine hK.out _ _ ?_ (fun hHeld => ?_)
    · exact ⟨BX8.c0, BX8.c1, BX8.c2, BX8.c3⟩
    clear hK K
    (try simp only [Act.put, List.setIfInBounds_toArray, List.set_cons_zero, List.set_cons_succ])
    refine wpAnyH_take (i := 10) (oi := { dst := some 3, op := Go.Op.assign (Go.Operand.tmp 20), type := 4, pos := "l54_script.go:60", after := #[{ on := 8, ground := Go.Ground.data }, { on := 9, ground := Go.Ground.chain }, { on := 0, ground := Go.Ground.phase }, { on := 1, ground := Go.Ground.phase }, { on := 2, ground := Go.Ground.phase }, { on := 3, ground := Go.Ground.phase }, { on := 4, ground := Go.Ground.phase }, { on := 5, ground := Go.Ground.phase }, { on := 6, ground := Go.Ground.phase }, { on := 7, ground := Go.Ground.phase }, { on := 8, ground := Go.Ground.phase }, { on := 9, ground := Go.Ground.phase }], guard := none }) (v := ?_) rfl (by kernel_rfl) (by kernel_rfl) (by kernel_rfl) (fun _ _ _ h => h) (Or.inl ⟨by rfl, ?_⟩) (by assumption) ?_
    rotate_left 1
    · (intro w hSw; (try dsimp only at hSw); go_simp; try with_reducible rfl)
    (try simp only [Act.put, List.setIfInBounds_toArray, List.set_cons_zero, List.set_cons_succ])
    refine wpAnyH_done (by kernel_rfl) ?_ _
    clear a0 a1 a2 a3 z0 z1 z2 z3 BA BW BX BX8 hHeld
    generalize ((((w3.setCell ⟨w.heap.size, 0, none⟩ (.int .i64 f.n)).setCell ⟨w.heap.size, 1, none⟩ (.int .i64 f.i)).setCell ⟨w.heap.size, 2, none⟩ (.int .i64 f.s)).setCell ⟨w.heap.size, 3, none⟩ (.bool f.g)) = w9 at *
    have a0 := BA8.c0
    have a1 := BA8.c1
    have a2 := BA8.c2
    have a3 := BA8.c3
    go_wp2
    exact bodyPost_ret (v := .tuple #[.agg #[.int .i64 f.n, .int .i64 f.i, .int .i64 f.s, .bool f.g], .bool q2]) (by simp [results, Tryz.results19, go_sem, a0, a1, a2, a3]) rfl (Rev.of hv BE)
end Go.Proofs.YtlebggbbhkiokaaGreatDoor
