/- A fact more, the model's way. -/
import Derived.Test.YthfafmafhodlkaaL3
import Derived.Laws.AppendOwn
namespace Go.Proofs.Ythfafmafhodlkaa
open Go.ChangeShapes Go.WideShapes Go.ChangeAt Go.RowKit
attribute [local go_sem ↓] Go.wp_at_zero Go.wp_at_succ
theorem fl_set (T : List Fc) : ∀ (j : Nat) (f : Fc), j < T.length → fl (T.set j f) = ((((fl T).set (j * 4) (.int .i64 f.n)).set (j * 4 + 1) (.int .i64 f.i)).set (j * 4 + 2) (.int .i64 f.s)).set (j * 4 + 3) (.bool f.g) := by
  induction T with
  | nil => intro j f h; simp at h
  | cons g r ih =>
    intro j f h
    have e : ∀ (g : Fc) (r : List Fc), fl (g :: r) = .int .i64 g.n :: .int .i64 g.i :: .int .i64 g.s :: .bool g.g :: fl r := fun g r => by simp [fl]
    match j, h with
    | 0, _ => rw [List.set_cons_zero, e, e]; rfl
    | j + 1, h =>
      rw [List.set_cons_succ, e, e, ih j f (by simpa using h), show (j + 1) * 4 = j * 4 + 4 by omega]
      rfl
theorem l3_lit (f g : Fc) (q : Bool) (w : World) (h : ovr f g = q) :
    Calls Try.prog 52 #[.agg #[.int .i64 f.n, .int .i64 f.i, .int .i64 f.s, .bool f.g], .agg #[.int .i64 g.n, .int .i64 g.i, .int .i64 g.s, .bool g.g]] w fun r w' => r = .returned (.bool q) ∧ Below w.heap.size w w' :=
  (l3_any _ _ _ _ _ _ _ _ w).mono (by rintro r w' ⟨rfl, o1, o2, rfl⟩; exact ⟨by rw [← h]; rfl, balloc _ (balloc _ (Below.refl _ _))⟩)
set_option maxRecDepth 10000 in
set_option maxHeartbeats 8000000 in
theorem l3_no (b off len cap : Nat) (F : Nat → Fc) (f : Fc) (j : Nat) (w : World) (hf : FactsIn w b off len F) (hbl : b < w.heap.size) (hl : len ≤ 1048576) (hj : j < len) (hjn : (F j).n = f.n) (hno : ∀ k, k < j → (F k).n ≠ f.n) (ho : Hid (ovr f (F j) = false)) :
    Calls Try.prog 49 #[.slice (some ⟨b, off, none⟩) len cap, fval f] w fun e w' => e = .returned (.tuple #[.slice (some ⟨b, off, none⟩) len cap, .bool false]) ∧ Below w.heap.size w w' := by
  go_enter Try.func49, Try.ntmps49
  go_wp2_with fail
  have p0 : (w.alloc (.cells #[.int .i64 f.n, .int .i64 f.i, .int .i64 f.s, .bool f.g] 34)).heap[w.heap.size]? = some (.cells #[.int .i64 f.n, .int .i64 f.i, .int .i64 f.s, .bool f.g] 34 (0, 0)) := heap_alloc_new _ _
  have B0 : Below w.heap.size w (w.alloc (.cells #[.int .i64 f.n, .int .i64 f.i, .int .i64 f.s, .bool f.g] 34)) := balloc _ (Below.refl _ _)
  generalize (w.alloc (.cells #[.int .i64 f.n, .int .i64 f.i, .int .i64 f.s, .bool f.g] 34)) = W0 at *
  refine (find_any _ len cap F f.n _ (fun _ => ⟨b, off, rfl, by have := B0.size; omega, hf.below B0 hbl⟩) hl).mono ?_
  rintro r w0 ⟨r0, rfl, hF, hw⟩
  obtain rfl := hw.symm
  obtain rfl : r0 = (j : Int) := by
    rcases hF with ⟨_, h⟩ | ⟨i, hi, rfl, e, h⟩
    · exact absurd hjn (h j hj)
    · have h1 : ¬ i < j := fun hh => hno i hh e
      have h2 : ¬ j < i := fun hh => h j hh hjn
      omega
  clear hF hw hjn hno
  obtain ⟨d0, d1, d2, d3⟩ := (hf.below B0 hbl) j hj
  have e0 : W0.cell? ⟨w.heap.size, 0, none⟩ = some (.int .i64 f.n) := cell_block (o := 0) p0 rfl
  have e1 : W0.cell? ⟨w.heap.size, 1, none⟩ = some (.int .i64 f.i) := cell_block (o := 1) p0 rfl
  have e2 : W0.cell? ⟨w.heap.size, 2, none⟩ = some (.int .i64 f.s) := cell_block (o := 2) p0 rfl
  have e3 : W0.cell? ⟨w.heap.size, 3, none⟩ = some (.bool f.g) := cell_block (o := 3) p0 rfl
  have i0 : (0 : Int) ≤ (j : Int) := by omega
  have i1 : (j : Int) < (len : Int) := by omega
  go_wp2_with fail
  refine wp_region_held_drew (S := fun w' => w'.cell? ⟨w.heap.size, 0, none⟩ = some (.int .i64 f.n) ∧ w'.cell? ⟨w.heap.size, 1, none⟩ = some (.int .i64 f.i) ∧ w'.cell? ⟨w.heap.size, 2, none⟩ = some (.int .i64 f.s) ∧ w'.cell? ⟨w.heap.size, 3, none⟩ = some (.bool f.g) ∧ w'.cell? ⟨b, off + j * 4, none⟩ = some (.int .i64 (F j).n) ∧ w'.cell? ⟨b, off + j * 4 + 1, none⟩ = some (.int .i64 (F j).i) ∧ w'.cell? ⟨b, off + j * 4 + 2, none⟩ = some (.int .i64 (F j).s) ∧ w'.cell? ⟨b, off + j * 4 + 3, none⟩ = some (.bool (F j).g)) (by kernel_rfl) ?_ (fun hHeld => ?_)
  · (try dsimp only); (refine ⟨?_, ?_, ?_, ?_, ?_, ?_, ?_, ?_⟩ <;> (repeat (first | with_reducible assumption | with_reducible refine keep_drew ?_ | with_reducible refine keep_below (by assumption) ?_)))
  refine wpAnyH_take (i := 0) (oi := { dst := some 15, op := Go.Op.load 34 (Go.Operand.tmp 3), type := 34, pos := "l3_fact.go:50", after := #[], guard := none }) (v := ?_) rfl (by kernel_rfl) (by kernel_rfl) (by kernel_rfl) (fun _ _ _ h => h) (Or.inl ⟨by rfl, ?_⟩) (by assumption) ?_
  rotate_left 1
  · (intro w hSw; (try dsimp only at hSw); go_simp; try with_reducible rfl)
  (try simp only [Act.put, List.setIfInBounds_toArray, List.set_cons_zero, List.set_cons_succ])
  refine wpAnyH_take (i := 1) (oi := { dst := some 16, op := Go.Op.move (Go.Operand.tmp 0), type := 26, pos := "l3_fact.go:50", after := #[], guard := none }) (v := ?_) rfl (by kernel_rfl) (by kernel_rfl) (by kernel_rfl) (fun _ _ _ h => h) (Or.inl ⟨by rfl, ?_⟩) (by assumption) ?_
  rotate_left 1
  · (intro w hSw; (try dsimp only at hSw); go_simp; try with_reducible rfl)
  (try simp only [Act.put, List.setIfInBounds_toArray, List.set_cons_zero, List.set_cons_succ])
  refine wpAnyH_take (i := 2) (oi := { dst := some 17, op := Go.Op.move (Go.Operand.tmp 6), type := 3, pos := "l3_fact.go:50", after := #[], guard := none }) (v := ?_) rfl (by kernel_rfl) (by kernel_rfl) (by kernel_rfl) (fun _ _ _ h => h) (Or.inl ⟨by rfl, ?_⟩) (by assumption) ?_
  rotate_left 1
  · (intro w hSw; (try dsimp only at hSw); go_simp; try with_reducible rfl)
  (try simp only [Act.put, List.setIfInBounds_toArray, List.set_cons_zero, List.set_cons_succ])
  refine wpAnyH_take (i := 3) (oi := { dst := some 18, op := Go.Op.indexAddr 26 (Go.Operand.tmp 16) (Go.Operand.tmp 17), type := 0, pos := "l3_fact.go:50", after := #[{ on := 1, ground := Go.Ground.data }, { on := 2, ground := Go.Ground.data }], guard := none }) (v := ?_) rfl (by kernel_rfl) (by kernel_rfl) (by kernel_rfl) (fun _ _ _ h => h) (Or.inl ⟨by rfl, ?_⟩) (by assumption) ?_
  rotate_left 1
  · (intro w hSw; (try dsimp only at hSw); go_simp; try with_reducible rfl)
  (try simp only [Act.put, List.setIfInBounds_toArray, List.set_cons_zero, List.set_cons_succ])
  refine wpAnyH_take (i := 4) (oi := { dst := some 19, op := Go.Op.load 34 (Go.Operand.tmp 18), type := 34, pos := "l3_fact.go:50", after := #[{ on := 3, ground := Go.Ground.data }], guard := none }) (v := ?_) rfl (by kernel_rfl) (by kernel_rfl) (by kernel_rfl) (fun _ _ _ h => h) (Or.inl ⟨by rfl, ?_⟩) (by assumption) ?_
  rotate_left 1
  · (intro w hSw; (try dsimp only at hSw); go_simp; try with_reducible rfl)
  (try simp only [Act.put, List.setIfInBounds_toArray, List.set_cons_zero, List.set_cons_succ])
  refine wpAnyH_ready (rs := [5]) (by kernel_rfl) (by simp) ?_
  refine AllReadyH.cons (o := { dst := some 20, op := Go.Op.call { callee := Go.Callee.value (Go.Operand.func 52), args := #[Go.Operand.tmp 15, Go.Operand.tmp 19], argTypes := #[34, 34] }, type := 4, pos := "l3_fact.go:50", after := #[{ on := 0, ground := Go.Ground.data }, { on := 4, ground := Go.Ground.data }], guard := none }) rfl (fun K hK => ?_) AllReadyH.nil
  go_simp
  refine (l3_lit f (F j) false _ ho.out).mono ?_; rintro e w1 ⟨rfl, b1⟩
  go_wp2_with fail
  refine hK.out _ _ ?_ (fun hHeld => ?_)
  · (try dsimp only); (refine ⟨?_, ?_, ?_, ?_, ?_, ?_, ?_, ?_⟩ <;> (repeat (first | with_reducible assumption | with_reducible refine keep_drew ?_ | with_reducible refine keep_below (by assumption) ?_)))
  clear hK K
  (try simp only [Act.put, List.setIfInBounds_toArray, List.set_cons_zero, List.set_cons_succ])
  refine wpAnyH_take (i := 6) (oi := { dst := some 21, op := Go.Op.unOp Go.UnOp.not 4 (Go.Operand.tmp 20), type := 4, pos := "l3_fact.go:50", after := #[{ on := 5, ground := Go.Ground.data }], guard := none }) (v := ?_) rfl (by kernel_rfl) (by kernel_rfl) (by kernel_rfl) (fun _ _ _ h => h) (Or.inl ⟨by rfl, ?_⟩) (by assumption) ?_
  rotate_left 1
  · (intro w hSw; (try dsimp only at hSw); go_simp; try with_reducible rfl)
  (try simp only [Act.put, List.setIfInBounds_toArray, List.set_cons_zero, List.set_cons_succ])
  refine wpAnyH_done (by kernel_rfl) ?_ _
  have BB := btrans B0.drew b1
  go_wp2
  go_ret2
  exact ⟨rfl, BB⟩
set_option maxRecDepth 10000 in
set_option maxHeartbeats 8000000 in
theorem l3_yes (b off len cap : Nat) (F : Nat → Fc) (f : Fc) (j : Nat) (w : World) (hf : FactsIn w b off len F) (hbl : b < w.heap.size) (hl : len ≤ 1048576) (hj : j < len) (hjn : (F j).n = f.n) (hno : ∀ k, k < j → (F k).n ≠ f.n) (ho : Hid (ovr f (F j) = true)) :
    Calls Try.prog 49 #[.slice (some ⟨b, off, none⟩) len cap, fval f] w fun e w' => ∃ v' c', e = .returned (.tuple #[.slice v' len c', .bool true]) ∧ w'.ownsRow w.heap.size 34 4 (.slice v' len c') len (fl ((seqF F len).set j f)) ∧ Below w.heap.size w w' := by
  go_enter Try.func49, Try.ntmps49
  go_wp2_with fail
  have p0 : (w.alloc (.cells #[.int .i64 f.n, .int .i64 f.i, .int .i64 f.s, .bool f.g] 34)).heap[w.heap.size]? = some (.cells #[.int .i64 f.n, .int .i64 f.i, .int .i64 f.s, .bool f.g] 34 (0, 0)) := heap_alloc_new _ _
  have B0 : Below w.heap.size w (w.alloc (.cells #[.int .i64 f.n, .int .i64 f.i, .int .i64 f.s, .bool f.g] 34)) := balloc _ (Below.refl _ _)
  generalize (w.alloc (.cells #[.int .i64 f.n, .int .i64 f.i, .int .i64 f.s, .bool f.g] 34)) = W0 at *
  refine (find_any _ len cap F f.n _ (fun _ => ⟨b, off, rfl, by have := B0.size; omega, hf.below B0 hbl⟩) hl).mono ?_
  rintro r w0 ⟨r0, rfl, hF, hw⟩
  obtain rfl := hw.symm
  obtain rfl : r0 = (j : Int) := by
    rcases hF with ⟨_, h⟩ | ⟨i, hi, rfl, e, h⟩
    · exact absurd hjn (h j hj)
    · have h1 : ¬ i < j := fun hh => hno i hh e
      have h2 : ¬ j < i := fun hh => h j hh hjn
      omega
  clear hF hw hjn hno
  obtain ⟨d0, d1, d2, d3⟩ := (hf.below B0 hbl) j hj
  have e0 : W0.cell? ⟨w.heap.size, 0, none⟩ = some (.int .i64 f.n) := cell_block (o := 0) p0 rfl
  have e1 : W0.cell? ⟨w.heap.size, 1, none⟩ = some (.int .i64 f.i) := cell_block (o := 1) p0 rfl
  have e2 : W0.cell? ⟨w.heap.size, 2, none⟩ = some (.int .i64 f.s) := cell_block (o := 2) p0 rfl
  have e3 : W0.cell? ⟨w.heap.size, 3, none⟩ = some (.bool f.g) := cell_block (o := 3) p0 rfl
  have i0 : (0 : Int) ≤ (j : Int) := by omega
  have i1 : (j : Int) < (len : Int) := by omega
  go_wp2_with fail
  refine wp_region_held_drew (S := fun w' => w'.cell? ⟨w.heap.size, 0, none⟩ = some (.int .i64 f.n) ∧ w'.cell? ⟨w.heap.size, 1, none⟩ = some (.int .i64 f.i) ∧ w'.cell? ⟨w.heap.size, 2, none⟩ = some (.int .i64 f.s) ∧ w'.cell? ⟨w.heap.size, 3, none⟩ = some (.bool f.g) ∧ w'.cell? ⟨b, off + j * 4, none⟩ = some (.int .i64 (F j).n) ∧ w'.cell? ⟨b, off + j * 4 + 1, none⟩ = some (.int .i64 (F j).i) ∧ w'.cell? ⟨b, off + j * 4 + 2, none⟩ = some (.int .i64 (F j).s) ∧ w'.cell? ⟨b, off + j * 4 + 3, none⟩ = some (.bool (F j).g)) (by kernel_rfl) ?_ (fun hHeld => ?_)
  · (try dsimp only); (refine ⟨?_, ?_, ?_, ?_, ?_, ?_, ?_, ?_⟩ <;> (repeat (first | with_reducible assumption | with_reducible refine keep_drew ?_ | with_reducible refine keep_below (by assumption) ?_)))
  refine wpAnyH_take (i := 0) (oi := { dst := some 15, op := Go.Op.load 34 (Go.Operand.tmp 3), type := 34, pos := "l3_fact.go:50", after := #[], guard := none }) (v := ?_) rfl (by kernel_rfl) (by kernel_rfl) (by kernel_rfl) (fun _ _ _ h => h) (Or.inl ⟨by rfl, ?_⟩) (by assumption) ?_
  rotate_left 1
  · (intro w hSw; (try dsimp only at hSw); go_simp; try with_reducible rfl)
  (try simp only [Act.put, List.setIfInBounds_toArray, List.set_cons_zero, List.set_cons_succ])
  refine wpAnyH_take (i := 1) (oi := { dst := some 16, op := Go.Op.move (Go.Operand.tmp 0), type := 26, pos := "l3_fact.go:50", after := #[], guard := none }) (v := ?_) rfl (by kernel_rfl) (by kernel_rfl) (by kernel_rfl) (fun _ _ _ h => h) (Or.inl ⟨by rfl, ?_⟩) (by assumption) ?_
  rotate_left 1
  · (intro w hSw; (try dsimp only at hSw); go_simp; try with_reducible rfl)
  (try simp only [Act.put, List.setIfInBounds_toArray, List.set_cons_zero, List.set_cons_succ])
  refine wpAnyH_take (i := 2) (oi := { dst := some 17, op := Go.Op.move (Go.Operand.tmp 6), type := 3, pos := "l3_fact.go:50", after := #[], guard := none }) (v := ?_) rfl (by kernel_rfl) (by kernel_rfl) (by kernel_rfl) (fun _ _ _ h => h) (Or.inl ⟨by rfl, ?_⟩) (by assumption) ?_
  rotate_left 1
  · (intro w hSw; (try dsimp only at hSw); go_simp; try with_reducible rfl)
  (try simp only [Act.put, List.setIfInBounds_toArray, List.set_cons_zero, List.set_cons_succ])
  refine wpAnyH_take (i := 3) (oi := { dst := some 18, op := Go.Op.indexAddr 26 (Go.Operand.tmp 16) (Go.Operand.tmp 17), type := 0, pos := "l3_fact.go:50", after := #[{ on := 1, ground := Go.Ground.data }, { on := 2, ground := Go.Ground.data }], guard := none }) (v := ?_) rfl (by kernel_rfl) (by kernel_rfl) (by kernel_rfl) (fun _ _ _ h => h) (Or.inl ⟨by rfl, ?_⟩) (by assumption) ?_
  rotate_left 1
  · (intro w hSw; (try dsimp only at hSw); go_simp; try with_reducible rfl)
  (try simp only [Act.put, List.setIfInBounds_toArray, List.set_cons_zero, List.set_cons_succ])
  refine wpAnyH_take (i := 4) (oi := { dst := some 19, op := Go.Op.load 34 (Go.Operand.tmp 18), type := 34, pos := "l3_fact.go:50", after := #[{ on := 3, ground := Go.Ground.data }], guard := none }) (v := ?_) rfl (by kernel_rfl) (by kernel_rfl) (by kernel_rfl) (fun _ _ _ h => h) (Or.inl ⟨by rfl, ?_⟩) (by assumption) ?_
  rotate_left 1
  · (intro w hSw; (try dsimp only at hSw); go_simp; try with_reducible rfl)
  (try simp only [Act.put, List.setIfInBounds_toArray, List.set_cons_zero, List.set_cons_succ])
  refine wpAnyH_ready (rs := [5]) (by kernel_rfl) (by simp) ?_
  refine AllReadyH.cons (o := { dst := some 20, op := Go.Op.call { callee := Go.Callee.value (Go.Operand.func 52), args := #[Go.Operand.tmp 15, Go.Operand.tmp 19], argTypes := #[34, 34] }, type := 4, pos := "l3_fact.go:50", after := #[{ on := 0, ground := Go.Ground.data }, { on := 4, ground := Go.Ground.data }], guard := none }) rfl (fun K hK => ?_) AllReadyH.nil
  go_simp
  refine (l3_lit f (F j) true _ ho.out).mono ?_; rintro e w1 ⟨rfl, b1⟩
  go_wp2_with fail
  refine hK.out _ _ ?_ (fun hHeld => ?_)
  · (try dsimp only); (refine ⟨?_, ?_, ?_, ?_, ?_, ?_, ?_, ?_⟩ <;> (repeat (first | with_reducible assumption | with_reducible refine keep_drew ?_ | with_reducible refine keep_below (by assumption) ?_)))
  clear hK K
  (try simp only [Act.put, List.setIfInBounds_toArray, List.set_cons_zero, List.set_cons_succ])
  refine wpAnyH_take (i := 6) (oi := { dst := some 21, op := Go.Op.unOp Go.UnOp.not 4 (Go.Operand.tmp 20), type := 4, pos := "l3_fact.go:50", after := #[{ on := 5, ground := Go.Ground.data }], guard := none }) (v := ?_) rfl (by kernel_rfl) (by kernel_rfl) (by kernel_rfl) (fun _ _ _ h => h) (Or.inl ⟨by rfl, ?_⟩) (by assumption) ?_
  rotate_left 1
  · (intro w hSw; (try dsimp only at hSw); go_simp; try with_reducible rfl)
  (try simp only [Act.put, List.setIfInBounds_toArray, List.set_cons_zero, List.set_cons_succ])
  refine wpAnyH_done (by kernel_rfl) ?_ _
  have BB := btrans B0.drew b1
  have pb := blk_below b1 p0
  clear b1 p0 B0 d0 d1 d2 d3 e0 e1 e2 e3
  have hfW : FactsIn w1 b off len F := hf.below BB hbl
  have hbW : b < w1.heap.size := Nat.lt_of_lt_of_le hbl BB.size
  have hnews : FactsIn (w1.alloc (.cells #[] 34)) b off len (fun k => (seqF F len).getD k Fc.zero) := (fun k hk => by simp only [seqF_getD F hk]; exact hfW.alloc _ k hk)
  obtain ⟨ti, hi, hz0, hz1, hz2⟩ := info_parts info24
  go_wp2_with (at_builtin; refine wpList_append_own _ rfl _ _ 26 rfl w1.heap.size 34 ti (fval Fc.zero) 4 32 Try.underlying26 hi hz0 hz1 hz2 rfl (by decide) _ _ _ rfl (World.ownsRow_lit w1 #[] 0 (Nat.le_refl _) (by unfold maxLen; omega) rfl) ⟨b, off, none⟩ len cap (fl (seqF F len)) rfl (by rw [fl_len, seqF_len]) (facts_cell hnews (seqF_len F len)) fl_one ?c3 ?c4 ?c5 ?_)
  case c3 => unfold maxLen; omega
  case c4 => omega
  case c5 => simp
  · intro v' w2 hown' hgrow hnil
    have o2 : w2.ownsRow w1.heap.size 34 4 v' len (fl (seqF F len)) := by simpa using hown'
    clear hown'
    have B2 : Below w1.heap.size w1 w2 := own_grow (balloc _ (Below.refl _ w1)) (by simp) (show (w1.alloc (.cells #[] 34)).ownsRow w1.heap.size 34 4 (.slice (some ⟨w1.heap.size, 0, none⟩) 0 0) 0 [] from World.ownsRow_lit w1 #[] 0 (Nat.le_refl _) (by unfold maxLen; omega) rfl) hgrow
    have pb2 := blk_below B2 pb
    have B3 := btrans BB B2
    rcases own_sliceF o2 with ⟨e, _⟩ | ⟨g', cap', rfl, hg1, hg2, hg3⟩
    · exact absurd e hnil
    have q0 : w2.cell? ⟨w.heap.size, 0, none⟩ = some (.int .i64 f.n) := cell_block (o := 0) pb2 rfl
    have q1 : w2.cell? ⟨w.heap.size, 1, none⟩ = some (.int .i64 f.i) := cell_block (o := 1) pb2 rfl
    have q2 : w2.cell? ⟨w.heap.size, 2, none⟩ = some (.int .i64 f.s) := cell_block (o := 2) pb2 rfl
    have q3 : w2.cell? ⟨w.heap.size, 3, none⟩ = some (.bool f.g) := cell_block (o := 3) pb2 rfl
    obtain ⟨t0, t1, t2, t3⟩ := fl_get (seqF F len) j (by rw [seqF_len]; exact hj)
    have c0 := (o2.cellAt (j * 4) (by omega)).trans t0
    have c1 := (o2.cellAt (j * 4 + 1) (by omega)).trans t1
    have c2 := (o2.cellAt (j * 4 + 2) (by omega)).trans t2
    have c3 := (o2.cellAt (j * 4 + 3) (by omega)).trans t3
    have z0 := o2.frozenAt (j * 4)
    have z1 := o2.frozenAt (j * 4 + 1)
    have z2 := o2.frozenAt (j * 4 + 2)
    have z3 := o2.frozenAt (j * 4 + 3)
    obtain ⟨a0, b0⟩ := o2.stored (j * 4) (.int .i64 f.n)
    obtain ⟨a1, b1⟩ := a0.stored (j * 4 + 1) (.int .i64 f.i)
    obtain ⟨a2, b2⟩ := a1.stored (j * 4 + 2) (.int .i64 f.s)
    obtain ⟨a3, b3⟩ := a2.stored (j * 4 + 3) (.bool f.g)
    rw [← fl_set (seqF F len) j f (by rw [seqF_len]; exact hj)] at a3
    have gg := grown_trans (grown_trans (grown_trans b0 b1) b2) b3
    have B4 := B3.grown gg B3.size (fun k hk => by simp only [Option.some.injEq] at hk; have := BB.size; omega)
    clear a0 a1 a2 b0 b1 b2 b3 gg hgrow hnil pb pb2 hnews hfW o2 t0 t1 t2 t3 B2 B3
    go_wp2
    go_ret2
    exact ⟨_, cap', rfl, own_mono BB.size a3, B4⟩
theorem tput_set : ∀ (T : List Fc) (j : Nat) (f : Fc), Asc T → j < T.length → (T.getD j Fc.zero).n = f.n → ovr f (T.getD j Fc.zero) = true → tput T f = T.set j f
  | [], j, f, _, h, _, _ => by simp at h
  | g :: r, 0, f, _, _, h1, h2 => by
    simp at h1 h2
    unfold tput
    rw [if_neg (by omega), if_pos h1, if_pos h2]
    rfl
  | g :: r, j + 1, f, hA, h, h1, h2 => by
    obtain ⟨a1, a2⟩ := asc_cons.1 hA
    have hj : j < r.length := by simpa using h
    have e : (g :: r).getD (j + 1) Fc.zero = r.getD j Fc.zero := by simp
    rw [e] at h1 h2
    have := a1 (r.getD j Fc.zero) (by simp [List.getD, hj])
    unfold tput
    rw [if_pos (by omega), tput_set r j f a2 hj h1 h2]
    rfl
/-- a fact more, the model's way -/
theorem l3put_any (b off len cap : Nat) (F : Nat → Fc) (f : Fc) (w : World) (hf : FactsIn w b off len F) (hbl : b < w.heap.size) (hc : len ≤ cap) (hl : len ≤ 1048576) (hasc : ∀ j k, j < k → k < len → (F j).n < (F k).n) :
    Calls Try.prog 49 #[.slice (some ⟨b, off, none⟩) len cap, fval f] w fun e w' => ∃ v' c' n', e = .returned (.tuple #[.slice v' n' c', .bool (tnew (seqF F len) f)]) ∧ n' = (tput (seqF F len) f).length ∧ ((v' = some ⟨b, off, none⟩ ∧ c' = cap ∧ n' = len ∧ tput (seqF F len) f = seqF F len) ∨ w'.ownsRow w.heap.size 34 4 (.slice v' n' c') n' (fl (tput (seqF F len) f))) ∧ Below w.heap.size w w' := by
  have hA := seqF_asc hasc len (Nat.le_refl _)
  by_cases hx : ∃ j, j < len ∧ (F j).n = f.n
  · obtain ⟨j, hj, hjn⟩ := hx
    have hno : ∀ k, k < j → (F k).n ≠ f.n := fun k hk => by have := hasc k j hk hj; omega
    have hg := found_some hj hjn hno
    cases ho : ovr f (F j) with
    | false =>
      have e1 : tnew (seqF F len) f = false := by unfold tnew; rw [hg]; exact ho
      have e2 := tput_no hA hg ho
      rw [e1, e2]
      exact (l3_no b off len cap F f j w hf hbl hl hj hjn hno ho).mono (by rintro e w' ⟨rfl, hb⟩; exact ⟨_, _, _, rfl, (seqF_len F len).symm, .inl ⟨rfl, rfl, rfl, rfl⟩, hb⟩)
    | true =>
      have e1 : tnew (seqF F len) f = true := by unfold tnew; rw [hg]; exact ho
      have e2 : tput (seqF F len) f = (seqF F len).set j f := tput_set (seqF F len) j f hA (by rw [seqF_len]; exact hj) (by rw [seqF_getD F hj]; exact hjn) (by rw [seqF_getD F hj]; exact ho)
      rw [e1, e2]
      exact (l3_yes b off len cap F f j w hf hbl hl hj hjn hno ho).mono (by rintro e w' ⟨v', c', rfl, ho, hb⟩; exact ⟨_, _, _, rfl, by simp [seqF_len], .inr ho, hb⟩)
  · have hno : ∀ k, k < len → (F k).n ≠ f.n := fun k hk e => hx ⟨k, hk, e⟩
    have hg := found_none hno
    have e1 : tnew (seqF F len) f = true := by unfold tnew; rw [hg]
    rw [e1]
    exact (l3_new b off len cap F f w hf hbl hc hl hno).mono (by rintro e w' ⟨v', c', rfl, ho, hb⟩; exact ⟨_, _, _, rfl, by rw [tput_len hg, seqF_len], .inr ho, hb⟩)
end Go.Proofs.Ythfafmafhodlkaa
