/- The exact law of TablePut, walked. -/
import Derived.Test.YtdkjcimmgemncaaMark
namespace Go.Proofs.Ytdkjcimmgemncaa
open Go.ChangeShapes Go.WideShapes Go.ChangeAt Go.RowKit
attribute [local go_sem ↓] Go.wp_at_zero Go.wp_at_succ
theorem ne_lt {w : World} {base size n b : Nat} {e : TypeId} {v : Value} {xs : List Value} (h : w.ownsRow base e size v n xs) (hb : w.heap.size ≤ b) : v.ownBlock = none ∨ v.ownBlock ≠ some b :=
  .inr fun e => by have := (h.lt b e).2; omega
theorem ne_ge {w : World} {base size n b : Nat} {e : TypeId} {v : Value} {xs : List Value} (h : w.ownsRow base e size v n xs) (hb : b < base) : v.ownBlock = none ∨ v.ownBlock ≠ some b :=
  .inr fun e => by have := (h.lt b e).1; omega
theorem ne_two {w w' : World} {base size n : Nat} {e : TypeId} {v : Value} {xs : List Value} {base' size' n' : Nat} {e' : TypeId} {v' : Value} {xs' : List Value} (h : w.ownsRow base e size v n xs) (h' : w'.ownsRow base' e' size' v' n' xs') (hb : w.heap.size ≤ base') : v.ownBlock = none ∨ v.ownBlock ≠ v'.ownBlock := by
  cases hv : v.ownBlock with
  | none => exact .inl rfl
  | some k => exact .inr fun e => by have := (h.lt k hv).2; have := (h'.lt k e.symm).1; omega
theorem tpT_len (len : Nat) (F : Nat → Fc) (f : Fc) : (tpT len F f).length ≤ 9 := by
  unfold tpT
  split
  · rename_i h
    rw [Bool.and_eq_true] at h
    have := tput_len_le (seqF F len) f
    have := tok_len h.1
    rw [seqF_len] at *
    omega
  · simp
set_option maxRecDepth 10000 in
set_option maxHeartbeats 8000000 in
theorem exPut_walk (a : Option Addr) (len cap : Nat) (F : Nat → Fc) (f : Fc) (w : World) (h : FSl w a len F) (hc : len ≤ cap) (hm : len ≤ maxLen) :
    Calls Try.prog 3 #[.slice a len cap, fval f] w fun r w' => r = .returned (.bool true) ∧ Below w.heap.size w w' := by
  have p0 : (w.alloc (.cells #[.int .i64 f.n, .int .i64 f.i, .int .i64 f.s, .bool f.g] 24)).heap[w.heap.size]? = some (.cells #[.int .i64 f.n, .int .i64 f.i, .int .i64 f.s, .bool f.g] 24 (0, 0)) := heap_alloc_new _ _
  have B0 : Below w.heap.size w (w.alloc (.cells #[.int .i64 f.n, .int .i64 f.i, .int .i64 f.s, .bool f.g] 24)) := balloc _ (Below.refl _ _)
  by_cases hl : 1048576 < len
  · go_enter Try.func3, Try.ntmps3
    go_wp2_with fail
    refine (szFactS_over a len cap _ hl hm).mono ?_
    rintro r w' ⟨rfl, hw⟩
    obtain rfl := hw.symm
    go_wp2
    go_ret
    exact ⟨rfl, B0⟩
  · have hl' : len ≤ 1048576 := by omega
    have hgl := tpT_len len F f
    obtain ⟨T, hT⟩ : ∃ T, Hid (tpT len F f = T) := ⟨_, rfl⟩
    obtain ⟨q, hQ⟩ : ∃ q, Hid (tpQ len F f = q) := ⟨_, rfl⟩
    rw [hT.out] at hgl
    have e0 : (q != q) = false := by simp
    clear hl hm
    go_enter Try.func3, Try.ntmps3
    go_wp2_with fail
    generalize (w.alloc (.cells #[.int .i64 f.n, .int .i64 f.i, .int .i64 f.s, .bool f.g] 24)) = W0 at *
    refine (szFactS_in a len cap _ hl').mono ?_
    rintro r w' ⟨n, rfl, hw⟩
    obtain rfl := hw.symm
    have n0 : ¬ ((n : Int) < 0) := by omega
    have bc0 : W0.cell? ⟨w.heap.size, 0, none⟩ = some (.int .i64 f.n) := cell_block (o := 0) p0 rfl
    have bc1 : W0.cell? ⟨w.heap.size, 1, none⟩ = some (.int .i64 f.i) := cell_block (o := 1) p0 rfl
    have bc2 : W0.cell? ⟨w.heap.size, 2, none⟩ = some (.int .i64 f.s) := cell_block (o := 2) p0 rfl
    have bc3 : W0.cell? ⟨w.heap.size, 3, none⟩ = some (.bool f.g) := cell_block (o := 3) p0 rfl
    go_wp2_with fail
    refine wp_region_held_drew (S := fun w' => w'.cell? ⟨w.heap.size, 0, none⟩ = some (.int .i64 f.n) ∧ w'.cell? ⟨w.heap.size, 1, none⟩ = some (.int .i64 f.i) ∧ w'.cell? ⟨w.heap.size, 2, none⟩ = some (.int .i64 f.s) ∧ w'.cell? ⟨w.heap.size, 3, none⟩ = some (.bool f.g)) (by kernel_rfl) ?_ (fun hHeld => ?_)
    · (try dsimp only); (refine ⟨?_, ?_, ?_, ?_⟩ <;> (repeat (first | with_reducible assumption | with_reducible refine keep_drew ?_ | with_reducible refine keep_below (by assumption) ?_)))
    refine wpAnyH_take (i := 0) (oi := { dst := some 22, op := Go.Op.move (Go.Operand.tmp 0), type := 22, pos := "exact.go:2341", after := #[], guard := none }) (v := ?_) rfl (by kernel_rfl) (by kernel_rfl) (by kernel_rfl) (fun _ _ _ h => h) (Or.inl ⟨by rfl, ?_⟩) (by assumption) ?_
    rotate_left 1
    · (intro w hSw; (try dsimp only at hSw); go_simp; try with_reducible rfl)
    (try simp only [Act.put, List.setIfInBounds_toArray, List.set_cons_zero, List.set_cons_succ])
    refine wpAnyH_take (i := 2) (oi := { dst := some 24, op := Go.Op.load 24 (Go.Operand.tmp 3), type := 24, pos := "exact.go:2341", after := #[], guard := none }) (v := ?_) rfl (by kernel_rfl) (by kernel_rfl) (by kernel_rfl) (fun _ _ _ h => h) (Or.inl ⟨by rfl, ?_⟩) (by assumption) ?_
    rotate_left 1
    · (intro w hSw; (try dsimp only at hSw); go_simp; try with_reducible rfl)
    (try simp only [Act.put, List.setIfInBounds_toArray, List.set_cons_zero, List.set_cons_succ])
    refine wpAnyH_ready (rs := [1]) (by kernel_rfl) (by simp) ?_
    refine AllReadyH.cons (o := { dst := some 23, op := Go.Op.call { callee := Go.Callee.value (Go.Operand.func 8), args := #[Go.Operand.tmp 22], argTypes := #[22] }, type := 26, pos := "exact.go:2341", after := #[{ on := 0, ground := Go.Ground.data }], guard := none }) rfl (fun K hK => ?_) AllReadyH.nil
    go_simp
    refine (toFactS_any a len cap F _ (h.below (QB1 B0)) hl' hc).mono ?_; rintro e ws1 ⟨xs1, rfl, fs1, lts1, ges1, bs1⟩
    go_wp2_with fail
    refine hK.out _ _ ?_ (fun hHeld => ?_)
    · (try dsimp only); (refine ⟨?_, ?_, ?_, ?_⟩ <;> (repeat (first | with_reducible assumption | with_reducible refine keep_drew ?_ | with_reducible refine keep_below (by assumption) ?_)))
    clear hK K
    (try simp only [Act.put, List.setIfInBounds_toArray, List.set_cons_zero, List.set_cons_succ])
    refine wpAnyH_ready (rs := [3]) (by kernel_rfl) (by simp) ?_
    refine AllReadyH.cons (o := { dst := some 25, op := Go.Op.call { callee := Go.Callee.value (Go.Operand.func 9), args := #[Go.Operand.tmp 24], argTypes := #[24] }, type := 30, pos := "exact.go:2341", after := #[{ on := 2, ground := Go.Ground.data }, { on := 1, ground := Go.Ground.chain }], guard := none }) rfl (fun K hK => ?_) AllReadyH.nil
    go_simp
    refine (toFact_below _ _ _ _ _).mono ?_; rintro e ws2 ⟨rfl, bs2⟩
    go_wp2_with fail
    refine hK.out _ _ ?_ (fun hHeld => ?_)
    · (try dsimp only); (refine ⟨?_, ?_, ?_, ?_⟩ <;> (repeat (first | with_reducible assumption | with_reducible refine keep_drew ?_ | with_reducible refine keep_below (by assumption) ?_)))
    clear hK K
    (try simp only [Act.put, List.setIfInBounds_toArray, List.set_cons_zero, List.set_cons_succ])
    refine wpAnyH_ready (rs := [4]) (by kernel_rfl) (by simp) ?_
    refine AllReadyH.cons (o := { dst := some 26, op := Go.Op.call { callee := Go.Callee.value (Go.Operand.func 7), args := #[Go.Operand.tmp 23, Go.Operand.tmp 25], argTypes := #[26, 30] }, type := 27, pos := "exact.go:2341", after := #[{ on := 1, ground := Go.Ground.data }, { on := 3, ground := Go.Ground.data }, { on := 3, ground := Go.Ground.chain }], guard := none }) rfl (fun K hK => ?_) AllReadyH.nil
    go_simp
    refine (sput_any _ len len F f _ (fs1.below bs2) hl' ⟨xs1, 0, rfl, by have := bs2.size; omega⟩ (Nat.le_refl _)).mono ?_; rintro e ws3 ⟨vs, rfl, os, bs3⟩
    go_wp2_with fail
    refine hK.out _ _ ?_ (fun hHeld => ?_)
    · (try dsimp only); (refine ⟨?_, ?_, ?_, ?_⟩ <;> (repeat (first | with_reducible assumption | with_reducible refine keep_drew ?_ | with_reducible refine keep_below (by assumption) ?_)))
    clear hK K
    (try simp only [Act.put, List.setIfInBounds_toArray, List.set_cons_zero, List.set_cons_succ])
    refine wpAnyH_take (i := 5) (oi := { dst := some 21, op := Go.Op.move (Go.Operand.tmp 26), type := 27, pos := "exact.go:2341", after := #[{ on := 4, ground := Go.Ground.data }], guard := none }) (v := ?_) rfl (by kernel_rfl) (by kernel_rfl) (by kernel_rfl) (fun _ _ _ h => h) (Or.inl ⟨by rfl, ?_⟩) (by assumption) ?_
    rotate_left 1
    · (intro w hSw; (try dsimp only at hSw); go_simp; try with_reducible rfl)
    (try simp only [Act.put, List.setIfInBounds_toArray, List.set_cons_zero, List.set_cons_succ])
    refine wpAnyH_take (i := 6) (oi := { dst := some 27, op := Go.Op.extract (Go.Operand.tmp 21) 0, type := 26, pos := "exact.go:2341", after := #[{ on := 5, ground := Go.Ground.data }], guard := none }) (v := ?_) rfl (by kernel_rfl) (by kernel_rfl) (by kernel_rfl) (fun _ _ _ h => h) (Or.inl ⟨by rfl, ?_⟩) (by assumption) ?_
    rotate_left 1
    · (intro w hSw; (try dsimp only at hSw); go_simp; try with_reducible rfl)
    (try simp only [Act.put, List.setIfInBounds_toArray, List.set_cons_zero, List.set_cons_succ])
    refine wpAnyH_take (i := 7) (oi := { dst := some 28, op := Go.Op.extract (Go.Operand.tmp 21) 1, type := 4, pos := "exact.go:2341", after := #[{ on := 5, ground := Go.Ground.data }, { on := 8, ground := Go.Ground.gcOnly Go.Departure.lateStores }], guard := none }) (v := ?_) rfl (by kernel_rfl) (by kernel_rfl) (by kernel_rfl) (fun _ _ _ h => h) (Or.inl ⟨by rfl, ?_⟩) (by assumption) ?_
    rotate_left 1
    · (intro w hSw; (try dsimp only at hSw); go_simp; try with_reducible rfl)
    (try simp only [Act.put, List.setIfInBounds_toArray, List.set_cons_zero, List.set_cons_succ])
    refine wpAnyH_take (i := 8) (oi := { dst := some 6, op := Go.Op.assign (Go.Operand.tmp 27), type := 26, pos := "exact.go:2341", after := #[{ on := 6, ground := Go.Ground.data }, { on := 4, ground := Go.Ground.chain }, { on := 0, ground := Go.Ground.phase }, { on := 1, ground := Go.Ground.phase }, { on := 2, ground := Go.Ground.phase }, { on := 3, ground := Go.Ground.phase }, { on := 4, ground := Go.Ground.phase }, { on := 5, ground := Go.Ground.phase }, { on := 6, ground := Go.Ground.phase }, { on := 7, ground := Go.Ground.textOnly Go.Departure.lateStores }], guard := none }) (v := ?_) rfl (by kernel_rfl) (by kernel_rfl) (by kernel_rfl) (fun _ _ _ h => h) (Or.inl ⟨by rfl, ?_⟩) (by assumption) ?_
    rotate_left 1
    · (intro w hSw; (try dsimp only at hSw); go_simp; try with_reducible rfl)
    (try simp only [Act.put, List.setIfInBounds_toArray, List.set_cons_zero, List.set_cons_succ])
    refine wpAnyH_take (i := 9) (oi := { dst := some 7, op := Go.Op.assign (Go.Operand.tmp 28), type := 4, pos := "exact.go:2341", after := #[{ on := 7, ground := Go.Ground.data }, { on := 8, ground := Go.Ground.chain }, { on := 0, ground := Go.Ground.phase }, { on := 1, ground := Go.Ground.phase }, { on := 2, ground := Go.Ground.phase }, { on := 3, ground := Go.Ground.phase }, { on := 4, ground := Go.Ground.phase }, { on := 5, ground := Go.Ground.phase }, { on := 6, ground := Go.Ground.phase }, { on := 7, ground := Go.Ground.phase }, { on := 8, ground := Go.Ground.phase }], guard := none }) (v := ?_) rfl (by kernel_rfl) (by kernel_rfl) (by kernel_rfl) (fun _ _ _ h => h) (Or.inl ⟨by rfl, ?_⟩) (by assumption) ?_
    rotate_left 1
    · (intro w hSw; (try dsimp only at hSw); go_simp; try with_reducible rfl)
    (try simp only [Act.put, List.setIfInBounds_toArray, List.set_cons_zero, List.set_cons_succ])
    refine wpAnyH_done (by kernel_rfl) ?_ _
    rw [hT.out] at os
    rw [hQ.out]
    have B3 := btrans (btrans (btrans (QB1 B0) bs1) bs2) bs3
    have p3 := blk_below bs3 (blk_below bs2 (blk_below bs1 p0))
    obtain ⟨a0, c0, rfl, hc0, hTl, i0⟩ := own_facts os
    clear bc0 bc1 bc2 bc3
    clear bs1 bs2 bs3 p0 B0 fs1 lts1 ges1 i0
    go_wp2_with fail
    refine (toFactS_row a len cap F _ (h.below B3) hl' hc).mono ?_
    rintro r w4 ⟨b, rfl, f4, hb4, b4⟩
    have B4 := btrans B3 b4
    have p4 := blk_below b4 p3
    have oS := own_below os b4
    have lt4 := f4.lt
    have ltb := lt_of_block p3
    clear b4 p3
    have bc0 : w4.cell? ⟨w.heap.size, 0, none⟩ = some (.int .i64 f.n) := cell_block (o := 0) p4 rfl
    have bc1 : w4.cell? ⟨w.heap.size, 1, none⟩ = some (.int .i64 f.i) := cell_block (o := 1) p4 rfl
    have bc2 : w4.cell? ⟨w.heap.size, 2, none⟩ = some (.int .i64 f.s) := cell_block (o := 2) p4 rfl
    have bc3 : w4.cell? ⟨w.heap.size, 3, none⟩ = some (.bool f.g) := cell_block (o := 3) p4 rfl
    go_wp2_with fail
    refine (toFact_below _ _ _ _ _).mono ?_
    rintro r w5 ⟨rfl, b5⟩
    have B5 := btrans B4 b5
    have p5 := blk_below b5 p4
    replace oS := own_below oS b5
    have f5 := row_below f4 b5
    clear bc0 bc1 bc2 bc3
    clear b5 p4 f4
    go_wp2_with fail
    refine (fput_any _ len len F f _ (fsl_row f5) hl').mono ?_
    rintro r w6 ⟨v1, rfl, o1, b6⟩
    rw [hT.out] at o1
    rw [hQ.out]
    have B6 := btrans B5 b6
    have p6 := blk_below b6 p5
    replace oS := own_below oS b6
    have f6 := row_below f5 b6
    have lt5 := f5.lt
    obtain ⟨a1, c1, rfl, hc1, _, i1⟩ := own_facts o1
    have ltc := lt_of_block p5
    clear b6 p5 f5
    go_wp2_with fail
    obtain ⟨a0', c0', e0', _, _, i0⟩ := own_facts oS
    simp only [Value.slice.injEq, true_and] at e0'
    obtain ⟨rfl, rfl⟩ := e0'
    refine (eqFactS_same _ _ _ _ _ _ _ i1 i0 (by omega)).mono ?_
    rintro r w7 ⟨rfl, b7⟩
    have B7 := btrans B6 b7
    have p7 := blk_below b7 p6
    replace oS := own_below oS b7
    have o17 := own_below o1 b7
    have f7 := row_below f6 b7
    clear b7 p6 f6 i0 i1
    go_wp2_with fail
    refine (toFactS_any a len cap F _ (h.below B7) hl' hc).mono ?_
    rintro r w8 ⟨x8, rfl, f8, _, _, b8⟩
    have B8 := btrans B7 b8
    have p8 := blk_below b8 p7
    replace oS := own_below oS b8
    replace o17 := own_below o17 b8
    have f9 := row_below f7 b8
    clear b8 p7 f7
    go_wp2_with fail
    refine (eqFactS_same _ _ len len len F _ (fsl_row f9) f8 hl').mono ?_
    rintro r w9 ⟨rfl, b9⟩
    have B9 := btrans B8 b9
    have p9 := blk_below b9 p8
    replace oS := own_below oS b9
    replace o17 := own_below o17 b9
    have f10 := row_below f9 b9
    clear b9 p8 f9 f8
    go_wp2_with fail
    refine (markFacts_any b len len _ 1 _ f10 hl' (by omega)).mono ?_
    rintro r w10 ⟨rfl, g10⟩
    have B10 := B9.grown g10 B9.size (fun k hk => by simp only [Option.some.injEq] at hk; have := B3.size; omega)
    have p10 := keep_block g10 (fun e => by simp only [Option.some.injEq] at e; omega) p9
    replace o17 := o17.kept g10 (ne_ge o17 lt5)
    replace oS := oS.kept g10 (ne_lt os hb4)
    generalize 1 + len * 4 = M at *
    have m0 : ¬ ((M : Int) < 0) := by omega
    clear g10 f10 p9
    go_wp2_with fail
    obtain ⟨a0', c0', e0', _, _, i0⟩ := own_facts oS
    simp only [Value.slice.injEq, true_and] at e0'
    obtain ⟨rfl, rfl⟩ := e0'
    obtain ⟨a1', c1', e1', _, _, i1⟩ := own_facts o17
    simp only [Value.slice.injEq, true_and] at e1'
    obtain ⟨rfl, rfl⟩ := e1'
    refine (eqFactS_same _ _ _ _ _ _ _ i1 i0 (by omega)).mono ?_
    rintro r w11 ⟨rfl, b11⟩
    have B11 := btrans B10 b11
    have p11 := blk_below b11 p10
    replace oS := own_below oS b11
    replace o17 := own_below o17 b11
    clear i0 i1 b11 p10
    go_wp2_with fail
    refine (markF_own _ _ _ _ _ 1 _ o17 (by omega) (by omega)).mono ?_
    rintro r w12 ⟨rfl, om, g12⟩
    have B12 := B11.grown g12 B11.size (fun k hk => by have := (o1.lt k hk).1; have := B5.size; omega)
    have p12 := keep_block g12 (fun e => by have := (o1.lt _ e.symm).1; omega) p11
    replace oS := oS.kept g12 (ne_two os o1 (by omega))
    clear o17 g12 p11
    go_wp2_with fail
    refine (heldF_any _ _ _ 1 _ (own_held om) (by omega) (by omega)).mono ?_
    rintro r w13 ⟨rfl, hw⟩
    obtain rfl := hw.symm
    generalize hK : 1 + T.length * 4 = K at *
    have k0 : ¬ ((K : Int) < 0) := by omega
    have k1 : ¬ ((K : Int) ≠ (K : Int)) := by simp
    have bc0 : w12.cell? ⟨w.heap.size, 0, none⟩ = some (.int .i64 f.n) := cell_block (o := 0) p12 rfl
    have bc1 : w12.cell? ⟨w.heap.size, 1, none⟩ = some (.int .i64 f.i) := cell_block (o := 1) p12 rfl
    have bc2 : w12.cell? ⟨w.heap.size, 2, none⟩ = some (.int .i64 f.s) := cell_block (o := 2) p12 rfl
    have bc3 : w12.cell? ⟨w.heap.size, 3, none⟩ = some (.bool f.g) := cell_block (o := 3) p12 rfl
    go_wp2_with fail
    refine wp_region_held_drew (S := fun w' => w'.cell? ⟨w.heap.size, 0, none⟩ = some (.int .i64 f.n) ∧ w'.cell? ⟨w.heap.size, 1, none⟩ = some (.int .i64 f.i) ∧ w'.cell? ⟨w.heap.size, 2, none⟩ = some (.int .i64 f.s) ∧ w'.cell? ⟨w.heap.size, 3, none⟩ = some (.bool f.g)) (by kernel_rfl) ?_ (fun hHeld => ?_)
    · (try dsimp only); (refine ⟨?_, ?_, ?_, ?_⟩ <;> (repeat (first | with_reducible assumption | with_reducible refine keep_drew ?_ | with_reducible refine keep_below (by assumption) ?_)))
    refine wpAnyH_take (i := 0) (oi := { dst := some 80, op := Go.Op.move (Go.Operand.tmp 0), type := 22, pos := "exact.go:2365", after := #[], guard := none }) (v := ?_) rfl (by kernel_rfl) (by kernel_rfl) (by kernel_rfl) (fun _ _ _ h => h) (Or.inl ⟨by rfl, ?_⟩) (by assumption) ?_
    rotate_left 1
    · (intro w hSw; (try dsimp only at hSw); go_simp; try with_reducible rfl)
    (try simp only [Act.put, List.setIfInBounds_toArray, List.set_cons_zero, List.set_cons_succ])
    refine wpAnyH_take (i := 2) (oi := { dst := some 82, op := Go.Op.load 24 (Go.Operand.tmp 3), type := 24, pos := "exact.go:2365", after := #[], guard := none }) (v := ?_) rfl (by kernel_rfl) (by kernel_rfl) (by kernel_rfl) (fun _ _ _ h => h) (Or.inl ⟨by rfl, ?_⟩) (by assumption) ?_
    rotate_left 1
    · (intro w hSw; (try dsimp only at hSw); go_simp; try with_reducible rfl)
    (try simp only [Act.put, List.setIfInBounds_toArray, List.set_cons_zero, List.set_cons_succ])
    refine wpAnyH_ready (rs := [1]) (by kernel_rfl) (by simp) ?_
    refine AllReadyH.cons (o := { dst := some 81, op := Go.Op.call { callee := Go.Callee.value (Go.Operand.func 8), args := #[Go.Operand.tmp 80], argTypes := #[22] }, type := 26, pos := "exact.go:2365", after := #[{ on := 0, ground := Go.Ground.data }], guard := none }) rfl (fun K hK => ?_) AllReadyH.nil
    go_simp
    refine (toFactS_any a len cap F _ (h.below (QB1 B12)) hl' hc).mono ?_; rintro e wt1 ⟨xt1, rfl, ft1, ltt1, get1, bt1⟩
    go_wp2_with fail
    refine hK.out _ _ ?_ (fun hHeld => ?_)
    · (try dsimp only); (refine ⟨?_, ?_, ?_, ?_⟩ <;> (repeat (first | with_reducible assumption | with_reducible refine keep_drew ?_ | with_reducible refine keep_below (by assumption) ?_)))
    clear hK K
    (try simp only [Act.put, List.setIfInBounds_toArray, List.set_cons_zero, List.set_cons_succ])
    refine wpAnyH_ready (rs := [3]) (by kernel_rfl) (by simp) ?_
    refine AllReadyH.cons (o := { dst := some 83, op := Go.Op.call { callee := Go.Callee.value (Go.Operand.func 9), args := #[Go.Operand.tmp 82], argTypes := #[24] }, type := 30, pos := "exact.go:2365", after := #[{ on := 2, ground := Go.Ground.data }, { on := 1, ground := Go.Ground.chain }], guard := none }) rfl (fun K hK => ?_) AllReadyH.nil
    go_simp
    refine (toFact_below _ _ _ _ _).mono ?_; rintro e wt2 ⟨rfl, bt2⟩
    go_wp2_with fail
    refine hK.out _ _ ?_ (fun hHeld => ?_)
    · (try dsimp only); (refine ⟨?_, ?_, ?_, ?_⟩ <;> (repeat (first | with_reducible assumption | with_reducible refine keep_drew ?_ | with_reducible refine keep_below (by assumption) ?_)))
    clear hK K
    (try simp only [Act.put, List.setIfInBounds_toArray, List.set_cons_zero, List.set_cons_succ])
    refine wpAnyH_ready (rs := [4]) (by kernel_rfl) (by simp) ?_
    refine AllReadyH.cons (o := { dst := some 84, op := Go.Op.call { callee := Go.Callee.value (Go.Operand.func 10), args := #[Go.Operand.tmp 81, Go.Operand.tmp 83], argTypes := #[26, 30] }, type := 27, pos := "exact.go:2365", after := #[{ on := 1, ground := Go.Ground.data }, { on := 3, ground := Go.Ground.data }, { on := 3, ground := Go.Ground.chain }], guard := none }) rfl (fun K hK => ?_) AllReadyH.nil
    go_simp
    refine (fput_any _ len len F f _ (ft1.below bt2) hl').mono ?_; rintro e wt3 ⟨vt, rfl, ot, bt3⟩
    go_wp2_with fail
    refine hK.out _ _ ?_ (fun hHeld => ?_)
    · (try dsimp only); (refine ⟨?_, ?_, ?_, ?_⟩ <;> (repeat (first | with_reducible assumption | with_reducible refine keep_drew ?_ | with_reducible refine keep_below (by assumption) ?_)))
    clear hK K
    (try simp only [Act.put, List.setIfInBounds_toArray, List.set_cons_zero, List.set_cons_succ])
    refine wpAnyH_take (i := 5) (oi := { dst := some 79, op := Go.Op.move (Go.Operand.tmp 84), type := 27, pos := "exact.go:2365", after := #[{ on := 4, ground := Go.Ground.data }], guard := none }) (v := ?_) rfl (by kernel_rfl) (by kernel_rfl) (by kernel_rfl) (fun _ _ _ h => h) (Or.inl ⟨by rfl, ?_⟩) (by assumption) ?_
    rotate_left 1
    · (intro w hSw; (try dsimp only at hSw); go_simp; try with_reducible rfl)
    (try simp only [Act.put, List.setIfInBounds_toArray, List.set_cons_zero, List.set_cons_succ])
    refine wpAnyH_take (i := 6) (oi := { dst := some 85, op := Go.Op.extract (Go.Operand.tmp 79) 0, type := 26, pos := "exact.go:2365", after := #[{ on := 5, ground := Go.Ground.data }], guard := none }) (v := ?_) rfl (by kernel_rfl) (by kernel_rfl) (by kernel_rfl) (fun _ _ _ h => h) (Or.inl ⟨by rfl, ?_⟩) (by assumption) ?_
    rotate_left 1
    · (intro w hSw; (try dsimp only at hSw); go_simp; try with_reducible rfl)
    (try simp only [Act.put, List.setIfInBounds_toArray, List.set_cons_zero, List.set_cons_succ])
    refine wpAnyH_take (i := 7) (oi := { dst := some 86, op := Go.Op.extract (Go.Operand.tmp 79) 1, type := 4, pos := "exact.go:2365", after := #[{ on := 5, ground := Go.Ground.data }, { on := 8, ground := Go.Ground.gcOnly Go.Departure.lateStores }], guard := none }) (v := ?_) rfl (by kernel_rfl) (by kernel_rfl) (by kernel_rfl) (fun _ _ _ h => h) (Or.inl ⟨by rfl, ?_⟩) (by assumption) ?_
    rotate_left 1
    · (intro w hSw; (try dsimp only at hSw); go_simp; try with_reducible rfl)
    (try simp only [Act.put, List.setIfInBounds_toArray, List.set_cons_zero, List.set_cons_succ])
    refine wpAnyH_take (i := 8) (oi := { dst := some 14, op := Go.Op.assign (Go.Operand.tmp 85), type := 26, pos := "exact.go:2365", after := #[{ on := 6, ground := Go.Ground.data }, { on := 4, ground := Go.Ground.chain }, { on := 0, ground := Go.Ground.phase }, { on := 1, ground := Go.Ground.phase }, { on := 2, ground := Go.Ground.phase }, { on := 3, ground := Go.Ground.phase }, { on := 4, ground := Go.Ground.phase }, { on := 5, ground := Go.Ground.phase }, { on := 6, ground := Go.Ground.phase }, { on := 7, ground := Go.Ground.textOnly Go.Departure.lateStores }], guard := none }) (v := ?_) rfl (by kernel_rfl) (by kernel_rfl) (by kernel_rfl) (fun _ _ _ h => h) (Or.inl ⟨by rfl, ?_⟩) (by assumption) ?_
    rotate_left 1
    · (intro w hSw; (try dsimp only at hSw); go_simp; try with_reducible rfl)
    (try simp only [Act.put, List.setIfInBounds_toArray, List.set_cons_zero, List.set_cons_succ])
    refine wpAnyH_take (i := 9) (oi := { dst := some 15, op := Go.Op.assign (Go.Operand.tmp 86), type := 4, pos := "exact.go:2365", after := #[{ on := 7, ground := Go.Ground.data }, { on := 8, ground := Go.Ground.chain }, { on := 0, ground := Go.Ground.phase }, { on := 1, ground := Go.Ground.phase }, { on := 2, ground := Go.Ground.phase }, { on := 3, ground := Go.Ground.phase }, { on := 4, ground := Go.Ground.phase }, { on := 5, ground := Go.Ground.phase }, { on := 6, ground := Go.Ground.phase }, { on := 7, ground := Go.Ground.phase }, { on := 8, ground := Go.Ground.phase }], guard := none }) (v := ?_) rfl (by kernel_rfl) (by kernel_rfl) (by kernel_rfl) (fun _ _ _ h => h) (Or.inl ⟨by rfl, ?_⟩) (by assumption) ?_
    rotate_left 1
    · (intro w hSw; (try dsimp only at hSw); go_simp; try with_reducible rfl)
    (try simp only [Act.put, List.setIfInBounds_toArray, List.set_cons_zero, List.set_cons_succ])
    refine wpAnyH_done (by kernel_rfl) ?_ _
    rw [hT.out] at ot
    rw [hQ.out]
    have B13 := btrans (btrans (btrans (QB1 B12) bt1) bt2) bt3
    replace om := own_below (own_below (own_below (show w12.drew.ownsRow _ _ _ _ _ _ from om) bt1) bt2) bt3
    replace oS := own_below (own_below (own_below (show w12.drew.ownsRow _ _ _ _ _ _ from oS) bt1) bt2) bt3
    obtain ⟨a2, c2, rfl, hc2, _, i2⟩ := own_facts ot
    clear bc0 bc1 bc2 bc3
    clear bt1 bt2 bt3 p12 ft1 ltt1 get1 ot
    go_wp2_with fail
    obtain ⟨a0', c0', e0', _, _, i0⟩ := own_facts oS
    simp only [Value.slice.injEq, true_and] at e0'
    obtain ⟨rfl, rfl⟩ := e0'
    refine (eqFactS_same _ _ _ _ _ _ _ i2 i0 (by omega)).mono ?_
    rintro r w14 ⟨rfl, b14⟩
    have B14 := btrans B13 b14
    replace om := own_below om b14
    clear i0 i2 b14 oS
    go_wp2_with fail
    refine (heldF_any _ _ _ 1 _ (own_held om) (by omega) (by omega)).mono ?_
    rintro r w15 ⟨rfl, hw⟩
    obtain rfl := hw.symm
    rw [hK]
    clear hK om
    go_wp2
    go_ret
    exact ⟨rfl, B14⟩
end Go.Proofs.Ytdkjcimmgemncaa
