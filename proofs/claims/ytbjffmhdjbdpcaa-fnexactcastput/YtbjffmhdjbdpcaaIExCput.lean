/- The exact law of CastPut, walked. -/
import Derived.Test.YtbjffmhdjbdpcaaIMark
namespace Go.Proofs.Ytbjffmhdjbdpcaa.I
open Go.ChangeShapes Go.WideShapes Go.ChangeAt Go.RowKit
attribute [local go_sem ↓] Go.wp_at_zero Go.wp_at_succ
theorem ne_lt {w : World} {base size n b : Nat} {e : TypeId} {v : Value} {xs : List Value} (h : w.ownsRow base e size v n xs) (hb : w.heap.size ≤ b) : v.ownBlock = none ∨ v.ownBlock ≠ some b :=
  .inr fun e => by have := (h.lt b e).2; omega
theorem ne_ge {w : World} {base size n b : Nat} {e : TypeId} {v : Value} {xs : List Value} (h : w.ownsRow base e size v n xs) (hb : b < base) : v.ownBlock = none ∨ v.ownBlock ≠ some b :=
  .inr fun e => by have := (h.lt b e).1; omega
theorem ne_two {w w' : World} {base size n : Nat} {e : TypeId} {v : Value} {xs : List Value} {base' size' n' : Nat} {e' : TypeId} {v' : Value} {xs' : List Value} (h : w.ownsRow base e size v n xs) (h' : w'.ownsRow base' e' size' v' n' xs') (hb : w.heap.size ≤ base') : v.ownBlock = none ∨ v.ownBlock ≠ v'.ownBlock := by
  cases hv : v.ownBlock with
  | none => exact .inl rfl
  | some k => exact .inr fun e => by have := (h.lt k hv).2; have := (h'.lt k e.symm).1; omega
theorem cpT_len (len : Nat) (F : Nat → It) (f : Fc) : (cpT len F f).length ≤ 9 := by
  unfold cpT
  split
  · rename_i h
    rw [Bool.and_eq_true] at h
    have := tput_len_le (seqF F len) (tIt f)
    have := tok_len h.1
    rw [seqF_len] at *
    omega
  · simp
theorem szI_over (a : Option Addr) (len cap : Nat) (w : World) (h1 : 1048576 < len) (hl : len ≤ maxLen) :
    Calls Try.prog 14 #[.slice a len cap, .int .i64 1048576] w fun e w' => e = .returned (.int .i64 (-1)) ∧ w' = w := by
  refine (szItemS_any a len cap 1048576 w (by omega) (by omega) hl).mono ?_
  rintro e w' ⟨rfl, rfl⟩
  exact ⟨by rw [if_pos (by omega)], rfl⟩
theorem szI_in (a : Option Addr) (len cap : Nat) (w : World) (h1 : len ≤ 1048576) :
    Calls Try.prog 14 #[.slice a len cap, .int .i64 1048576] w fun e w' => ∃ n : Nat, e = .returned (.int .i64 (n : Int)) ∧ w' = w := by
  refine (szItemS_any a len cap 1048576 w (by omega) (by omega) (by unfold maxLen; omega)).mono ?_
  rintro e w' ⟨rfl, rfl⟩
  exact ⟨1048576 - len, by rw [if_neg (by omega)]; congr 2; omega, rfl⟩
theorem row_own {w : World} {b n : Nat} {F : Nat → It} (h : w.rowIs b 33 (n * 5) (tv F)) (hn : n ≤ 1048576) : w.ownsRow b 33 5 (.slice (some ⟨b, 0, none⟩) n n) n (fl (seqF F n)) := by
  obtain ⟨c, h1, h2, h3⟩ := h
  refine ⟨by rw [fl_len, seqF_len], .inr ⟨b, n, c, rfl, Nat.le_refl _, h1, Nat.le_refl _, by unfold maxLen; omega, h2, ?_⟩⟩
  refine List.ext_getElem? fun i => ?_
  by_cases hi : i < n * 5
  · rw [List.getElem?_take_of_lt hi, Array.getElem?_toList, h3 i hi]
    obtain ⟨e0, e1, e2, e3, e4⟩ := fl_get (seqF F n) (i / 5) (by rw [seqF_len]; omega)
    rw [seqF_getD F (by omega)] at e0 e1 e2 e3 e4
    have : i % 5 = 0 ∨ i % 5 = 1 ∨ i % 5 = 2 ∨ i % 5 = 3 ∨ i % 5 = 4 := by omega
    unfold tv
    rcases this with hr | hr | hr | hr | hr
    · rw [show i / 5 * 5 = i by omega] at e0
      simp [hr, e0]
    · rw [show i / 5 * 5 + 1 = i by omega] at e1
      simp [hr, e1]
    · rw [show i / 5 * 5 + 2 = i by omega] at e2
      simp [hr, e2]
    · rw [show i / 5 * 5 + 3 = i by omega] at e3
      simp [hr, e3]
    · rw [show i / 5 * 5 + 4 = i by omega] at e4
      simp [hr, e4]
  · rw [List.getElem?_eq_none (by rw [List.length_take]; omega), List.getElem?_eq_none (by rw [fl_len, seqF_len]; omega)]
theorem QB1 {a w : World} {B : Nat} (h : Below B a w) : Below B a w.drew := ⟨h.os, h.tape, h.output, h.size, h.block⟩
set_option maxRecDepth 20000 in
set_option maxHeartbeats 8000000 in
theorem exCput_walk (a : Option Addr) (len cap : Nat) (F : Nat → It) (f : Fc) (w : World) (h : TSl w a len F) (hc : len ≤ cap) (hm : len ≤ maxLen) :
    Calls Try.prog 5 #[.slice a len cap, .agg #[.int .i64 f.n, .int .i64 f.i, .int .i64 f.s, .bool f.g]] w fun r w' => r = .returned (.bool true) ∧ Below w.heap.size w w' := by
  have p0 : (w.alloc (.cells #[.int .i64 f.n, .int .i64 f.i, .int .i64 f.s, .bool f.g] 37)).heap[w.heap.size]? = some (.cells #[.int .i64 f.n, .int .i64 f.i, .int .i64 f.s, .bool f.g] 37 (0, 0)) := heap_alloc_new _ _
  have B0 : Below w.heap.size w (w.alloc (.cells #[.int .i64 f.n, .int .i64 f.i, .int .i64 f.s, .bool f.g] 37)) := balloc _ (Below.refl _ _)
  by_cases hl : 1048576 < len
  · go_enter Try.func5, Try.ntmps5
    go_wp2_with fail
    refine (szI_over a len cap _ hl hm).mono ?_
    rintro r w' ⟨rfl, hw⟩
    obtain rfl := hw.symm
    go_wp2
    go_ret
    exact ⟨rfl, B0⟩
  · have hl' : len ≤ 1048576 := by omega
    have hgl := cpT_len len F f
    obtain ⟨T, hT⟩ : ∃ T, Hid (cpT len F f = T) := ⟨_, rfl⟩
    rw [hT.out] at hgl
    clear hl hm
    go_enter Try.func5, Try.ntmps5
    go_wp2_with fail
    generalize (w.alloc (.cells #[.int .i64 f.n, .int .i64 f.i, .int .i64 f.s, .bool f.g] 37)) = W0 at *
    refine (szI_in a len cap _ hl').mono ?_
    rintro r w' ⟨n, rfl, hw⟩
    obtain rfl := hw.symm
    have n0 : ¬ ((n : Int) < 0) := by omega
    have bc0 : W0.cell? ⟨w.heap.size, 0, none⟩ = some (.int .i64 f.n) := cell_block (o := 0) p0 rfl
    have bc1 : W0.cell? ⟨w.heap.size, 1, none⟩ = some (.int .i64 f.i) := cell_block (o := 1) p0 rfl
    have bc2 : W0.cell? ⟨w.heap.size, 2, none⟩ = some (.int .i64 f.s) := cell_block (o := 2) p0 rfl
    have bc3 : W0.cell? ⟨w.heap.size, 3, none⟩ = some (.bool f.g) := cell_block (o := 3) p0 rfl
    go_wp2_with fail
    refine wp_region_held_drew (S := fun w' => w'.cell? ⟨w.heap.size, 0, none⟩ = some (.int .i64 f.n) ∧ w'.cell? ⟨w.heap.size, 1, none⟩ = some (.int .i64 f.i) ∧ w'.cell? ⟨w.heap.size, 2, none⟩ = some (.int .i64 f.s) ∧ w'.cell? ⟨w.heap.size, 3, none⟩ = some (.bool f.g)) (by kernel_rfl) ?_ (fun hHeld => ?_)
    · (try dsimp only); (refine ⟨?_, ?_, ?_, ?_⟩ <;> (repeat (first | with_reducible assumption | with_reducible refine keep_drew ?_ | with_reducible refine keep_below (by assumption) ?_)))
    refine wpAnyH_take (i := 0) (oi := { dst := some 18, op := Go.Op.move (Go.Operand.tmp 0), type := 36, pos := "exact.go:3017", after := #[], guard := none }) (v := ?_) rfl (by kernel_rfl) (by kernel_rfl) (by kernel_rfl) (fun _ _ _ h => h) (Or.inl ⟨by rfl, ?_⟩) (by assumption) ?_
    rotate_left 1
    · (intro w hSw; (try dsimp only at hSw); go_simp; try with_reducible rfl)
    (try simp only [Act.put, List.setIfInBounds_toArray, List.set_cons_zero, List.set_cons_succ])
    refine wpAnyH_take (i := 2) (oi := { dst := some 20, op := Go.Op.load 37 (Go.Operand.tmp 3), type := 37, pos := "exact.go:3017", after := #[], guard := none }) (v := ?_) rfl (by kernel_rfl) (by kernel_rfl) (by kernel_rfl) (fun _ _ _ h => h) (Or.inl ⟨by rfl, ?_⟩) (by assumption) ?_
    rotate_left 1
    · (intro w hSw; (try dsimp only at hSw); go_simp; try with_reducible rfl)
    (try simp only [Act.put, List.setIfInBounds_toArray, List.set_cons_zero, List.set_cons_succ])
    refine wpAnyH_ready (rs := [1]) (by kernel_rfl) (by simp) ?_
    refine AllReadyH.cons (o := { dst := some 19, op := Go.Op.call { callee := Go.Callee.value (Go.Operand.func 15), args := #[Go.Operand.tmp 18], argTypes := #[36] }, type := 23, pos := "exact.go:3017", after := #[{ on := 0, ground := Go.Ground.data }], guard := none }) rfl (fun K hK => ?_) AllReadyH.nil
    go_simp
    refine (toItemS_any a len cap F _ (h.below (QB1 B0)) hl' hc).mono ?_; rintro e ws1 ⟨xs1, rfl, fs1, ges1, bs1⟩
    go_wp2_with fail
    refine hK.out _ _ ?_ (fun hHeld => ?_)
    · (try dsimp only); (refine ⟨?_, ?_, ?_, ?_⟩ <;> (repeat (first | with_reducible assumption | with_reducible refine keep_drew ?_ | with_reducible refine keep_below (by assumption) ?_)))
    clear hK K
    (try simp only [Act.put, List.setIfInBounds_toArray, List.set_cons_zero, List.set_cons_succ])
    refine wpAnyH_ready (rs := [3]) (by kernel_rfl) (by simp) ?_
    refine AllReadyH.cons (o := { dst := some 21, op := Go.Op.call { callee := Go.Callee.value (Go.Operand.func 16), args := #[Go.Operand.tmp 20], argTypes := #[37] }, type := 25, pos := "exact.go:3017", after := #[{ on := 2, ground := Go.Ground.data }, { on := 1, ground := Go.Ground.chain }], guard := none }) rfl (fun K hK => ?_) AllReadyH.nil
    go_simp
    refine (toFact_below _ _ _ _ _).mono ?_; rintro e ws2 ⟨rfl, bs2⟩
    go_wp2_with fail
    refine hK.out _ _ ?_ (fun hHeld => ?_)
    · (try dsimp only); (refine ⟨?_, ?_, ?_, ?_⟩ <;> (repeat (first | with_reducible assumption | with_reducible refine keep_drew ?_ | with_reducible refine keep_below (by assumption) ?_)))
    clear hK K
    (try simp only [Act.put, List.setIfInBounds_toArray, List.set_cons_zero, List.set_cons_succ])
    refine wpAnyH_ready (rs := [4]) (by kernel_rfl) (by simp) ?_
    refine AllReadyH.cons (o := { dst := some 22, op := Go.Op.call { callee := Go.Callee.value (Go.Operand.func 8), args := #[Go.Operand.tmp 19, Go.Operand.tmp 21], argTypes := #[23, 25] }, type := 23, pos := "exact.go:3017", after := #[{ on := 1, ground := Go.Ground.data }, { on := 3, ground := Go.Ground.data }, { on := 3, ground := Go.Ground.chain }], guard := none }) rfl (fun K hK => ?_) AllReadyH.nil
    go_simp
    refine (scput_any _ len len F f _ ((tsl_row fs1).below bs2) hl' (Nat.le_refl _)).mono ?_; rintro e ws3 ⟨vs, rfl, os, bs3⟩
    go_wp2_with fail
    refine hK.out _ _ ?_ (fun hHeld => ?_)
    · (try dsimp only); (refine ⟨?_, ?_, ?_, ?_⟩ <;> (repeat (first | with_reducible assumption | with_reducible refine keep_drew ?_ | with_reducible refine keep_below (by assumption) ?_)))
    clear hK K
    (try simp only [Act.put, List.setIfInBounds_toArray, List.set_cons_zero, List.set_cons_succ])
    refine wpAnyH_take (i := 5) (oi := { dst := some 6, op := Go.Op.assign (Go.Operand.tmp 22), type := 23, pos := "exact.go:3017", after := #[{ on := 4, ground := Go.Ground.data }, { on := 4, ground := Go.Ground.chain }, { on := 0, ground := Go.Ground.phase }, { on := 1, ground := Go.Ground.phase }, { on := 2, ground := Go.Ground.phase }, { on := 3, ground := Go.Ground.phase }, { on := 4, ground := Go.Ground.phase }], guard := none }) (v := ?_) rfl (by kernel_rfl) (by kernel_rfl) (by kernel_rfl) (fun _ _ _ h => h) (Or.inl ⟨by rfl, ?_⟩) (by assumption) ?_
    rotate_left 1
    · (intro w hSw; (try dsimp only at hSw); go_simp; try with_reducible rfl)
    (try simp only [Act.put, List.setIfInBounds_toArray, List.set_cons_zero, List.set_cons_succ])
    refine wpAnyH_done (by kernel_rfl) ?_ _
    rw [hT.out] at os
    have B3 := btrans (btrans (btrans (QB1 B0) bs1) bs2) bs3
    have p3 := blk_below bs3 (blk_below bs2 (blk_below bs1 p0))
    obtain ⟨a0, c0, rfl, hc0, hTl, i0⟩ := own_facts os
    clear bc0 bc1 bc2 bc3
    clear bs1 bs2 bs3 p0 B0 fs1 ges1 i0
    go_wp2_with fail
    refine (toItemS_any a len cap F _ (h.below B3) hl' hc).mono ?_
    rintro r w4 ⟨b, rfl, f4, hb4, b4⟩
    have B4 := btrans B3 b4
    have p4 := blk_below b4 p3
    have oS := own_below os b4
    have lt4 := f4.lt
    have ltb := lt_of_block p3
    clear b4 p3
    have bc0 : w4.cell? ⟨w.heap.size, 0, none⟩ = some (.int .i64 f.n) := cell_block (o := 0) p4 rfl
    have bc1 : w4.cell? ⟨w.heap.size, 1, none⟩ = some (.int .i64 f.i) := cell_block (o := 1) p4 rfl
    have bc2 : w4.cell? ⟨w.heap.size, 2, none⟩ = some (.int .i64 f.s) := cell_block (o := 2) p4 rfl
    have bc3 : w4.cell? ⟨w.heap.size, 3, none⟩ = some (.bool f.g) := cell_block (o := 3) p4 rfl
    go_wp2_with fail
    refine (toFact_below _ _ _ _ _).mono ?_
    rintro r w5 ⟨rfl, b5⟩
    have B5 := btrans B4 b5
    have p5 := blk_below b5 p4
    replace oS := own_below oS b5
    have f5 := row_below f4 b5
    clear bc0 bc1 bc2 bc3
    clear b5 p4 f4
    go_wp2_with fail
    refine (cput_any _ len len F f _ (tsl_row f5) hl').mono ?_
    rintro r w6 ⟨v1, rfl, o1, b6⟩
    rw [hT.out] at o1
    have B6 := btrans B5 b6
    have p6 := blk_below b6 p5
    replace oS := own_below oS b6
    have f6 := row_below f5 b6
    have lt5 := f5.lt
    obtain ⟨a1, c1, rfl, hc1, _, i1⟩ := own_facts o1
    have ltc := lt_of_block p5
    clear b6 p5 f5
    go_wp2_with fail
    obtain ⟨a0', c0', e0', _, _, i0⟩ := own_facts oS
    simp only [Value.slice.injEq, true_and] at e0'
    obtain ⟨rfl, rfl⟩ := e0'
    refine (eqItemS_same _ _ _ _ _ _ _ i1 i0 (by omega)).mono ?_
    rintro r w7 ⟨rfl, b7⟩
    have B7 := btrans B6 b7
    have p7 := blk_below b7 p6
    replace oS := own_below oS b7
    have o17 := own_below o1 b7
    have f7 := row_below f6 b7
    clear b7 p6 f6 i0 i1
    go_wp2_with fail
    refine (toItemS_any a len cap F _ (h.below B7) hl' hc).mono ?_
    rintro r w8 ⟨x8, rfl, f8, _, b8⟩
    have B8 := btrans B7 b8
    have p8 := blk_below b8 p7
    replace oS := own_below oS b8
    replace o17 := own_below o17 b8
    have f9 := row_below f7 b8
    clear b8 p7 f7
    go_wp2_with fail
    refine (eqItemS_same _ _ len len len F _ (tsl_row f9) (tsl_row f8) hl').mono ?_
    rintro r w9 ⟨rfl, b9⟩
    have B9 := btrans B8 b9
    have p9 := blk_below b9 p8
    replace oS := own_below oS b9
    replace o17 := own_below o17 b9
    have f10 := row_below f9 b9
    clear b9 p8 f9 f8
    go_wp2_with fail
    refine (markF_own b len len _ _ 1 _ (row_own f10 hl') hl' (by omega)).mono ?_
    rintro r w10 ⟨rfl, _, g10'⟩
    have g10 : w9.grownBy w10 (some b) := g10'
    clear g10'
    have B10 := B9.grown g10 B9.size (fun k hk => by simp only [Option.some.injEq] at hk; have := B3.size; omega)
    have p10 := keep_block g10 (fun e => by simp only [Option.some.injEq] at e; omega) p9
    replace o17 := o17.kept g10 (ne_ge o17 lt5)
    replace oS := oS.kept g10 (ne_lt os hb4)
    generalize 1 + len * 5 = M at *
    have m0 : ¬ ((M : Int) < 0) := by omega
    clear g10 f10 p9
    go_wp2_with fail
    obtain ⟨a0', c0', e0', _, _, i0⟩ := own_facts oS
    simp only [Value.slice.injEq, true_and] at e0'
    obtain ⟨rfl, rfl⟩ := e0'
    obtain ⟨a1', c1', e1', _, _, i1⟩ := own_facts o17
    simp only [Value.slice.injEq, true_and] at e1'
    obtain ⟨rfl, rfl⟩ := e1'
    refine (eqItemS_same _ _ _ _ _ _ _ i1 i0 (by omega)).mono ?_
    rintro r w11 ⟨rfl, b11⟩
    have B11 := btrans B10 b11
    have p11 := blk_below b11 p10
    replace oS := own_below oS b11
    replace o17 := own_below o17 b11
    clear i0 i1 b11 p10
    go_wp2_with fail
    refine (markF_own _ _ _ _ _ 1 _ o17 (by omega) (by omega)).mono ?_
    rintro r w12 ⟨rfl, om, g12⟩
    have B12 := B11.grown g12 B11.size (fun k hk => by have := (o1.lt k hk).1; have := B5.size; omega)
    have p12 := keep_block g12 (fun e => by have := (o1.lt _ e.symm).1; omega) p11
    replace oS := oS.kept g12 (ne_two os o1 (by omega))
    clear o17 g12 p11
    go_wp2_with fail
    refine (heldF_any _ _ _ 1 _ (own_held om) (by omega) (by omega)).mono ?_
    rintro r w13 ⟨rfl, hw⟩
    obtain rfl := hw.symm
    generalize hK : 1 + T.length * 5 = K at *
    have k0 : ¬ ((K : Int) < 0) := by omega
    have k1 : ¬ ((K : Int) ≠ (K : Int)) := by simp
    have bc0 : w12.cell? ⟨w.heap.size, 0, none⟩ = some (.int .i64 f.n) := cell_block (o := 0) p12 rfl
    have bc1 : w12.cell? ⟨w.heap.size, 1, none⟩ = some (.int .i64 f.i) := cell_block (o := 1) p12 rfl
    have bc2 : w12.cell? ⟨w.heap.size, 2, none⟩ = some (.int .i64 f.s) := cell_block (o := 2) p12 rfl
    have bc3 : w12.cell? ⟨w.heap.size, 3, none⟩ = some (.bool f.g) := cell_block (o := 3) p12 rfl
    go_wp2_with fail
    refine wp_region_held_drew (S := fun w' => w'.cell? ⟨w.heap.size, 0, none⟩ = some (.int .i64 f.n) ∧ w'.cell? ⟨w.heap.size, 1, none⟩ = some (.int .i64 f.i) ∧ w'.cell? ⟨w.heap.size, 2, none⟩ = some (.int .i64 f.s) ∧ w'.cell? ⟨w.heap.size, 3, none⟩ = some (.bool f.g)) (by kernel_rfl) ?_ (fun hHeld => ?_)
    · (try dsimp only); (refine ⟨?_, ?_, ?_, ?_⟩ <;> (repeat (first | with_reducible assumption | with_reducible refine keep_drew ?_ | with_reducible refine keep_below (by assumption) ?_)))
    refine wpAnyH_take (i := 0) (oi := { dst := some 60, op := Go.Op.move (Go.Operand.tmp 0), type := 36, pos := "exact.go:3041", after := #[], guard := none }) (v := ?_) rfl (by kernel_rfl) (by kernel_rfl) (by kernel_rfl) (fun _ _ _ h => h) (Or.inl ⟨by rfl, ?_⟩) (by assumption) ?_
    rotate_left 1
    · (intro w hSw; (try dsimp only at hSw); go_simp; try with_reducible rfl)
    (try simp only [Act.put, List.setIfInBounds_toArray, List.set_cons_zero, List.set_cons_succ])
    refine wpAnyH_take (i := 2) (oi := { dst := some 62, op := Go.Op.load 37 (Go.Operand.tmp 3), type := 37, pos := "exact.go:3041", after := #[], guard := none }) (v := ?_) rfl (by kernel_rfl) (by kernel_rfl) (by kernel_rfl) (fun _ _ _ h => h) (Or.inl ⟨by rfl, ?_⟩) (by assumption) ?_
    rotate_left 1
    · (intro w hSw; (try dsimp only at hSw); go_simp; try with_reducible rfl)
    (try simp only [Act.put, List.setIfInBounds_toArray, List.set_cons_zero, List.set_cons_succ])
    refine wpAnyH_ready (rs := [1]) (by kernel_rfl) (by simp) ?_
    refine AllReadyH.cons (o := { dst := some 61, op := Go.Op.call { callee := Go.Callee.value (Go.Operand.func 15), args := #[Go.Operand.tmp 60], argTypes := #[36] }, type := 23, pos := "exact.go:3041", after := #[{ on := 0, ground := Go.Ground.data }], guard := none }) rfl (fun K hK => ?_) AllReadyH.nil
    go_simp
    refine (toItemS_any a len cap F _ (h.below (QB1 B12)) hl' hc).mono ?_; rintro e wt1 ⟨xt1, rfl, ft1, get1, bt1⟩
    go_wp2_with fail
    refine hK.out _ _ ?_ (fun hHeld => ?_)
    · (try dsimp only); (refine ⟨?_, ?_, ?_, ?_⟩ <;> (repeat (first | with_reducible assumption | with_reducible refine keep_drew ?_ | with_reducible refine keep_below (by assumption) ?_)))
    clear hK K
    (try simp only [Act.put, List.setIfInBounds_toArray, List.set_cons_zero, List.set_cons_succ])
    refine wpAnyH_ready (rs := [3]) (by kernel_rfl) (by simp) ?_
    refine AllReadyH.cons (o := { dst := some 63, op := Go.Op.call { callee := Go.Callee.value (Go.Operand.func 16), args := #[Go.Operand.tmp 62], argTypes := #[37] }, type := 25, pos := "exact.go:3041", after := #[{ on := 2, ground := Go.Ground.data }, { on := 1, ground := Go.Ground.chain }], guard := none }) rfl (fun K hK => ?_) AllReadyH.nil
    go_simp
    refine (toFact_below _ _ _ _ _).mono ?_; rintro e wt2 ⟨rfl, bt2⟩
    go_wp2_with fail
    refine hK.out _ _ ?_ (fun hHeld => ?_)
    · (try dsimp only); (refine ⟨?_, ?_, ?_, ?_⟩ <;> (repeat (first | with_reducible assumption | with_reducible refine keep_drew ?_ | with_reducible refine keep_below (by assumption) ?_)))
    clear hK K
    (try simp only [Act.put, List.setIfInBounds_toArray, List.set_cons_zero, List.set_cons_succ])
    refine wpAnyH_ready (rs := [4]) (by kernel_rfl) (by simp) ?_
    refine AllReadyH.cons (o := { dst := some 64, op := Go.Op.call { callee := Go.Callee.value (Go.Operand.func 7), args := #[Go.Operand.tmp 61, Go.Operand.tmp 63], argTypes := #[23, 25] }, type := 23, pos := "exact.go:3041", after := #[{ on := 1, ground := Go.Ground.data }, { on := 3, ground := Go.Ground.data }, { on := 3, ground := Go.Ground.chain }], guard := none }) rfl (fun K hK => ?_) AllReadyH.nil
    go_simp
    refine (cput_any _ len len F f _ ((tsl_row ft1).below bt2) hl').mono ?_; rintro e wt3 ⟨vt, rfl, ot, bt3⟩
    go_wp2_with fail
    refine hK.out _ _ ?_ (fun hHeld => ?_)
    · (try dsimp only); (refine ⟨?_, ?_, ?_, ?_⟩ <;> (repeat (first | with_reducible assumption | with_reducible refine keep_drew ?_ | with_reducible refine keep_below (by assumption) ?_)))
    clear hK K
    (try simp only [Act.put, List.setIfInBounds_toArray, List.set_cons_zero, List.set_cons_succ])
    refine wpAnyH_take (i := 5) (oi := { dst := some 12, op := Go.Op.assign (Go.Operand.tmp 64), type := 23, pos := "exact.go:3041", after := #[{ on := 4, ground := Go.Ground.data }, { on := 4, ground := Go.Ground.chain }, { on := 0, ground := Go.Ground.phase }, { on := 1, ground := Go.Ground.phase }, { on := 2, ground := Go.Ground.phase }, { on := 3, ground := Go.Ground.phase }, { on := 4, ground := Go.Ground.phase }], guard := none }) (v := ?_) rfl (by kernel_rfl) (by kernel_rfl) (by kernel_rfl) (fun _ _ _ h => h) (Or.inl ⟨by rfl, ?_⟩) (by assumption) ?_
    rotate_left 1
    · (intro w hSw; (try dsimp only at hSw); go_simp; try with_reducible rfl)
    (try simp only [Act.put, List.setIfInBounds_toArray, List.set_cons_zero, List.set_cons_succ])
    refine wpAnyH_done (by kernel_rfl) ?_ _
    rw [hT.out] at ot
    have B13 := btrans (btrans (btrans (QB1 B12) bt1) bt2) bt3
    replace om := own_below (own_below (own_below (show w12.drew.ownsRow _ _ _ _ _ _ from om) bt1) bt2) bt3
    replace oS := own_below (own_below (own_below (show w12.drew.ownsRow _ _ _ _ _ _ from oS) bt1) bt2) bt3
    obtain ⟨a2, c2, rfl, hc2, _, i2⟩ := own_facts ot
    clear bc0 bc1 bc2 bc3
    clear bt1 bt2 bt3 p12 ft1 get1 ot
    go_wp2_with fail
    obtain ⟨a0', c0', e0', _, _, i0⟩ := own_facts oS
    simp only [Value.slice.injEq, true_and] at e0'
    obtain ⟨rfl, rfl⟩ := e0'
    refine (eqItemS_same _ _ _ _ _ _ _ i2 i0 (by omega)).mono ?_
    rintro r w14 ⟨rfl, b14⟩
    have B14 := btrans B13 b14
    replace om := own_below om b14
    clear i0 i2 b14 oS
    go_wp2_with fail
    refine (heldF_any _ _ _ 1 _ (own_held om) (by omega) (by omega)).mono ?_
    rintro r w15 ⟨rfl, hw⟩
    obtain rfl := hw.symm
    rw [hK]
    clear hK om
    go_wp2
    go_ret
    exact ⟨rfl, B14⟩
end Go.Proofs.Ytbjffmhdjbdpcaa.I
