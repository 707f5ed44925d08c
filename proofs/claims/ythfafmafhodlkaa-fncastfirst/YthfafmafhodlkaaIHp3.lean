/- The heap's own way of an item more and of the last one less. -/
import Derived.Test.YthfafmafhodlkaaIHp2
import Derived.Maps.AppendAt
namespace Go.Proofs.Ythfafmafhodlkaa.I
open Go.ChangeShapes Go.WideShapes Go.ChangeAt Go.RowKit
attribute [local go_sem ↓] Go.wp_at_zero Go.wp_at_succ
abbrev ival (x : It) : Value := .agg #[.int .i64 x.n, .int .i64 x.i, .int .i64 x.s, .bool x.g, .int .i64 x.l]
set_option maxRecDepth 20000 in
set_option maxHeartbeats 4000000 in
theorem hpop_any (base p : Nat) (H : List It) (x : It) (w : World) (h : HS w base p (H ++ [x])) (hn : H.length ≤ 1000) :
    Calls Try.prog 71 #[.pointer (some ⟨p, 0, none⟩)] w fun e w' => e = .returned (.iface 36 (ival x)) ∧ HS w' base p H ∧ Below base w w' := by
  obtain ⟨g, cap, hB, ho, hbp, hbw, hbg, hgp⟩ := h.at (by simp)
  have hl : (H ++ [x]).length = H.length + 1 := by simp
  rw [hl] at hB ho
  have hx : (H ++ [x])[H.length]? = some x := by simp
  obtain ⟨c0, c1, c2, c3, c4⟩ := row_at ho hx
  have hc := hB.cell
  have hf := hB.frozen
  have hp1 := ownsRow_pop (n := H.length) (fl_len H) (by rw [fl_append] at ho; exact ho)
  have k0 : (0 : Int) ≤ (H.length : Int) := by omega
  generalize H.length = n at *
  have k1 : ((n + 1 : Nat) : Int) - 1 = (n : Int) := by omega
  have k2 : (n : Int) < ((n + 1 : Nat) : Int) := by omega
  clear hx hl h
  go_enter Try.func71, Try.ntmps71
  have hB1 : Boxed (w.alloc (.cells #[.int .i64 x.n, .int .i64 x.i, .int .i64 x.s, .bool x.g, .int .i64 x.l] 36)) p 67 _ := hB.alloc _
  have hp2 := hp1.alloc (.cells #[.int .i64 x.n, .int .i64 x.i, .int .i64 x.s, .bool x.g, .int .i64 x.l] 36)
  have hn1 : (w.alloc (.cells #[.int .i64 x.n, .int .i64 x.i, .int .i64 x.s, .bool x.g, .int .i64 x.l] 36)).heap[w.heap.size]? = some (.cells #[.int .i64 x.n, .int .i64 x.i, .int .i64 x.s, .bool x.g, .int .i64 x.l] 36 (0, 0)) := World.alloc_heap_new w _
  have B1 : Below base w (w.alloc (.cells #[.int .i64 x.n, .int .i64 x.i, .int .i64 x.s, .bool x.g, .int .i64 x.l] 36)) := (Below.refl _ w).alloc hbw _
  have hz := Nat.le_trans hbw B1.size
  go_upto_region 3 with fail
  have hlt := hB.lt
  generalize (w.alloc (.cells #[.int .i64 x.n, .int .i64 x.i, .int .i64 x.s, .bool x.g, .int .i64 x.l] 36)) = w1 at *
  generalize w.heap.size = b1 at *
  clear hB ho c0 c1 c2 c3 c4 hc hf hp1
  have hc := hB1.cell
  have hf := hB1.frozen
  have hBs := hB1.set (.slice (some ⟨g, 0, none⟩) n cap)
  have gs := grownBy_setCell' w1 p (.slice (some ⟨g, 0, none⟩) n cap)
  have hn2 := (gs.block b1 (Array.getElem?_eq_some_iff.1 hn1).1 (by simp; omega)).trans hn1
  have B2 := low_trans B1 (below_grown gs hbp (Nat.le_trans hbw (Nat.le_of_lt (Array.getElem?_eq_some_iff.1 hn1).1)))
  have hp3 := hp2.kept gs (.inr (by simp [Value.ownBlock]; omega))
  have hcn : n ≤ cap := by rcases hp2.2 with ⟨h', _⟩ | ⟨_, _, _, h', _, _, hc', _⟩ <;> cases h'; exact hc'
  go_upto_region 4 with fail
  generalize w1.setCell ⟨p, 0, none⟩ (.slice (some ⟨g, 0, none⟩) n cap) = w2 at *
  have e0 := cell_block (o := 0) (v := .int .i64 x.n) hn2 rfl
  have e1 := cell_block (o := 1) (v := .int .i64 x.i) hn2 rfl
  have e2 := cell_block (o := 2) (v := .int .i64 x.s) hn2 rfl
  have e3 := cell_block (o := 3) (v := .bool x.g) hn2 rfl
  have e4 := cell_block (o := 4) (v := .int .i64 x.l) hn2 rfl
  go_wp2
  go_ret
  have hH : H.length = n := by have := hp3.1; rw [fl_len] at this; omega
  exact ⟨rfl, ⟨_, hBs, by rw [hH]; exact hp3, hbp, Nat.le_trans hz gs.size⟩, B2⟩
theorem infoI : (Try.prog.info? 36).map (fun i => (i.zero, i.size, i.bytes)) = some (some (fval It.zero), 5, 40) := by kernel_rfl
theorem step_appH {w : World} {ops : Array Oper} {o : Oper} {a : Act} {K : Act → World → Prop} {Q : Exit → Act → World → Prop} {E : Prop} (hgd : o.guard = none) (s x : Operand)
    (ho : o.op = .call { callee := .builtin .append, args := #[s, x], argTypes := #[67, 67] })
    (base : Nat) (v : Value) (n : Nat) (T : List It) (hs : a.eval s = v) (hown : w.ownsRow base 36 5 v n (fl T))
    (ao : Option Addr) (g o' : Nat) (hao : ao = some ⟨g, o', none⟩) (m c : Nat) (T' : List It) (hx : a.eval x = .slice ao (m + 1) c) (hl : T'.length = m + 1)
    (hnews : ItemsIn w g o' (m + 1) (fun k => T'.getD k It.zero)) (nm : Nat) (hnm : n + (m + 1) = nm) (hn : nm ≤ 2000000) (hbase : base ≤ w.heap.size)
    (h : ∀ g' cap' w', w'.ownsRow base 36 5 (.slice (some ⟨g', 0, none⟩) nm cap') nm (fl (T ++ T')) → w.grownBy w' v.ownBlock → nm ≤ cap' → K (a.put o.dst (.slice (some ⟨g', 0, none⟩) nm cap')) w') :
    if Region.wanted o (yielded ops a.tmps) = true then Oper.wp Try.prog o a w K Q else E := by
  have hw : Region.wanted o (yielded ops a.tmps) = true := by simp [Region.wanted, hgd]
  rw [if_pos hw]
  subst hao hnm
  obtain ⟨ti, hi, hz0, hz1, hz2⟩ := info_parts infoI
  refine wp_append_own w s x 67 ho base 36 ti (fval It.zero) 5 40 Try.underlying67 hi hz0 hz1 hz2 rfl (by decide) v n (fl T) hs hown ⟨g, o', none⟩ (m + 1) c (fl T') hx (by rw [fl_len, hl]) (facts_cell hnews hl) fl_one (by unfold maxLen; omega) (by omega) hbase (fun v' w' h1 h2 h3 => ?_)
  rw [← fl_append] at h1
  rcases own_sliceF h1 with ⟨_, e⟩ | ⟨g', cap', rfl, _, _, hc⟩
  · omega
  · exact h g' cap' w' h1 h2 hc
theorem row_low {w w' : World} {base n : Nat} {v : Value} {xs : List Value} (hg : w.grownBy w' v.ownBlock) (ho : w.ownsRow base 36 5 v n xs) (hs : base ≤ w.heap.size) : Below base w w' := ⟨hg.os, hg.tape, hg.output, hg.size, fun k hk => hg.block k (by omega) (fun e => by have := (ho.lt k e.symm).1; omega)⟩
set_option maxRecDepth 20000 in
set_option maxHeartbeats 4000000 in
theorem hpush_any (base p : Nat) (H : List It) (x : It) (w : World) (h : HS w base p H) (hn : H.length ≤ 1000) :
    Calls Try.prog 72 #[.pointer (some ⟨p, 0, none⟩), .iface 36 (ival x)] w fun e w' => (∃ v, e = .returned v) ∧ HS w' base p (H ++ [x]) ∧ Below base w w' := by
  obtain ⟨v, hB, ho, hbp, hbw⟩ := h
  have B0 : Below base w { w with drawn := w.drawn + 1 } := ⟨rfl, rfl, rfl, Nat.le_refl _, fun _ _ => rfl⟩
  replace hB : Boxed { w with drawn := w.drawn + 1 } p 67 v := hB
  replace ho : ({ w with drawn := w.drawn + 1 } : World).ownsRow base 36 5 v H.length (fl H) := ho
  replace hbw : base ≤ ({ w with drawn := w.drawn + 1 } : World).heap.size := hbw
  have hta : ∀ w, (Instr.typeAssert (.iface 36 (ival x)) 20 36 false).run Try.prog w = .ok (ival x) w := fun _ => by kernel_rfl
  go_enter Try.func72, Try.ntmps72
  refine wp_region_held (S := fun _ => True) (by kernel_rfl) ?_
  generalize ({ w with drawn := w.drawn + 1 } : World) = W at *
  have hc := hB.cell
  have nx := new_one W x
  have ho1 := ho.alloc (.cells #[.int .i64 x.n, .int .i64 x.i, .int .i64 x.s, .bool x.g, .int .i64 x.l] 36)
  have hB1 := hB.alloc (.cells #[.int .i64 x.n, .int .i64 x.i, .int .i64 x.s, .bool x.g, .int .i64 x.l] 36)
  have hc1 := hB1.cell
  have B1 : Below base w (W.alloc (.cells #[.int .i64 x.n, .int .i64 x.i, .int .i64 x.s, .bool x.g, .int .i64 x.l] 36)) := B0.alloc hbw _
  have hbz : base ≤ (W.alloc (.cells #[.int .i64 x.n, .int .i64 x.i, .int .i64 x.s, .bool x.g, .int .i64 x.l] 36)).heap.size := by simp; omega
  refine wpAnyH_take (i := 0) (oi := { dst := some 4, op := Go.Op.move (Go.Operand.tmp 0), type := 66, pos := "l5_cast.go:45", after := #[], guard := none }) (v := ?_) rfl (by kernel_rfl) (by kernel_rfl) (by kernel_rfl) (fun _ _ _ h => h) (Or.inl ⟨by rfl, ?_⟩) trivial ?_
  rotate_left 1
  · (intro w hSw; (try dsimp only at hSw); go_simp; try with_reducible rfl)
  (try simp only [Act.put, List.setIfInBounds_toArray, List.set_cons_zero, List.set_cons_succ])
  refine wpAnyH_take (i := 1) (oi := { dst := some 5, op := Go.Op.move (Go.Operand.tmp 0), type := 66, pos := "l5_cast.go:45", after := #[], guard := none }) (v := ?_) rfl (by kernel_rfl) (by kernel_rfl) (by kernel_rfl) (fun _ _ _ h => h) (Or.inl ⟨by rfl, ?_⟩) trivial ?_
  rotate_left 1
  · (intro w hSw; (try dsimp only at hSw); go_simp; try with_reducible rfl)
  (try simp only [Act.put, List.setIfInBounds_toArray, List.set_cons_zero, List.set_cons_succ])
  refine wpAnyH_take (i := 2) (oi := { dst := some 6, op := Go.Op.nilCheck (Go.Operand.tmp 5), type := 0, pos := "l5_cast.go:45", after := #[{ on := 1, ground := Go.Ground.data }], guard := none }) (v := ?_) rfl (by kernel_rfl) (by kernel_rfl) (by kernel_rfl) (fun _ _ _ h => h) (Or.inl ⟨by rfl, ?_⟩) trivial ?_
  rotate_left 1
  · (intro w hSw; (try dsimp only at hSw); go_simp; try with_reducible rfl)
  (try simp only [Act.put, List.setIfInBounds_toArray, List.set_cons_zero, List.set_cons_succ])
  refine wpAnyH_take (i := 4) (oi := { dst := some 8, op := Go.Op.move (Go.Operand.tmp 1), type := 20, pos := "l5_cast.go:45", after := #[], guard := none }) (v := ?_) rfl (by kernel_rfl) (by kernel_rfl) (by kernel_rfl) (fun _ _ _ h => h) (Or.inl ⟨by rfl, ?_⟩) trivial ?_
  rotate_left 1
  · (intro w hSw; (try dsimp only at hSw); go_simp; try with_reducible rfl)
  (try simp only [Act.put, List.setIfInBounds_toArray, List.set_cons_zero, List.set_cons_succ])
  refine wpAnyH_take (i := 5) (oi := { dst := some 9, op := Go.Op.typeAssert (Go.Operand.tmp 8) 20 36 false, type := 36, pos := "l5_cast.go:45", after := #[{ on := 4, ground := Go.Ground.data }], guard := none }) (v := ?_) rfl (by kernel_rfl) (by kernel_rfl) (by kernel_rfl) (fun _ _ _ h => h) (Or.inl ⟨by rfl, ?_⟩) trivial ?_
  rotate_left 1
  · (intro w hSw; (try dsimp only at hSw); go_simp; try with_reducible rfl)
  (try simp only [Act.put, List.setIfInBounds_toArray, List.set_cons_zero, List.set_cons_succ])
  refine wpAnyH_ready (rs := [3, 6]) (by kernel_rfl) (by simp) ?_
  refine AllReadyH.cons (o := { dst := some 7, op := Go.Op.load 67 (Go.Operand.tmp 6), type := 67, pos := "l5_cast.go:45", after := #[{ on := 2, ground := Go.Ground.data }], guard := none }) rfl (fun K hK => ?_) (AllReadyH.cons (o := { dst := some 10, op := Go.Op.buildSlice 67 1 #[(0, Go.Operand.tmp 9)], type := 67, pos := "l5_cast.go:45", after := #[{ on := 5, ground := Go.Ground.data }], guard := none }) rfl (fun K hK => ?_) AllReadyH.nil)
  · go_simp
    refine hK.out _ _ trivial (fun _ => ?_)
    clear hK K
    (try simp only [Act.put, List.setIfInBounds_toArray, List.set_cons_zero, List.set_cons_succ])
    refine wpAnyH_ready (rs := [6]) (by kernel_rfl) (by simp) ?_
    refine AllReadyH.cons (o := { dst := some 10, op := Go.Op.buildSlice 67 1 #[(0, Go.Operand.tmp 9)], type := 67, pos := "l5_cast.go:45", after := #[{ on := 5, ground := Go.Ground.data }], guard := none }) rfl (fun K hK => ?_) AllReadyH.nil
    go_simp
    refine hK.out _ _ trivial (fun _ => ?_)
    clear hK K
    (try simp only [Act.put, List.setIfInBounds_toArray, List.set_cons_zero, List.set_cons_succ])
    generalize W.alloc (.cells #[.int .i64 x.n, .int .i64 x.i, .int .i64 x.s, .bool x.g, .int .i64 x.l] 36) = W1 at *
    generalize W.heap.size = b1 at *
    refine wpAnyH_ready (rs := [7]) (by kernel_rfl) (by simp) ?_
    refine AllReadyH.cons (o := { dst := some 11, op := Go.Op.call { callee := Go.Callee.builtin Go.Builtin.append, args := #[Go.Operand.tmp 7, Go.Operand.tmp 10], argTypes := #[67, 67] }, type := 67, pos := "l5_cast.go:45", after := #[{ on := 3, ground := Go.Ground.data }, { on := 6, ground := Go.Ground.data }], guard := none }) rfl (fun K hK => ?_) AllReadyH.nil
    refine step_appH (by rfl) _ _ (by rfl) base v H.length H (by rfl) ho1 (some ⟨b1, 0, none⟩) b1 0 rfl 0 1 [x] (by rfl) rfl nx (H.length + 1) rfl (by omega) hbz (fun g' cap' W2 ho2 g2 hc2 => ?_)
    refine hK.out _ _ trivial (fun _ => ?_)
    clear hK K
    (try simp only [Act.put, List.setIfInBounds_toArray, List.set_cons_zero, List.set_cons_succ])
    have hB2 : Boxed W2 p 67 v := hB1.kept g2 (hB1.not_row (e := 36) (by decide) ho1)
    have hf2 := hB2.frozen
    have hcc2 := hB2.cell
    have hBs := hB2.set (.slice (some ⟨g', 0, none⟩) (H.length + 1) cap')
    have gs := grownBy_setCell' W2 p (.slice (some ⟨g', 0, none⟩) (H.length + 1) cap')
    have ho3 := ho2.kept gs (.inr (Ne.symm (hB2.not_row (e := 36) (by decide) ho2)))
    have B2 := low_trans B1 (row_low g2 ho1 hbz)
    have B3 := low_trans B2 (below_grown gs hbp (Nat.le_trans hbz g2.size))
    refine wpAnyH_take (i := 8) (oi := { dst := some 12, op := Go.Op.nilCheck (Go.Operand.tmp 4), type := 0, pos := "l5_cast.go:45", after := #[{ on := 0, ground := Go.Ground.data }, { on := 0, ground := Go.Ground.phase }, { on := 1, ground := Go.Ground.phase }, { on := 2, ground := Go.Ground.phase }, { on := 3, ground := Go.Ground.phase }, { on := 4, ground := Go.Ground.phase }, { on := 5, ground := Go.Ground.phase }, { on := 6, ground := Go.Ground.phase }, { on := 7, ground := Go.Ground.phase }], guard := none }) (v := ?_) rfl (by kernel_rfl) (by kernel_rfl) (by kernel_rfl) (fun _ _ _ h => h) (Or.inl ⟨by rfl, ?_⟩) trivial ?_
    rotate_left 1
    · (intro w hSw; (try dsimp only at hSw); go_simp; try with_reducible rfl)
    (try simp only [Act.put, List.setIfInBounds_toArray, List.set_cons_zero, List.set_cons_succ])
    refine wpAnyH_ready (rs := [9]) (by kernel_rfl) (by simp) ?_
    refine AllReadyH.cons (o := { dst := none, op := Go.Op.store 67 (Go.Operand.tmp 12) (Go.Operand.tmp 11), type := 0, pos := "l5_cast.go:45", after := #[{ on := 8, ground := Go.Ground.data }, { on := 7, ground := Go.Ground.data }, { on := 7, ground := Go.Ground.chain }, { on := 0, ground := Go.Ground.phase }, { on := 1, ground := Go.Ground.phase }, { on := 2, ground := Go.Ground.phase }, { on := 3, ground := Go.Ground.phase }, { on := 4, ground := Go.Ground.phase }, { on := 5, ground := Go.Ground.phase }, { on := 6, ground := Go.Ground.phase }, { on := 7, ground := Go.Ground.phase }], guard := none }) rfl (fun K hK => ?_) AllReadyH.nil
    go_simp
    refine hK.out _ _ trivial (fun _ => ?_)
    clear hK K
    (try simp only [Act.put, List.setIfInBounds_toArray, List.set_cons_zero, List.set_cons_succ])
    refine wpAnyH_done (by kernel_rfl) ?_ _
    go_end0
    exact ⟨⟨_, rfl⟩, ⟨_, hBs, by simpa using ho3, hbp, Nat.le_trans hbz (Nat.le_trans g2.size gs.size)⟩, B3⟩
  · go_simp
    refine hK.out _ _ trivial (fun _ => ?_)
    clear hK K
    (try simp only [Act.put, List.setIfInBounds_toArray, List.set_cons_zero, List.set_cons_succ])
    refine wpAnyH_ready (rs := [3]) (by kernel_rfl) (by simp) ?_
    refine AllReadyH.cons (o := { dst := some 7, op := Go.Op.load 67 (Go.Operand.tmp 6), type := 67, pos := "l5_cast.go:45", after := #[{ on := 2, ground := Go.Ground.data }], guard := none }) rfl (fun K hK => ?_) AllReadyH.nil
    go_simp
    refine hK.out _ _ trivial (fun _ => ?_)
    clear hK K
    (try simp only [Act.put, List.setIfInBounds_toArray, List.set_cons_zero, List.set_cons_succ])
    generalize W.alloc (.cells #[.int .i64 x.n, .int .i64 x.i, .int .i64 x.s, .bool x.g, .int .i64 x.l] 36) = W1 at *
    generalize W.heap.size = b1 at *
    refine wpAnyH_ready (rs := [7]) (by kernel_rfl) (by simp) ?_
    refine AllReadyH.cons (o := { dst := some 11, op := Go.Op.call { callee := Go.Callee.builtin Go.Builtin.append, args := #[Go.Operand.tmp 7, Go.Operand.tmp 10], argTypes := #[67, 67] }, type := 67, pos := "l5_cast.go:45", after := #[{ on := 3, ground := Go.Ground.data }, { on := 6, ground := Go.Ground.data }], guard := none }) rfl (fun K hK => ?_) AllReadyH.nil
    refine step_appH (by rfl) _ _ (by rfl) base v H.length H (by rfl) ho1 (some ⟨b1, 0, none⟩) b1 0 rfl 0 1 [x] (by rfl) rfl nx (H.length + 1) rfl (by omega) hbz (fun g' cap' W2 ho2 g2 hc2 => ?_)
    refine hK.out _ _ trivial (fun _ => ?_)
    clear hK K
    (try simp only [Act.put, List.setIfInBounds_toArray, List.set_cons_zero, List.set_cons_succ])
    have hB2 : Boxed W2 p 67 v := hB1.kept g2 (hB1.not_row (e := 36) (by decide) ho1)
    have hf2 := hB2.frozen
    have hcc2 := hB2.cell
    have hBs := hB2.set (.slice (some ⟨g', 0, none⟩) (H.length + 1) cap')
    have gs := grownBy_setCell' W2 p (.slice (some ⟨g', 0, none⟩) (H.length + 1) cap')
    have ho3 := ho2.kept gs (.inr (Ne.symm (hB2.not_row (e := 36) (by decide) ho2)))
    have B2 := low_trans B1 (row_low g2 ho1 hbz)
    have B3 := low_trans B2 (below_grown gs hbp (Nat.le_trans hbz g2.size))
    refine wpAnyH_take (i := 8) (oi := { dst := some 12, op := Go.Op.nilCheck (Go.Operand.tmp 4), type := 0, pos := "l5_cast.go:45", after := #[{ on := 0, ground := Go.Ground.data }, { on := 0, ground := Go.Ground.phase }, { on := 1, ground := Go.Ground.phase }, { on := 2, ground := Go.Ground.phase }, { on := 3, ground := Go.Ground.phase }, { on := 4, ground := Go.Ground.phase }, { on := 5, ground := Go.Ground.phase }, { on := 6, ground := Go.Ground.phase }, { on := 7, ground := Go.Ground.phase }], guard := none }) (v := ?_) rfl (by kernel_rfl) (by kernel_rfl) (by kernel_rfl) (fun _ _ _ h => h) (Or.inl ⟨by rfl, ?_⟩) trivial ?_
    rotate_left 1
    · (intro w hSw; (try dsimp only at hSw); go_simp; try with_reducible rfl)
    (try simp only [Act.put, List.setIfInBounds_toArray, List.set_cons_zero, List.set_cons_succ])
    refine wpAnyH_ready (rs := [9]) (by kernel_rfl) (by simp) ?_
    refine AllReadyH.cons (o := { dst := none, op := Go.Op.store 67 (Go.Operand.tmp 12) (Go.Operand.tmp 11), type := 0, pos := "l5_cast.go:45", after := #[{ on := 8, ground := Go.Ground.data }, { on := 7, ground := Go.Ground.data }, { on := 7, ground := Go.Ground.chain }, { on := 0, ground := Go.Ground.phase }, { on := 1, ground := Go.Ground.phase }, { on := 2, ground := Go.Ground.phase }, { on := 3, ground := Go.Ground.phase }, { on := 4, ground := Go.Ground.phase }, { on := 5, ground := Go.Ground.phase }, { on := 6, ground := Go.Ground.phase }, { on := 7, ground := Go.Ground.phase }], guard := none }) rfl (fun K hK => ?_) AllReadyH.nil
    go_simp
    refine hK.out _ _ trivial (fun _ => ?_)
    clear hK K
    (try simp only [Act.put, List.setIfInBounds_toArray, List.set_cons_zero, List.set_cons_succ])
    refine wpAnyH_done (by kernel_rfl) ?_ _
    go_end0
    exact ⟨⟨_, rfl⟩, ⟨_, hBs, by simpa using ho3, hbp, Nat.le_trans hbz (Nat.le_trans g2.size gs.size)⟩, B3⟩
end Go.Proofs.Ythfafmafhodlkaa.I
