/- Drawn items: some list of items. -/
import Derived.Test.YthfafmafhodlkaaIInv
import Derived.Test.YthfafmafhodlkaaDrawTab
namespace Go.Proofs.Ythfafmafhodlkaa.I
open Go.ChangeShapes Go.WideShapes Go.ChangeAt Go.RowKit
attribute [local go_sem ↓] Go.wp_at_zero Go.wp_at_succ
theorem step_appF {w : World} {ops : Array Oper} {o : Oper} {a : Act} {K : Act → World → Prop} {Q : Exit → Act → World → Prop} {E : Prop} (hgd : o.guard = none) (s x : Operand)
    (ho : o.op = .call { callee := .builtin .append, args := #[s, x], argTypes := #[23, 23] })
    (base : Nat) (v : Value) (n : Nat) (T : List It) (hs : a.eval s = v) (hv : v ≠ .slice none 0 0) (hown : w.ownsRow base 36 5 v n (fl T))
    (ao : Option Addr) (g o' : Nat) (hao : ao = some ⟨g, o', none⟩) (m c : Nat) (T' : List It) (hx : a.eval x = .slice ao m c) (hl : T'.length = m)
    (hnews : ItemsIn w g o' m (fun k => T'.getD k It.zero)) (nm : Nat) (hnm : n + m = nm) (hn : nm ≤ 2000000) (hbase : base ≤ w.heap.size)
    (h : ∀ g' cap' w', w'.ownsRow base 36 5 (.slice (some ⟨g', 0, none⟩) nm cap') nm (fl (T ++ T')) → w.grownBy w' v.ownBlock → nm ≤ cap' → K (a.put o.dst (.slice (some ⟨g', 0, none⟩) nm cap')) w') :
    if Region.wanted o (yielded ops a.tmps) = true then Oper.wp Try.prog o a w K Q else E := by
  have hw : Region.wanted o (yielded ops a.tmps) = true := by simp [Region.wanted, hgd]
  rw [if_pos hw]
  subst hao hnm
  obtain ⟨ti, hi, hz0, hz1, hz2⟩ := info_parts info78
  refine wp_append_own w s x 23 ho base 36 ti (fval It.zero) 5 40 Try.underlying23 hi hz0 hz1 hz2 rfl (by decide) v n (fl T) hs hown ⟨g, o', none⟩ m c (fl T') hx (by rw [fl_len, hl]) (facts_cell hnews hl) fl_one (by unfold maxLen; omega) (by omega) hbase (fun v' w' h1 h2 h3 => ?_)
  rw [← fl_append] at h1
  rcases own_sliceF h1 with ⟨e, _⟩ | ⟨g', cap', rfl, _, _, hc⟩
  · exact absurd (h3.1 e).1 hv
  · exact h g' cap' w' h1 h2 hc
theorem own_types {w : World} {b1 b2 n n' : Nat} {v v' : Value} {xs xs' : List Value} (h : w.ownsRow b1 34 4 v n xs) (h' : w.ownsRow b2 36 5 v' n' xs') : v.ownBlock = none ∨ v.ownBlock ≠ v'.ownBlock := by
  rcases h.2 with ⟨rfl, _⟩ | ⟨g, cap, cur, rfl, _, hh, _⟩
  · exact .inl rfl
  · refine .inr fun e => ?_
    rcases h'.2 with ⟨rfl, _⟩ | ⟨g', cap', cur', rfl, _, hh', _⟩
    · simp [Value.ownBlock] at e
    · simp [Value.ownBlock] at e
      subst e
      rw [hh] at hh'
      simp at hh'
/-- some list of items -/
def ItPost (M : Nat) (D : Nat) (G : Cd) (B rb p : Nat) (w : World) (r : Ending) (w' : World) : Prop :=
  ∃ (a : Option Addr) (c : Nat) (T : List It) (q : Nat), r = .returned (.slice a T.length c) ∧ Value.slice a T.length c ≠ .slice none 0 0 ∧ w'.ownsRow w.heap.size 36 5 (.slice a T.length c) T.length (fl T) ∧ T.length ≤ M ∧ q ≤ p + D ∧ Rd G B rb q w' ∧ Off rb w w'
set_option maxRecDepth 20000 in
set_option maxHeartbeats 4000000 in
theorem items_any {G : Cd} (B rb p : Nat) (site : Int) (w : World) (h : Rd G B rb p w) (hp : p < 600000) (hs : site = -1 ∨ (0 ≤ site ∧ site ≤ 1)) :
    Calls Try.prog 35 #[.pointer (some ⟨rb, 0, none⟩), .int .i64 site] w (ItPost 6 310 G B rb p w) := by
  have hlt := h.lt
  have hle := h.le
  have E0 := own_emptyF w w.heap.size (Nat.le_refl _)
  have sz : (w.alloc (.cells #[] 36)).heap.size = w.heap.size + 1 := by simp
  have of0 : Off rb w (w.alloc (.cells #[] 36)) := (Off.refl rb w).alloc _
  have h0 := h.alloc (.cells #[] 36)
  go_enter Try.func35, Try.ntmps35
  go_wp2_with fail
  generalize (w.alloc (.cells #[] 36)) = W1 at *
  refine (table_any B rb p site _ h0 (by omega) hs).mono ?_
  rintro r w1 ⟨at', ct, T, q, rfl, hnt, ot, hA, hT, hq, r1, of1⟩
  have E1 := own_off E0 of1 hlt
  have of1' := of0.trans of1
  rw [sz] at ot
  clear E0 of0 h0 h hA of1 sz
  rcases Go.Proofs.Ythfafmafhodlkaa.own_sliceF ot with ⟨e, _⟩ | ⟨gt, cc, e, hg1, hg2, hg3⟩
  · exact absurd e hnt
  simp only [Value.slice.injEq, true_and] at e
  obtain ⟨rfl, rfl⟩ := e
  go_wp2_with fail
  go_loopw [5, 7] (fun v i wr => ∃ (k : Nat) (ax : Option Addr) (cx : Nat) (O : List It) (q' : Nat), i = .int .i64 k ∧ k ≤ T.length ∧ v = .slice ax k cx ∧ Hid (O.length = k) ∧ Value.slice ax k cx ≠ .slice none 0 0 ∧ wr.ownsRow w.heap.size 36 5 (.slice ax k cx) k (fl O) ∧ q' ≤ q + k ∧ Rd G B rb q' wr ∧ Off rb w wr ∧ wr.ownsRow (w.heap.size + 1) 34 4 (.slice (some ⟨gt, 0, none⟩) T.length ct) T.length (Go.Proofs.Ythfafmafhodlkaa.fl T)) (fun _ i _ => T.length - (intOf i).toNat)
  case atStart => exact ⟨0, _, 0, [], q, rfl, Nat.zero_le _, rfl, rfl, by simp, E1, by omega, r1, of1', ot⟩
  case round =>
    obtain ⟨k, ax, cx, O, q', rfl, hk, rfl, hO, hnx, hown, hq', hr, hof, hot⟩ := hrel
    clear E1 of1' r1 ot
    by_cases hlk : k < T.length
    · have i0 : (0 : Int) ≤ (k : Int) := by omega
      have i1 : (k : Int) < (T.length : Int) := by omega
      obtain ⟨t0, t1, t2, t3⟩ := Go.Proofs.Ythfafmafhodlkaa.fl_get T k hlk
      have c0 := (hot.cellAt (k * 4) (by omega)).trans t0
      have c1 := (hot.cellAt (k * 4 + 1) (by omega)).trans t1
      have c2 := (hot.cellAt (k * 4 + 2) (by omega)).trans t2
      have c3 := (hot.cellAt (k * 4 + 3) (by omega)).trans t3
      have ngt : gt ≠ rb := by omega
      clear t0 t1 t2 t3
      generalize T.getD k Fc.zero = f at *
      go_wp2_with fail
      refine wp_region_held_drew (S := fun w' => w'.cell? ⟨gt, k * 4, none⟩ = some (.int .i64 f.n) ∧ w'.cell? ⟨gt, k * 4 + 1, none⟩ = some (.int .i64 f.i) ∧ w'.cell? ⟨gt, k * 4 + 2, none⟩ = some (.int .i64 f.s) ∧ w'.cell? ⟨gt, k * 4 + 3, none⟩ = some (.bool f.g)) (by kernel_rfl) ?_ (fun hHeld => ?_)
      · exact ⟨keep_drew c0, keep_drew c1, keep_drew c2, keep_drew c3⟩
      refine wpAnyH_take (i := 0) (oi := { dst := some 18, op := Go.Op.move (Go.Operand.tmp 5), type := 23, pos := "l61_draw.go:344", after := #[], guard := none }) (v := ?_) rfl (by kernel_rfl) (by kernel_rfl) (by kernel_rfl) (fun _ _ _ h => h) (Or.inl ⟨by rfl, ?_⟩) (by assumption) ?_
      rotate_left 1
      · (intro w hSw; (try dsimp only at hSw); go_simp; try with_reducible rfl)
      (try simp only [Act.put, List.setIfInBounds_toArray, List.set_cons_zero, List.set_cons_succ])
      refine wpAnyH_take (i := 1) (oi := { dst := some 19, op := Go.Op.move (Go.Operand.tmp 6), type := 26, pos := "l61_draw.go:344", after := #[], guard := none }) (v := ?_) rfl (by kernel_rfl) (by kernel_rfl) (by kernel_rfl) (fun _ _ _ h => h) (Or.inl ⟨by rfl, ?_⟩) (by assumption) ?_
      rotate_left 1
      · (intro w hSw; (try dsimp only at hSw); go_simp; try with_reducible rfl)
      (try simp only [Act.put, List.setIfInBounds_toArray, List.set_cons_zero, List.set_cons_succ])
      refine wpAnyH_take (i := 2) (oi := { dst := some 20, op := Go.Op.move (Go.Operand.tmp 7), type := 3, pos := "l61_draw.go:344", after := #[], guard := none }) (v := ?_) rfl (by kernel_rfl) (by kernel_rfl) (by kernel_rfl) (fun _ _ _ h => h) (Or.inl ⟨by rfl, ?_⟩) (by assumption) ?_
      rotate_left 1
      · (intro w hSw; (try dsimp only at hSw); go_simp; try with_reducible rfl)
      (try simp only [Act.put, List.setIfInBounds_toArray, List.set_cons_zero, List.set_cons_succ])
      refine wpAnyH_take (i := 3) (oi := { dst := some 21, op := Go.Op.indexAddr 26 (Go.Operand.tmp 19) (Go.Operand.tmp 20), type := 0, pos := "l61_draw.go:344", after := #[{ on := 1, ground := Go.Ground.data }, { on := 2, ground := Go.Ground.data }], guard := none }) (v := ?_) rfl (by kernel_rfl) (by kernel_rfl) (by kernel_rfl) (fun _ _ _ h => h) (Or.inl ⟨by rfl, ?_⟩) (by assumption) ?_
      rotate_left 1
      · (intro w hSw; (try dsimp only at hSw); go_simp; try with_reducible rfl)
      (try simp only [Act.put, List.setIfInBounds_toArray, List.set_cons_zero, List.set_cons_succ])
      refine wpAnyH_take (i := 4) (oi := { dst := some 22, op := Go.Op.load 34 (Go.Operand.tmp 21), type := 34, pos := "l61_draw.go:344", after := #[{ on := 3, ground := Go.Ground.data }], guard := none }) (v := ?_) rfl (by kernel_rfl) (by kernel_rfl) (by kernel_rfl) (fun _ _ _ h => h) (Or.inl ⟨by rfl, ?_⟩) (by assumption) ?_
      rotate_left 1
      · (intro w hSw; (try dsimp only at hSw); go_simp; try with_reducible rfl)
      (try simp only [Act.put, List.setIfInBounds_toArray, List.set_cons_zero, List.set_cons_succ])
      refine wpAnyH_take (i := 5) (oi := { dst := some 23, op := Go.Op.move (Go.Operand.tmp 0), type := 44, pos := "l61_draw.go:344", after := #[], guard := none }) (v := ?_) rfl (by kernel_rfl) (by kernel_rfl) (by kernel_rfl) (fun _ _ _ h => h) (Or.inl ⟨by rfl, ?_⟩) (by assumption) ?_
      rotate_left 1
      · (intro w hSw; (try dsimp only at hSw); go_simp; try with_reducible rfl)
      (try simp only [Act.put, List.setIfInBounds_toArray, List.set_cons_zero, List.set_cons_succ])
      refine wpAnyH_ready (rs := [6]) (by kernel_rfl) (by simp) ?_
      refine AllReadyH.cons (o := { dst := some 24, op := Go.Op.call { callee := Go.Callee.value (Go.Operand.func 23), args := #[Go.Operand.tmp 23, Go.Operand.const (Go.Value.int Go.IntKind.i64 4)], argTypes := #[44, 3] }, type := 3, pos := "l61_draw.go:344", after := #[{ on := 5, ground := Go.Ground.data }], guard := none }) rfl (fun K hK => ?_) AllReadyH.nil
      go_simp
      refine (pick_any B rb q' 4 _ hr.drew (by omega)).mono ?_
      rintro r w2 ⟨rfl, ⟨z0, z1⟩, r2, as2⟩
      generalize G.pk q' 4 = z at *
      have z2 : z ≤ 3 := by omega
      clear z1
      have d0 := keep_aside as2 ngt (keep_drew c0)
      have d1 := keep_aside as2 ngt (keep_drew c1)
      have d2 := keep_aside as2 ngt (keep_drew c2)
      have d3 := keep_aside as2 ngt (keep_drew c3)
      have ot2 := own_off (show wr.drew.ownsRow _ _ _ _ _ _ from hot) as2.off (by omega)
      have oo2 := own_off (show wr.drew.ownsRow _ _ _ _ _ _ from hown) as2.off hlt
      have of2 := (Off.drew hof).trans as2.off
      clear as2 hr hot hown hof c0 c1 c2 c3
      go_wp2_with fail
      refine hK.out _ _ ?_ (fun hHeld => ?_)
      · (try dsimp only); exact ⟨d0, d1, d2, d3⟩
      clear hK K
      (try simp only [Act.put, List.setIfInBounds_toArray, List.set_cons_zero, List.set_cons_succ])
      refine wpAnyH_take (i := 7) (oi := { dst := some 25, op := Go.Op.binOp Go.BinOp.add 3 (Go.Operand.const (Go.Value.int Go.IntKind.i64 1)) (Go.Operand.tmp 24) 3, type := 3, pos := "l61_draw.go:344", after := #[{ on := 6, ground := Go.Ground.data }], guard := none }) (v := ?_) rfl (by kernel_rfl) (by kernel_rfl) (by kernel_rfl) (fun _ _ _ h => h) (Or.inl ⟨by rfl, ?_⟩) (by assumption) ?_
      rotate_left 1
      · (intro w hSw; (try dsimp only at hSw); go_simp; try with_reducible rfl)
      (try simp only [Act.put, List.setIfInBounds_toArray, List.set_cons_zero, List.set_cons_succ])
      generalize IntKind.i64.wrap (1 + z) = y at *
      refine wpAnyH_take (i := 8) (oi := { dst := some 26, op := Go.Op.build 36 #[(0, Go.Operand.tmp 22), (1, Go.Operand.tmp 25)], type := 36, pos := "l61_draw.go:344", after := #[{ on := 4, ground := Go.Ground.data }, { on := 7, ground := Go.Ground.data }], guard := none }) (v := ?_) rfl (by kernel_rfl) (by kernel_rfl) (by kernel_rfl) (fun _ _ _ h => h) (Or.inl ⟨by rfl, ?_⟩) (by assumption) ?_
      rotate_left 1
      · (intro w hSw; (try dsimp only at hSw); go_simp; try with_reducible rfl)
      (try simp only [Act.put, List.setIfInBounds_toArray, List.set_cons_zero, List.set_cons_succ])
      refine wpAnyH_ready (rs := [9]) (by kernel_rfl) (by simp) ?_
      refine AllReadyH.cons (o := { dst := some 27, op := Go.Op.buildSlice 23 1 #[(0, Go.Operand.tmp 26)], type := 23, pos := "l61_draw.go:344", after := #[{ on := 8, ground := Go.Ground.data }], guard := none }) rfl (fun K hK => ?_) AllReadyH.nil
      go_simp
      have nx := new_one w2 ⟨f.n, f.i, f.s, f.g, y⟩
      have e0 := keep_alloc (.cells #[.int .i64 f.n, .int .i64 f.i, .int .i64 f.s, .bool f.g, .int .i64 y] 36) d0
      have e1 := keep_alloc (.cells #[.int .i64 f.n, .int .i64 f.i, .int .i64 f.s, .bool f.g, .int .i64 y] 36) d1
      have e2 := keep_alloc (.cells #[.int .i64 f.n, .int .i64 f.i, .int .i64 f.s, .bool f.g, .int .i64 y] 36) d2
      have e3 := keep_alloc (.cells #[.int .i64 f.n, .int .i64 f.i, .int .i64 f.s, .bool f.g, .int .i64 y] 36) d3
      replace ot2 := ot2.alloc (.cells #[.int .i64 f.n, .int .i64 f.i, .int .i64 f.s, .bool f.g, .int .i64 y] 36)
      replace oo2 := oo2.alloc (.cells #[.int .i64 f.n, .int .i64 f.i, .int .i64 f.s, .bool f.g, .int .i64 y] 36)
      replace of2 := of2.alloc (.cells #[.int .i64 f.n, .int .i64 f.i, .int .i64 f.s, .bool f.g, .int .i64 y] 36)
      replace r2 := r2.alloc (.cells #[.int .i64 f.n, .int .i64 f.i, .int .i64 f.s, .bool f.g, .int .i64 y] 36)
      clear d0 d1 d2 d3
      refine hK.out _ _ ?_ (fun hHeld => ?_)
      · (try dsimp only); exact ⟨e0, e1, e2, e3⟩
      clear hK K
      (try simp only [Act.put, List.setIfInBounds_toArray, List.set_cons_zero, List.set_cons_succ])
      generalize hV : (w2.alloc (.cells #[.int .i64 f.n, .int .i64 f.i, .int .i64 f.s, .bool f.g, .int .i64 y] 36)) = V at *
      refine wpAnyH_ready (rs := [10]) (by kernel_rfl) (by simp) ?_
      refine AllReadyH.cons (o := { dst := some 28, op := Go.Op.call { callee := Go.Callee.builtin Go.Builtin.append, args := #[Go.Operand.tmp 18, Go.Operand.tmp 27], argTypes := #[23, 23] }, type := 23, pos := "l61_draw.go:344", after := #[{ on := 0, ground := Go.Ground.data }, { on := 9, ground := Go.Ground.data }, { on := 6, ground := Go.Ground.chain }], guard := none }) rfl (fun K hK => ?_) AllReadyH.nil
      refine step_appF (by rfl) _ _ (by rfl) w.heap.size (.slice ax k cx) k O (by rfl) hnx oo2 (some ⟨w2.heap.size, 0, none⟩) w2.heap.size 0 rfl 1 1 [⟨f.n, f.i, f.s, f.g, y⟩] (by rfl) rfl nx (k + 1) rfl (by omega) of2.size ?_
      intro g5 cap5 w5 o5 gr5 hc5
      have ne5 := own_types ot2 oo2
      have ot5 := ot2.kept gr5 ne5
      have hne5 : some gt ≠ (Value.slice ax k cx).ownBlock := by rcases ne5 with h | h; simp [Value.ownBlock] at h; exact h
      have g0 := gr5.cell e0 hne5
      have g1 := gr5.cell e1 hne5
      have g2 := gr5.cell e2 hne5
      have g3 := gr5.cell e3 hne5
      have of5 : Off rb w w5 := off_grown of2 gr5 (fun k hk => (oo2.lt k hk).1)
      have r5 : Rd G B rb (q' + 1) w5 := rd_grown r2 gr5 (fun k hk => by have := (oo2.lt k hk).1; omega)
      clear e0 e1 e2 e3 gr5 ot2 oo2 of2 r2 nx hV ne5 hne5
      refine hK.out _ _ ?_ (fun hHeld => ?_)
      · (try dsimp only); exact ⟨g0, g1, g2, g3⟩
      clear hK K
      (try simp only [Act.put, List.setIfInBounds_toArray, List.set_cons_zero, List.set_cons_succ])
      refine wpAnyH_take (i := 11) (oi := { dst := some 5, op := Go.Op.assign (Go.Operand.tmp 28), type := 23, pos := "l61_draw.go:344", after := #[{ on := 10, ground := Go.Ground.data }, { on := 10, ground := Go.Ground.chain }, { on := 0, ground := Go.Ground.phase }, { on := 1, ground := Go.Ground.phase }, { on := 2, ground := Go.Ground.phase }, { on := 3, ground := Go.Ground.phase }, { on := 4, ground := Go.Ground.phase }, { on := 5, ground := Go.Ground.phase }, { on := 6, ground := Go.Ground.phase }, { on := 7, ground := Go.Ground.phase }, { on := 8, ground := Go.Ground.phase }, { on := 9, ground := Go.Ground.phase }, { on := 10, ground := Go.Ground.phase }], guard := none }) (v := ?_) rfl (by kernel_rfl) (by kernel_rfl) (by kernel_rfl) (fun _ _ _ h => h) (Or.inl ⟨by rfl, ?_⟩) (by assumption) ?_
      rotate_left 1
      · (intro w hSw; (try dsimp only at hSw); go_simp; try with_reducible rfl)
      (try simp only [Act.put, List.setIfInBounds_toArray, List.set_cons_zero, List.set_cons_succ])
      refine wpAnyH_done (by kernel_rfl) ?_ _
      clear g0 g1 g2 g3
      have hO4 : (O ++ [(⟨f.n, f.i, f.s, f.g, y⟩ : It)]).length = k + 1 := by simp [hO.out]
      have hO5 : Hid ((O ++ [(⟨f.n, f.i, f.s, f.g, y⟩ : It)]).length = k + 1) := hO4
      clear hO4
      go_wp2
      go_roundw
      case rel => exact ⟨k + 1, some ⟨g5, 0, none⟩, cap5, O ++ [⟨f.n, f.i, f.s, f.g, y⟩], q' + 1, by go_num, by omega, rfl, hO5, by simp, o5, by omega, r5, of5, ot5⟩
      case measure => simp [intOf]; omega
    · have e : k = T.length := by omega
      go_wp2
      go_ret
      exact ⟨ax, cx, O, q', by rw [hO.out]; rfl, by rw [hO.out]; exact hnx, by rw [hO.out]; exact hown, by rw [hO.out]; omega, by omega, hr, hof⟩
end Go.Proofs.Ythfafmafhodlkaa.I
