/- The middle one, the model's way. -/
import Derived.Test.YtgjnpkfbbgpmaaaMed
import Derived.Laws.AppendOwn
namespace Go.Proofs.Ytgjnpkfbbgpmaaa
open Go.ChangeShapes Go.WideShapes Go.ChangeAt Go.RowKit
attribute [local go_sem ↓] Go.wp_at_zero Go.wp_at_succ
theorem isr_cong (f f' : Nat → Int) : ∀ n, (∀ j, j < n → f j = f' j) → isr f n = isr f' n
  | 0, _ => rfl
  | n + 1, h => by rw [isr, isr, h n (by omega), isr_cong f f' n (fun j hj => h j (by omega))]
theorem QB1 {a w : World} (h : Below a.heap.size a w) : Below a.heap.size a w.drew := ⟨h.os, h.tape, h.output, h.size, h.block⟩
theorem keep_grown {w w' : World} {r b o : Nat} {v : Value} (hg : w.grownBy w' (some r)) (hb : b ≠ r) (h : w.cell? ⟨b, o, none⟩ = some v) : w'.cell? ⟨b, o, none⟩ = some v := hg.cell h (by simpa using hb)
theorem step_app {w : World} {ops : Array Oper} {o : Oper} {a : Act} {K : Act → World → Prop} {Q : Exit → Act → World → Prop} {E : Prop} (hgd : o.guard = none) (s x : Operand)
    (ho : o.op = .call { callee := .builtin .append, args := #[s, x], argTypes := #[23, 23] })
    (base : Nat) (v : Value) (n : Nat) (L : List Int) (hs : a.eval s = v) (hv : v ≠ .slice none 0 0) (hown : w.ownsRow base 3 1 v n (lv L))
    (ao : Option Addr) (g o' : Nat) (hao : ao = some ⟨g, o', none⟩) (m c : Nat) (L' : List Int) (hx : a.eval x = .slice ao m c) (hl : L'.length = m)
    (hnews : ∀ j, j < m → w.cell? ⟨g, o' + j, none⟩ = some (.int .i64 (L'.getD j 0))) (nm : Nat) (hnm : n + m = nm) (hn : nm ≤ 100) (hbase : base ≤ w.heap.size)
    (h : ∀ g' cap' w', w'.ownsRow base 3 1 (.slice (some ⟨g', 0, none⟩) nm cap') nm (lv (L ++ L')) → w.grownBy w' v.ownBlock → nm ≤ cap' → K (a.put o.dst (.slice (some ⟨g', 0, none⟩) nm cap')) w') :
    if Region.wanted o (yielded ops a.tmps) = true then Oper.wp Try.prog o a w K Q else E := by
  have hw : Region.wanted o (yielded ops a.tmps) = true := by simp [Region.wanted, hgd]
  rw [if_pos hw]
  subst hao hnm
  obtain ⟨ti, hi, hz0, hz1, hz2⟩ := info_parts info3
  refine wp_append_own w s x 23 ho base 3 ti (.int .i64 0) 1 8 Try.underlying23 hi hz0 hz1 hz2 rfl (by decide) v n (lv L) hs hown ⟨g, o', none⟩ m c (lv L') hx (by simp [lv, hl]) (fun j u hj => ?_) (fun u hu => ?_) (by unfold maxLen; omega) (by omega) hbase (fun v' w' h1 h2 h3 => ?_)
  · have hj' : j < m := by
      have := (List.getElem?_eq_some_iff.1 hj).1
      simp [lv] at this
      omega
    have e : (⟨g, o', none⟩ : Addr).add j = ⟨g, o' + j, none⟩ := by unfold Addr.add; split <;> simp_all
    rw [e, hnews j hj', ← hj]
    simp [lv, List.getD, show j < L'.length by omega]
  · obtain ⟨y, _, rfl⟩ := List.mem_map.1 hu
    rfl
  · rw [← show lv (L ++ L') = lv L ++ lv L' by simp [lv]] at h1
    obtain ⟨g', cap', rfl, _, _, hc, _⟩ := Lib.holds_of_ownsRow (enc := Value.int .i64) (zs := L ++ L') h1 (fun e => hv (h3.1 e).1)
    exact h g' cap' w' h1 h2 hc
set_option maxHeartbeats 4000000 in
theorem smed_big (m b off cap : Nat) (f : Nat → Int) (w : World) (h : IntsIn w b off (m + 3) f) (hbl : b < w.heap.size) (hm : 0 < m) (hl : m + 3 ≤ 1048576) (hc : m + 3 ≤ cap) :
    Calls Try.prog 6 #[.slice (some ⟨b, off, none⟩) (m + 3) cap] w fun e w' => e = .returned (.int .i64 (med (m + 3) f)) ∧ Below w.heap.size w w' := by
  obtain ⟨ti, hi, hz0, hz1, hz2⟩ := info_parts info3
  have h' : IntsIn w b (off + m) 3 (sf f m) := fun k hk => by have := h (m + k) (by omega); simp only [sf]; rw [← this]; congr 2; omega
  have hmd : Hid (med (m + 3) f = (isr (sf f m) 3).getD 1 0) := by unfold Hid med; rw [show m + 3 - 3 = m by omega, show min (m + 3) 3 = 3 by omega]
  clear h
  have i0 : ¬ (cap = m) := by omega
  have i1 : IntKind.i64.wrap (((m + 3 : Nat) : Int) - 3) = (m : Int) := by rw [IntKind.wrap_i64]; omega
  have i2 : (0 : Int) ≤ (m : Int) := by omega
  have i3 : (3 : Int) < (m : Int) + 3 := by omega
  go_enter Try.func6, Try.ntmps6
  go_wp2_with fail
  go_loopw [4, 5, 6] (fun v iv _ wr => ∃ i : Nat, i ≤ 3 ∧ iv = .int .i64 i ∧ (∃ g cv, v = .slice (some ⟨g, 0, none⟩) i cv ∧ i ≤ cv ∧ wr.ownsRow w.heap.size 3 1 (.slice (some ⟨g, 0, none⟩) i cv) i (lv (isr (sf f m) i))) ∧ Below w.heap.size w wr) (fun _ iv _ _ => 3 - (intOf iv).toNat)
  case atStart => exact ⟨0, by omega, rfl, ⟨_, 0, rfl, Nat.le_refl _, World.ownsRow_lit w #[] 0 (Nat.le_refl _) (by unfold maxLen; omega) rfl⟩, balloc _ (Below.refl _ _)⟩
  case round =>
    obtain ⟨i, hin, rfl, ⟨g, cv, rfl, hcv, hown⟩, hb⟩ := hrel
    by_cases hlt : i < 3
    · have hf := h'
      have i4 : (i : Int) < (3 : Int) := by omega
      have i5 : (0 : Int) ≤ (i : Int) := by omega
      have c0 := (hf.below hb hbl) i hlt
      go_wp2_with fail
      go_loopw [6] (fun kv wr2 => ∃ k : Nat, k ≤ i ∧ kv = .int .i64 k ∧ wr2.ownsRow w.heap.size 3 1 (.slice (some ⟨g, 0, none⟩) i cv) i (lv (isr (sf f m) i)) ∧ Below w.heap.size w wr2 ∧ ∀ j, j < k → (isr (sf f m) i).getD j 0 ≤ (sf f m) i) (fun kv _ => i - (intOf kv).toNat)
      case atStart => exact ⟨0, by omega, rfl, hown, hb, fun j hj => by omega⟩
      case round =>
        obtain ⟨k, hki, rfl, own2, hb2, hall⟩ := hrel
        clear hown hb c0
        have d0 := (hf.below hb2 hbl) i hlt
        have i6 : (0 : Int) ≤ (k : Int) := by omega
        by_cases hlk : k < i
        · obtain ⟨X, hX⟩ : ∃ X, Hid (X = (isr (sf f m) i).getD k 0) := ⟨_, rfl⟩
          have e0 := own_at own2 k hlk
          rw [← hX.out] at e0
          have i7 : (k : Int) < (i : Int) := by omega
          go_wp2_with fail
          go_quiet (fail)
          by_cases hle : X ≤ (sf f m) i
          · go_wp2
            go_roundw
            case rel => exact ⟨k + 1, by omega, by go_num, own2, QB hb2, fun j hj => by
              by_cases e : j = k
              · subst e; rw [← hX.out]; exact hle
              · exact hall j (by omega)⟩
            case measure => simp [intOf]; omega
          · have hk : Hid (k = lead ((sf f m) i) (isr (sf f m) i)) := lead_of ((sf f m) i) (isr (sf f m) i) k (by rw [isr_len]; omega) hall (fun _ => by rw [← hX.out]; omega)
            clear e0
            go_wp2_with fail
            have own3 : (wr.drewN nq).ownsRow w.heap.size 3 1 (.slice (some ⟨g, 0, none⟩) i cv) i (lv (isr (sf f m) i)) := own2
            have hb3 : Below w.heap.size w (wr.drewN nq) := QB hb2
            have d3 : (wr.drewN nq).cell? ⟨b, (off + m) + i, none⟩ = some (.int .i64 ((sf f m) i)) := d0
            clear own2 hb2 d0 hall
            generalize (wr.drewN nq) = W at *
            have k7 : (k : Int) ≤ (i : Int) := by omega
            have k9 : k ≤ cv := by omega
            have hgW : g < W.heap.size := ((own3.lt g rfl).2)
            have hcs : ∀ j, j < i → W.cell? ⟨g, j, none⟩ = some (.int .i64 ((isr (sf f m) i).getD j 0)) := fun j hj => own_at own3 j hj
            refine wp_region_held_drew (S := fun w' => w'.cell? ⟨b, (off + m) + i, none⟩ = some (.int .i64 ((sf f m) i))) (by kernel_rfl) ?_ (fun hHeld => ?_)
            · (try dsimp only); exact d3
            refine wpAnyH_take (i := 1) (oi := { dst := some 41, op := Go.Op.move (Go.Operand.tmp 4), type := 23, pos := "l2_coord.go:92", after := #[], guard := none }) (v := ?_) rfl (by kernel_rfl) (by kernel_rfl) (by kernel_rfl) (fun _ _ _ h => h) (Or.inl ⟨by rfl, ?_⟩) (by assumption) ?_
            rotate_left 1
            · (intro w hSw; (try dsimp only at hSw); go_simp; try with_reducible rfl)
            (try simp only [Act.put, List.setIfInBounds_toArray, List.set_cons_zero, List.set_cons_succ])
            refine wpAnyH_take (i := 2) (oi := { dst := some 42, op := Go.Op.move (Go.Operand.tmp 6), type := 3, pos := "l2_coord.go:92", after := #[], guard := none }) (v := ?_) rfl (by kernel_rfl) (by kernel_rfl) (by kernel_rfl) (fun _ _ _ h => h) (Or.inl ⟨by rfl, ?_⟩) (by assumption) ?_
            rotate_left 1
            · (intro w hSw; (try dsimp only at hSw); go_simp; try with_reducible rfl)
            (try simp only [Act.put, List.setIfInBounds_toArray, List.set_cons_zero, List.set_cons_succ])
            refine wpAnyH_take (i := 3) (oi := { dst := some 43, op := Go.Op.slice 23 (Go.Operand.tmp 41) none (some (Go.Operand.tmp 42)) none, type := 23, pos := "l2_coord.go:92", after := #[{ on := 1, ground := Go.Ground.data }, { on := 2, ground := Go.Ground.data }], guard := none }) (v := ?_) rfl (by kernel_rfl) (by kernel_rfl) (by kernel_rfl) (fun _ _ _ h => h) (Or.inl ⟨by rfl, ?_⟩) (by assumption) ?_
            rotate_left 1
            · (intro w hSw; (try dsimp only at hSw); go_simp; try with_reducible rfl)
            (try simp only [Act.put, List.setIfInBounds_toArray, List.set_cons_zero, List.set_cons_succ])
            refine wpAnyH_take (i := 5) (oi := { dst := some 45, op := Go.Op.move (Go.Operand.tmp 3), type := 23, pos := "l2_coord.go:92", after := #[], guard := none }) (v := ?_) rfl (by kernel_rfl) (by kernel_rfl) (by kernel_rfl) (fun _ _ _ h => h) (Or.inl ⟨by rfl, ?_⟩) (by assumption) ?_
            rotate_left 1
            · (intro w hSw; (try dsimp only at hSw); go_simp; try with_reducible rfl)
            (try simp only [Act.put, List.setIfInBounds_toArray, List.set_cons_zero, List.set_cons_succ])
            refine wpAnyH_take (i := 6) (oi := { dst := some 46, op := Go.Op.move (Go.Operand.tmp 5), type := 3, pos := "l2_coord.go:92", after := #[], guard := none }) (v := ?_) rfl (by kernel_rfl) (by kernel_rfl) (by kernel_rfl) (fun _ _ _ h => h) (Or.inl ⟨by rfl, ?_⟩) (by assumption) ?_
            rotate_left 1
            · (intro w hSw; (try dsimp only at hSw); go_simp; try with_reducible rfl)
            (try simp only [Act.put, List.setIfInBounds_toArray, List.set_cons_zero, List.set_cons_succ])
            refine wpAnyH_take (i := 7) (oi := { dst := some 47, op := Go.Op.indexAddr 23 (Go.Operand.tmp 45) (Go.Operand.tmp 46), type := 0, pos := "l2_coord.go:92", after := #[{ on := 5, ground := Go.Ground.data }, { on := 6, ground := Go.Ground.data }], guard := none }) (v := ?_) rfl (by kernel_rfl) (by kernel_rfl) (by kernel_rfl) (fun _ _ _ h => h) (Or.inl ⟨by rfl, ?_⟩) (by assumption) ?_
            rotate_left 1
            · (intro w hSw; (try dsimp only at hSw); go_simp; try with_reducible rfl)
            (try simp only [Act.put, List.setIfInBounds_toArray, List.set_cons_zero, List.set_cons_succ])
            refine wpAnyH_take (i := 8) (oi := { dst := some 48, op := Go.Op.load 3 (Go.Operand.tmp 47), type := 3, pos := "l2_coord.go:92", after := #[{ on := 7, ground := Go.Ground.data }], guard := none }) (v := ?_) rfl (by kernel_rfl) (by kernel_rfl) (by kernel_rfl) (fun _ _ _ h => h) (Or.inl ⟨by rfl, ?_⟩) (by assumption) ?_
            rotate_left 1
            · (intro w hSw; (try dsimp only at hSw); go_simp; try with_reducible rfl)
            (try simp only [Act.put, List.setIfInBounds_toArray, List.set_cons_zero, List.set_cons_succ])
            refine wpAnyH_take (i := 11) (oi := { dst := some 51, op := Go.Op.move (Go.Operand.tmp 4), type := 23, pos := "l2_coord.go:92", after := #[], guard := none }) (v := ?_) rfl (by kernel_rfl) (by kernel_rfl) (by kernel_rfl) (fun _ _ _ h => h) (Or.inl ⟨by rfl, ?_⟩) (by assumption) ?_
            rotate_left 1
            · (intro w hSw; (try dsimp only at hSw); go_simp; try with_reducible rfl)
            (try simp only [Act.put, List.setIfInBounds_toArray, List.set_cons_zero, List.set_cons_succ])
            refine wpAnyH_take (i := 12) (oi := { dst := some 52, op := Go.Op.move (Go.Operand.tmp 6), type := 3, pos := "l2_coord.go:92", after := #[], guard := none }) (v := ?_) rfl (by kernel_rfl) (by kernel_rfl) (by kernel_rfl) (fun _ _ _ h => h) (Or.inl ⟨by rfl, ?_⟩) (by assumption) ?_
            rotate_left 1
            · (intro w hSw; (try dsimp only at hSw); go_simp; try with_reducible rfl)
            (try simp only [Act.put, List.setIfInBounds_toArray, List.set_cons_zero, List.set_cons_succ])
            refine wpAnyH_take (i := 13) (oi := { dst := some 53, op := Go.Op.slice 23 (Go.Operand.tmp 51) (some (Go.Operand.tmp 52)) none none, type := 23, pos := "l2_coord.go:92", after := #[{ on := 11, ground := Go.Ground.data }, { on := 12, ground := Go.Ground.data }], guard := none }) (v := ?_) rfl (by kernel_rfl) (by kernel_rfl) (by kernel_rfl) (fun _ _ _ h => h) (Or.inl ⟨by rfl, ?_⟩) (by assumption) ?_
            rotate_left 1
            · (intro w hSw; (try dsimp only at hSw); go_simp; try with_reducible rfl)
            (try simp only [Act.put, List.setIfInBounds_toArray, List.set_cons_zero, List.set_cons_succ])
            refine wpAnyH_ready (rs := [0, 9]) (by kernel_rfl) (by simp) ?_
            refine AllReadyH.cons (o := { dst := some 40, op := Go.Op.buildSlice 23 0 #[], type := 23, pos := "l2_coord.go:92", after := #[], guard := none }) rfl (fun K hK => ?_) (AllReadyH.cons (o := { dst := some 49, op := Go.Op.buildSlice 23 1 #[(0, Go.Operand.tmp 48)], type := 23, pos := "l2_coord.go:92", after := #[{ on := 8, ground := Go.Ground.data }], guard := none }) rfl (fun K hK => ?_) AllReadyH.nil)
            · go_simp
              have oR1 : ((W.alloc (.cells #[] 3)).drew).ownsRow W.heap.size 3 1 (.slice (some ⟨W.heap.size, 0, none⟩) 0 0) 0 (lv []) := World.ownsRow_lit W #[] 0 (Nat.le_refl _) (by unfold maxLen; omega) rfl
              have BV1 : Below W.heap.size W ((W.alloc (.cells #[] 3)).drew) := QB1 (balloc (.cells #[] 3) (Below.refl _ W))
              refine hK.out _ _ ?_ (fun hHeld => ?_)
              · (try dsimp only); exact keep_below BV1 d3
              clear hK K
              (try simp only [Act.put, List.setIfInBounds_toArray, List.set_cons_zero, List.set_cons_succ])
              generalize ((W.alloc (.cells #[] 3)).drew) = V1 at *
              refine wpAnyH_ready (rs := [4, 9]) (by kernel_rfl) (by simp) ?_
              refine AllReadyH.cons (o := { dst := some 44, op := Go.Op.call { callee := Go.Callee.builtin Go.Builtin.append, args := #[Go.Operand.tmp 40, Go.Operand.tmp 43], argTypes := #[23, 23] }, type := 23, pos := "l2_coord.go:92", after := #[{ on := 0, ground := Go.Ground.data }, { on := 3, ground := Go.Ground.data }], guard := none }) rfl (fun K hK => ?_) (AllReadyH.cons (o := { dst := some 49, op := Go.Op.buildSlice 23 1 #[(0, Go.Operand.tmp 48)], type := 23, pos := "l2_coord.go:92", after := #[{ on := 8, ground := Go.Ground.data }], guard := none }) rfl (fun K hK => ?_) AllReadyH.nil)
              · refine step_app (by rfl) _ _ (by rfl) W.heap.size (.slice (some ⟨W.heap.size, 0, none⟩) 0 0) 0 [] (by rfl) (by simp) oR1 _ g 0 rfl k cv ((isr (sf f m) i).take k) (by rfl) (by simp [isr_len]; omega) (fun j hj => by rw [Nat.zero_add, keep_below BV1 (hcs j (by omega))]; simp [List.getD, hj]) k (Nat.zero_add k) (by omega) BV1.size ?_
                intro g2 c2 V2 oR2 gr2 hc2
                have BV2 := own_grow BV1 BV1.size oR1 gr2
                refine hK.out _ _ ?_ (fun hHeld => ?_)
                · (try dsimp only); exact keep_below BV2 d3
                clear hK K
                (try simp only [Act.put, List.setIfInBounds_toArray, List.set_cons_zero, List.set_cons_succ])
                refine wpAnyH_ready (rs := [9]) (by kernel_rfl) (by simp) ?_
                refine AllReadyH.cons (o := { dst := some 49, op := Go.Op.buildSlice 23 1 #[(0, Go.Operand.tmp 48)], type := 23, pos := "l2_coord.go:92", after := #[{ on := 8, ground := Go.Ground.data }], guard := none }) rfl (fun K hK => ?_) AllReadyH.nil
                go_simp
                have cX3 : (V2.alloc (.cells #[.int .i64 ((sf f m) i)] 3)).cell? ⟨V2.heap.size, 0, none⟩ = some (.int .i64 ((sf f m) i)) := by simp [go_sem]
                have BV3 : Below W.heap.size W (V2.alloc (.cells #[.int .i64 ((sf f m) i)] 3)) := (balloc (.cells #[.int .i64 ((sf f m) i)] 3) BV2)
                have oR3 := oR2.alloc (.cells #[.int .i64 ((sf f m) i)] 3)
                refine hK.out _ _ ?_ (fun hHeld => ?_)
                · (try dsimp only); exact keep_below BV3 d3
                clear hK K
                (try simp only [Act.put, List.setIfInBounds_toArray, List.set_cons_zero, List.set_cons_succ])
                generalize (V2.alloc (.cells #[.int .i64 ((sf f m) i)] 3)) = V3 at *
                refine wpAnyH_ready (rs := [10]) (by kernel_rfl) (by simp) ?_
                refine AllReadyH.cons (o := { dst := some 50, op := Go.Op.call { callee := Go.Callee.builtin Go.Builtin.append, args := #[Go.Operand.tmp 44, Go.Operand.tmp 49], argTypes := #[23, 23] }, type := 23, pos := "l2_coord.go:92", after := #[{ on := 4, ground := Go.Ground.data }, { on := 9, ground := Go.Ground.data }, { on := 4, ground := Go.Ground.chain }], guard := none }) rfl (fun K hK => ?_) AllReadyH.nil
                refine step_app (by rfl) _ _ (by rfl) W.heap.size (.slice (some ⟨g2, 0, none⟩) k c2) k _ (by rfl) (by simp) oR3 (some ⟨V2.heap.size, 0, none⟩) V2.heap.size 0 rfl 1 1 [((sf f m) i)] (by rfl) rfl (fun j hj => by obtain rfl : j = 0 := (by omega); exact cX3) (k + 1) rfl (by omega) BV3.size ?_
                intro g8 c8 V8 oR8 gr8 hc8
                have BV8 := own_grow BV3 BV3.size oR3 gr8
                refine hK.out _ _ ?_ (fun hHeld => ?_)
                · (try dsimp only); exact keep_below BV8 d3
                clear hK K
                (try simp only [Act.put, List.setIfInBounds_toArray, List.set_cons_zero, List.set_cons_succ])
                refine wpAnyH_ready (rs := [14]) (by kernel_rfl) (by simp) ?_
                refine AllReadyH.cons (o := { dst := some 54, op := Go.Op.call { callee := Go.Callee.builtin Go.Builtin.append, args := #[Go.Operand.tmp 50, Go.Operand.tmp 53], argTypes := #[23, 23] }, type := 23, pos := "l2_coord.go:92", after := #[{ on := 10, ground := Go.Ground.data }, { on := 13, ground := Go.Ground.data }, { on := 10, ground := Go.Ground.chain }], guard := none }) rfl (fun K hK => ?_) AllReadyH.nil
                refine step_app (by rfl) _ _ (by rfl) W.heap.size (.slice (some ⟨g8, 0, none⟩) (k + 1) c8) (k + 1) _ (by rfl) (by simp) oR8 (if cv = k then some ⟨g, 0, none⟩ else some ⟨g, k, none⟩) g (if cv = k then 0 else k) (by split <;> rfl) (i - k) (cv - k) ((isr (sf f m) i).drop k) (by rfl) (by simp [isr_len]) (fun j hj => by rw [if_neg (by omega), keep_below BV8 (hcs (k + j) (by omega))]; simp [List.getD, List.getElem?_drop]) (i + 1) (by omega) (by omega) BV8.size ?_
                intro g9 c9 V9 oR9 gr9 hc9
                have BV9 := own_grow BV8 BV8.size oR8 gr9
                refine hK.out _ _ ?_ (fun hHeld => ?_)
                · (try dsimp only); exact keep_below BV9 d3
                clear hK K
                (try simp only [Act.put, List.setIfInBounds_toArray, List.set_cons_zero, List.set_cons_succ])
                refine wpAnyH_take (i := 15) (oi := { dst := some 4, op := Go.Op.assign (Go.Operand.tmp 54), type := 23, pos := "l2_coord.go:92", after := #[{ on := 14, ground := Go.Ground.data }, { on := 14, ground := Go.Ground.chain }, { on := 0, ground := Go.Ground.phase }, { on := 1, ground := Go.Ground.phase }, { on := 2, ground := Go.Ground.phase }, { on := 3, ground := Go.Ground.phase }, { on := 4, ground := Go.Ground.phase }, { on := 5, ground := Go.Ground.phase }, { on := 6, ground := Go.Ground.phase }, { on := 7, ground := Go.Ground.phase }, { on := 8, ground := Go.Ground.phase }, { on := 9, ground := Go.Ground.phase }, { on := 10, ground := Go.Ground.phase }, { on := 11, ground := Go.Ground.phase }, { on := 12, ground := Go.Ground.phase }, { on := 13, ground := Go.Ground.phase }, { on := 14, ground := Go.Ground.phase }], guard := none }) (v := ?_) rfl (by kernel_rfl) (by kernel_rfl) (by kernel_rfl) (fun _ _ _ h => h) (Or.inl ⟨by rfl, ?_⟩) (by assumption) ?_
                rotate_left 1
                · (intro w hSw; (try dsimp only at hSw); go_simp; try with_reducible rfl)
                (try simp only [Act.put, List.setIfInBounds_toArray, List.set_cons_zero, List.set_cons_succ])
                refine wpAnyH_done (by kernel_rfl) ?_ _
                have BF := btrans hb3 BV9
                have oF : V9.ownsRow w.heap.size 3 1 (.slice (some ⟨g9, 0, none⟩) (i + 1) c9) (i + 1) (lv (isr (sf f m) (i + 1))) := by
                  have e1 : isr (sf f m) (i + 1) = [] ++ (isr (sf f m) i).take k ++ [((sf f m) i)] ++ (isr (sf f m) i).drop k := by rw [isr, insL, ← hk.out]; simp
                  rw [e1]
                  exact own_mono hb3.size oR9
                clear oR9 oR8 gr8 gr9 hc8 BV8 BV9 hcs
                go_wp2
                go_roundw
                case rel => exact ⟨i + 1, by omega, by go_num, ⟨g9, c9, rfl, hc9, oF⟩, BF⟩
                case measure => simp [intOf]; omega
              · go_simp
                have cX2 : (V1.alloc (.cells #[.int .i64 ((sf f m) i)] 3)).cell? ⟨V1.heap.size, 0, none⟩ = some (.int .i64 ((sf f m) i)) := by simp [go_sem]
                have BV2 : Below W.heap.size W (V1.alloc (.cells #[.int .i64 ((sf f m) i)] 3)) := (balloc (.cells #[.int .i64 ((sf f m) i)] 3) BV1)
                have oR2 := oR1.alloc (.cells #[.int .i64 ((sf f m) i)] 3)
                have nX : V1.heap.size ≠ W.heap.size := by have := oR1.lt W.heap.size rfl; omega
                refine hK.out _ _ ?_ (fun hHeld => ?_)
                · (try dsimp only); exact keep_below BV2 d3
                clear hK K
                (try simp only [Act.put, List.setIfInBounds_toArray, List.set_cons_zero, List.set_cons_succ])
                generalize (V1.alloc (.cells #[.int .i64 ((sf f m) i)] 3)) = V2 at *
                refine wpAnyH_ready (rs := [4]) (by kernel_rfl) (by simp) ?_
                refine AllReadyH.cons (o := { dst := some 44, op := Go.Op.call { callee := Go.Callee.builtin Go.Builtin.append, args := #[Go.Operand.tmp 40, Go.Operand.tmp 43], argTypes := #[23, 23] }, type := 23, pos := "l2_coord.go:92", after := #[{ on := 0, ground := Go.Ground.data }, { on := 3, ground := Go.Ground.data }], guard := none }) rfl (fun K hK => ?_) AllReadyH.nil
                refine step_app (by rfl) _ _ (by rfl) W.heap.size (.slice (some ⟨W.heap.size, 0, none⟩) 0 0) 0 [] (by rfl) (by simp) oR2 _ g 0 rfl k cv ((isr (sf f m) i).take k) (by rfl) (by simp [isr_len]; omega) (fun j hj => by rw [Nat.zero_add, keep_below BV2 (hcs j (by omega))]; simp [List.getD, hj]) k (Nat.zero_add k) (by omega) BV2.size ?_
                intro g3 c3 V3 oR3 gr3 hc3
                have BV3 := own_grow BV2 BV2.size oR2 gr3
                have cX3 := keep_grown gr3 nX cX2
                refine hK.out _ _ ?_ (fun hHeld => ?_)
                · (try dsimp only); exact keep_below BV3 d3
                clear hK K
                (try simp only [Act.put, List.setIfInBounds_toArray, List.set_cons_zero, List.set_cons_succ])
                refine wpAnyH_ready (rs := [10]) (by kernel_rfl) (by simp) ?_
                refine AllReadyH.cons (o := { dst := some 50, op := Go.Op.call { callee := Go.Callee.builtin Go.Builtin.append, args := #[Go.Operand.tmp 44, Go.Operand.tmp 49], argTypes := #[23, 23] }, type := 23, pos := "l2_coord.go:92", after := #[{ on := 4, ground := Go.Ground.data }, { on := 9, ground := Go.Ground.data }, { on := 4, ground := Go.Ground.chain }], guard := none }) rfl (fun K hK => ?_) AllReadyH.nil
                refine step_app (by rfl) _ _ (by rfl) W.heap.size (.slice (some ⟨g3, 0, none⟩) k c3) k _ (by rfl) (by simp) oR3 (some ⟨V1.heap.size, 0, none⟩) V1.heap.size 0 rfl 1 1 [((sf f m) i)] (by rfl) rfl (fun j hj => by obtain rfl : j = 0 := (by omega); exact cX3) (k + 1) rfl (by omega) BV3.size ?_
                intro g8 c8 V8 oR8 gr8 hc8
                have BV8 := own_grow BV3 BV3.size oR3 gr8
                refine hK.out _ _ ?_ (fun hHeld => ?_)
                · (try dsimp only); exact keep_below BV8 d3
                clear hK K
                (try simp only [Act.put, List.setIfInBounds_toArray, List.set_cons_zero, List.set_cons_succ])
                refine wpAnyH_ready (rs := [14]) (by kernel_rfl) (by simp) ?_
                refine AllReadyH.cons (o := { dst := some 54, op := Go.Op.call { callee := Go.Callee.builtin Go.Builtin.append, args := #[Go.Operand.tmp 50, Go.Operand.tmp 53], argTypes := #[23, 23] }, type := 23, pos := "l2_coord.go:92", after := #[{ on := 10, ground := Go.Ground.data }, { on := 13, ground := Go.Ground.data }, { on := 10, ground := Go.Ground.chain }], guard := none }) rfl (fun K hK => ?_) AllReadyH.nil
                refine step_app (by rfl) _ _ (by rfl) W.heap.size (.slice (some ⟨g8, 0, none⟩) (k + 1) c8) (k + 1) _ (by rfl) (by simp) oR8 (if cv = k then some ⟨g, 0, none⟩ else some ⟨g, k, none⟩) g (if cv = k then 0 else k) (by split <;> rfl) (i - k) (cv - k) ((isr (sf f m) i).drop k) (by rfl) (by simp [isr_len]) (fun j hj => by rw [if_neg (by omega), keep_below BV8 (hcs (k + j) (by omega))]; simp [List.getD, List.getElem?_drop]) (i + 1) (by omega) (by omega) BV8.size ?_
                intro g9 c9 V9 oR9 gr9 hc9
                have BV9 := own_grow BV8 BV8.size oR8 gr9
                refine hK.out _ _ ?_ (fun hHeld => ?_)
                · (try dsimp only); exact keep_below BV9 d3
                clear hK K
                (try simp only [Act.put, List.setIfInBounds_toArray, List.set_cons_zero, List.set_cons_succ])
                refine wpAnyH_take (i := 15) (oi := { dst := some 4, op := Go.Op.assign (Go.Operand.tmp 54), type := 23, pos := "l2_coord.go:92", after := #[{ on := 14, ground := Go.Ground.data }, { on := 14, ground := Go.Ground.chain }, { on := 0, ground := Go.Ground.phase }, { on := 1, ground := Go.Ground.phase }, { on := 2, ground := Go.Ground.phase }, { on := 3, ground := Go.Ground.phase }, { on := 4, ground := Go.Ground.phase }, { on := 5, ground := Go.Ground.phase }, { on := 6, ground := Go.Ground.phase }, { on := 7, ground := Go.Ground.phase }, { on := 8, ground := Go.Ground.phase }, { on := 9, ground := Go.Ground.phase }, { on := 10, ground := Go.Ground.phase }, { on := 11, ground := Go.Ground.phase }, { on := 12, ground := Go.Ground.phase }, { on := 13, ground := Go.Ground.phase }, { on := 14, ground := Go.Ground.phase }], guard := none }) (v := ?_) rfl (by kernel_rfl) (by kernel_rfl) (by kernel_rfl) (fun _ _ _ h => h) (Or.inl ⟨by rfl, ?_⟩) (by assumption) ?_
                rotate_left 1
                · (intro w hSw; (try dsimp only at hSw); go_simp; try with_reducible rfl)
                (try simp only [Act.put, List.setIfInBounds_toArray, List.set_cons_zero, List.set_cons_succ])
                refine wpAnyH_done (by kernel_rfl) ?_ _
                have BF := btrans hb3 BV9
                have oF : V9.ownsRow w.heap.size 3 1 (.slice (some ⟨g9, 0, none⟩) (i + 1) c9) (i + 1) (lv (isr (sf f m) (i + 1))) := by
                  have e1 : isr (sf f m) (i + 1) = [] ++ (isr (sf f m) i).take k ++ [((sf f m) i)] ++ (isr (sf f m) i).drop k := by rw [isr, insL, ← hk.out]; simp
                  rw [e1]
                  exact own_mono hb3.size oR9
                clear oR9 oR8 gr8 gr9 hc8 BV8 BV9 hcs
                go_wp2
                go_roundw
                case rel => exact ⟨i + 1, by omega, by go_num, ⟨g9, c9, rfl, hc9, oF⟩, BF⟩
                case measure => simp [intOf]; omega
            · go_simp
              have cX1 : ((W.alloc (.cells #[.int .i64 ((sf f m) i)] 3)).drew).cell? ⟨W.heap.size, 0, none⟩ = some (.int .i64 ((sf f m) i)) := by simp [go_sem]
              have BV1 : Below W.heap.size W ((W.alloc (.cells #[.int .i64 ((sf f m) i)] 3)).drew) := QB1 (balloc (.cells #[.int .i64 ((sf f m) i)] 3) (Below.refl _ W))
              have xlt := World.block_lt_of_cell? _ _ cX1
              refine hK.out _ _ ?_ (fun hHeld => ?_)
              · (try dsimp only); exact keep_below BV1 d3
              clear hK K
              (try simp only [Act.put, List.setIfInBounds_toArray, List.set_cons_zero, List.set_cons_succ])
              generalize ((W.alloc (.cells #[.int .i64 ((sf f m) i)] 3)).drew) = V1 at *
              refine wpAnyH_ready (rs := [0]) (by kernel_rfl) (by simp) ?_
              refine AllReadyH.cons (o := { dst := some 40, op := Go.Op.buildSlice 23 0 #[], type := 23, pos := "l2_coord.go:92", after := #[], guard := none }) rfl (fun K hK => ?_) AllReadyH.nil
              go_simp
              have oR2 : (V1.alloc (.cells #[] 3)).ownsRow W.heap.size 3 1 (.slice (some ⟨V1.heap.size, 0, none⟩) 0 0) 0 (lv []) := World.ownsRow_lit V1 #[] 0 (BV1.size) (by unfold maxLen; omega) rfl
              have BV2 : Below W.heap.size W (V1.alloc (.cells #[] 3)) := (balloc (.cells #[] 3) BV1)
              have cX2 := keep_alloc (.cells #[] 3) cX1
              have nX : W.heap.size ≠ V1.heap.size := by simp at xlt; omega
              refine hK.out _ _ ?_ (fun hHeld => ?_)
              · (try dsimp only); exact keep_below BV2 d3
              clear hK K
              (try simp only [Act.put, List.setIfInBounds_toArray, List.set_cons_zero, List.set_cons_succ])
              generalize (V1.alloc (.cells #[] 3)) = V2 at *
              refine wpAnyH_ready (rs := [4]) (by kernel_rfl) (by simp) ?_
              refine AllReadyH.cons (o := { dst := some 44, op := Go.Op.call { callee := Go.Callee.builtin Go.Builtin.append, args := #[Go.Operand.tmp 40, Go.Operand.tmp 43], argTypes := #[23, 23] }, type := 23, pos := "l2_coord.go:92", after := #[{ on := 0, ground := Go.Ground.data }, { on := 3, ground := Go.Ground.data }], guard := none }) rfl (fun K hK => ?_) AllReadyH.nil
              refine step_app (by rfl) _ _ (by rfl) W.heap.size (.slice (some ⟨V1.heap.size, 0, none⟩) 0 0) 0 [] (by rfl) (by simp) oR2 _ g 0 rfl k cv ((isr (sf f m) i).take k) (by rfl) (by simp [isr_len]; omega) (fun j hj => by rw [Nat.zero_add, keep_below BV2 (hcs j (by omega))]; simp [List.getD, hj]) k (Nat.zero_add k) (by omega) BV2.size ?_
              intro g3 c3 V3 oR3 gr3 hc3
              have BV3 := own_grow BV2 BV2.size oR2 gr3
              have cX3 := keep_grown gr3 nX cX2
              refine hK.out _ _ ?_ (fun hHeld => ?_)
              · (try dsimp only); exact keep_below BV3 d3
              clear hK K
              (try simp only [Act.put, List.setIfInBounds_toArray, List.set_cons_zero, List.set_cons_succ])
              refine wpAnyH_ready (rs := [10]) (by kernel_rfl) (by simp) ?_
              refine AllReadyH.cons (o := { dst := some 50, op := Go.Op.call { callee := Go.Callee.builtin Go.Builtin.append, args := #[Go.Operand.tmp 44, Go.Operand.tmp 49], argTypes := #[23, 23] }, type := 23, pos := "l2_coord.go:92", after := #[{ on := 4, ground := Go.Ground.data }, { on := 9, ground := Go.Ground.data }, { on := 4, ground := Go.Ground.chain }], guard := none }) rfl (fun K hK => ?_) AllReadyH.nil
              refine step_app (by rfl) _ _ (by rfl) W.heap.size (.slice (some ⟨g3, 0, none⟩) k c3) k _ (by rfl) (by simp) oR3 (some ⟨W.heap.size, 0, none⟩) W.heap.size 0 rfl 1 1 [((sf f m) i)] (by rfl) rfl (fun j hj => by obtain rfl : j = 0 := (by omega); exact cX3) (k + 1) rfl (by omega) BV3.size ?_
              intro g8 c8 V8 oR8 gr8 hc8
              have BV8 := own_grow BV3 BV3.size oR3 gr8
              refine hK.out _ _ ?_ (fun hHeld => ?_)
              · (try dsimp only); exact keep_below BV8 d3
              clear hK K
              (try simp only [Act.put, List.setIfInBounds_toArray, List.set_cons_zero, List.set_cons_succ])
              refine wpAnyH_ready (rs := [14]) (by kernel_rfl) (by simp) ?_
              refine AllReadyH.cons (o := { dst := some 54, op := Go.Op.call { callee := Go.Callee.builtin Go.Builtin.append, args := #[Go.Operand.tmp 50, Go.Operand.tmp 53], argTypes := #[23, 23] }, type := 23, pos := "l2_coord.go:92", after := #[{ on := 10, ground := Go.Ground.data }, { on := 13, ground := Go.Ground.data }, { on := 10, ground := Go.Ground.chain }], guard := none }) rfl (fun K hK => ?_) AllReadyH.nil
              refine step_app (by rfl) _ _ (by rfl) W.heap.size (.slice (some ⟨g8, 0, none⟩) (k + 1) c8) (k + 1) _ (by rfl) (by simp) oR8 (if cv = k then some ⟨g, 0, none⟩ else some ⟨g, k, none⟩) g (if cv = k then 0 else k) (by split <;> rfl) (i - k) (cv - k) ((isr (sf f m) i).drop k) (by rfl) (by simp [isr_len]) (fun j hj => by rw [if_neg (by omega), keep_below BV8 (hcs (k + j) (by omega))]; simp [List.getD, List.getElem?_drop]) (i + 1) (by omega) (by omega) BV8.size ?_
              intro g9 c9 V9 oR9 gr9 hc9
              have BV9 := own_grow BV8 BV8.size oR8 gr9
              refine hK.out _ _ ?_ (fun hHeld => ?_)
              · (try dsimp only); exact keep_below BV9 d3
              clear hK K
              (try simp only [Act.put, List.setIfInBounds_toArray, List.set_cons_zero, List.set_cons_succ])
              refine wpAnyH_take (i := 15) (oi := { dst := some 4, op := Go.Op.assign (Go.Operand.tmp 54), type := 23, pos := "l2_coord.go:92", after := #[{ on := 14, ground := Go.Ground.data }, { on := 14, ground := Go.Ground.chain }, { on := 0, ground := Go.Ground.phase }, { on := 1, ground := Go.Ground.phase }, { on := 2, ground := Go.Ground.phase }, { on := 3, ground := Go.Ground.phase }, { on := 4, ground := Go.Ground.phase }, { on := 5, ground := Go.Ground.phase }, { on := 6, ground := Go.Ground.phase }, { on := 7, ground := Go.Ground.phase }, { on := 8, ground := Go.Ground.phase }, { on := 9, ground := Go.Ground.phase }, { on := 10, ground := Go.Ground.phase }, { on := 11, ground := Go.Ground.phase }, { on := 12, ground := Go.Ground.phase }, { on := 13, ground := Go.Ground.phase }, { on := 14, ground := Go.Ground.phase }], guard := none }) (v := ?_) rfl (by kernel_rfl) (by kernel_rfl) (by kernel_rfl) (fun _ _ _ h => h) (Or.inl ⟨by rfl, ?_⟩) (by assumption) ?_
              rotate_left 1
              · (intro w hSw; (try dsimp only at hSw); go_simp; try with_reducible rfl)
              (try simp only [Act.put, List.setIfInBounds_toArray, List.set_cons_zero, List.set_cons_succ])
              refine wpAnyH_done (by kernel_rfl) ?_ _
              have BF := btrans hb3 BV9
              have oF : V9.ownsRow w.heap.size 3 1 (.slice (some ⟨g9, 0, none⟩) (i + 1) c9) (i + 1) (lv (isr (sf f m) (i + 1))) := by
                have e1 : isr (sf f m) (i + 1) = [] ++ (isr (sf f m) i).take k ++ [((sf f m) i)] ++ (isr (sf f m) i).drop k := by rw [isr, insL, ← hk.out]; simp
                rw [e1]
                exact own_mono hb3.size oR9
              clear oR9 oR8 gr8 gr9 hc8 BV8 BV9 hcs
              go_wp2
              go_roundw
              case rel => exact ⟨i + 1, by omega, by go_num, ⟨g9, c9, rfl, hc9, oF⟩, BF⟩
              case measure => simp [intOf]; omega
        · have i7 : ¬ (k : Int) < (i : Int) := by omega
          have hk : Hid (k = lead ((sf f m) i) (isr (sf f m) i)) := lead_of ((sf f m) i) (isr (sf f m) i) k (by rw [isr_len]; omega) hall (fun h => by rw [isr_len] at h; omega)
          go_wp2_with fail
          refine wp_region_held_drew (S := fun _ => True) (by kernel_rfl) ?_ (fun hHeld => ?_)
          · (try dsimp only); skip
          refine wpAnyH_take (i := 0) (oi := { dst := some 23, op := Go.Op.move (Go.Operand.tmp 6), type := 3, pos := "l2_coord.go:89", after := #[], guard := none }) (v := ?_) rfl (by kernel_rfl) (by kernel_rfl) (by kernel_rfl) (fun _ _ _ h => h) (Or.inl ⟨by rfl, ?_⟩) (by assumption) ?_
          rotate_left 1
          · (intro w hSw; (try dsimp only at hSw); go_simp; try with_reducible rfl)
          (try simp only [Act.put, List.setIfInBounds_toArray, List.set_cons_zero, List.set_cons_succ])
          refine wpAnyH_take (i := 1) (oi := { dst := some 24, op := Go.Op.move (Go.Operand.tmp 4), type := 23, pos := "l2_coord.go:89", after := #[], guard := none }) (v := ?_) rfl (by kernel_rfl) (by kernel_rfl) (by kernel_rfl) (fun _ _ _ h => h) (Or.inl ⟨by rfl, ?_⟩) (by assumption) ?_
          rotate_left 1
          · (intro w hSw; (try dsimp only at hSw); go_simp; try with_reducible rfl)
          (try simp only [Act.put, List.setIfInBounds_toArray, List.set_cons_zero, List.set_cons_succ])
          refine wpAnyH_take (i := 2) (oi := { dst := some 25, op := Go.Op.call { callee := Go.Callee.builtin Go.Builtin.len, args := #[Go.Operand.tmp 24], argTypes := #[23] }, type := 3, pos := "l2_coord.go:89", after := #[{ on := 1, ground := Go.Ground.data }], guard := none }) (v := ?_) rfl (by kernel_rfl) (by kernel_rfl) (by kernel_rfl) (fun _ _ _ h => h) (Or.inl ⟨by rfl, ?_⟩) (by assumption) ?_
          rotate_left 1
          · (intro w hSw; (try dsimp only at hSw); go_simp; try with_reducible rfl)
          (try simp only [Act.put, List.setIfInBounds_toArray, List.set_cons_zero, List.set_cons_succ])
          refine wpAnyH_take (i := 3) (oi := { dst := some 26, op := Go.Op.binOp Go.BinOp.lss 3 (Go.Operand.tmp 23) (Go.Operand.tmp 25) 3, type := 4, pos := "l2_coord.go:89", after := #[{ on := 0, ground := Go.Ground.data }, { on := 2, ground := Go.Ground.data }], guard := none }) (v := ?_) rfl (by kernel_rfl) (by kernel_rfl) (by kernel_rfl) (fun _ _ _ h => h) (Or.inl ⟨by rfl, ?_⟩) (by assumption) ?_
          rotate_left 1
          · (intro w hSw; (try dsimp only at hSw); go_simp; try with_reducible rfl)
          (try simp only [Act.put, List.setIfInBounds_toArray, List.set_cons_zero, List.set_cons_succ])
          refine wpAnyH_take (i := 4) (oi := { dst := some 27, op := Go.Op.move (Go.Operand.tmp 26), type := 4, pos := "l2_coord.go:89", after := #[{ on := 3, ground := Go.Ground.data }], guard := none }) (v := ?_) rfl (by kernel_rfl) (by kernel_rfl) (by kernel_rfl) (fun _ _ _ h => h) (Or.inl ⟨by rfl, ?_⟩) (by assumption) ?_
          rotate_left 1
          · (intro w hSw; (try dsimp only at hSw); go_simp; try with_reducible rfl)
          (try simp only [Act.put, List.setIfInBounds_toArray, List.set_cons_zero, List.set_cons_succ])
          refine wpAnyH_take (i := 5) (oi := { dst := some 28, op := Go.Op.move (Go.Operand.tmp 4), type := 23, pos := "l2_coord.go:89", after := #[{ on := 4, ground := Go.Ground.guard }], guard := some (4, true) }) (v := undef) rfl (by kernel_rfl) (by kernel_rfl) (by kernel_rfl) (fun _ _ _ h => h) (Or.inr ⟨by rfl, rfl⟩) (by assumption) ?_
          (try simp only [Act.put, List.setIfInBounds_toArray, List.set_cons_zero, List.set_cons_succ])
          refine wpAnyH_take (i := 6) (oi := { dst := some 29, op := Go.Op.move (Go.Operand.tmp 6), type := 3, pos := "l2_coord.go:89", after := #[{ on := 4, ground := Go.Ground.guard }], guard := some (4, true) }) (v := undef) rfl (by kernel_rfl) (by kernel_rfl) (by kernel_rfl) (fun _ _ _ h => h) (Or.inr ⟨by rfl, rfl⟩) (by assumption) ?_
          (try simp only [Act.put, List.setIfInBounds_toArray, List.set_cons_zero, List.set_cons_succ])
          refine wpAnyH_take (i := 7) (oi := { dst := some 30, op := Go.Op.indexAddr 23 (Go.Operand.tmp 28) (Go.Operand.tmp 29), type := 0, pos := "l2_coord.go:89", after := #[{ on := 5, ground := Go.Ground.data }, { on := 6, ground := Go.Ground.data }, { on := 4, ground := Go.Ground.guard }], guard := some (4, true) }) (v := undef) rfl (by kernel_rfl) (by kernel_rfl) (by kernel_rfl) (fun _ _ _ h => h) (Or.inr ⟨by rfl, rfl⟩) (by assumption) ?_
          (try simp only [Act.put, List.setIfInBounds_toArray, List.set_cons_zero, List.set_cons_succ])
          refine wpAnyH_take (i := 8) (oi := { dst := some 31, op := Go.Op.load 3 (Go.Operand.tmp 30), type := 3, pos := "l2_coord.go:89", after := #[{ on := 7, ground := Go.Ground.data }, { on := 4, ground := Go.Ground.guard }], guard := some (4, true) }) (v := undef) rfl (by kernel_rfl) (by kernel_rfl) (by kernel_rfl) (fun _ _ _ h => h) (Or.inr ⟨by rfl, rfl⟩) (by assumption) ?_
          (try simp only [Act.put, List.setIfInBounds_toArray, List.set_cons_zero, List.set_cons_succ])
          refine wpAnyH_take (i := 9) (oi := { dst := some 32, op := Go.Op.move (Go.Operand.tmp 3), type := 23, pos := "l2_coord.go:89", after := #[{ on := 4, ground := Go.Ground.guard }], guard := some (4, true) }) (v := undef) rfl (by kernel_rfl) (by kernel_rfl) (by kernel_rfl) (fun _ _ _ h => h) (Or.inr ⟨by rfl, rfl⟩) (by assumption) ?_
          (try simp only [Act.put, List.setIfInBounds_toArray, List.set_cons_zero, List.set_cons_succ])
          refine wpAnyH_take (i := 10) (oi := { dst := some 33, op := Go.Op.move (Go.Operand.tmp 5), type := 3, pos := "l2_coord.go:89", after := #[{ on := 4, ground := Go.Ground.guard }], guard := some (4, true) }) (v := undef) rfl (by kernel_rfl) (by kernel_rfl) (by kernel_rfl) (fun _ _ _ h => h) (Or.inr ⟨by rfl, rfl⟩) (by assumption) ?_
          (try simp only [Act.put, List.setIfInBounds_toArray, List.set_cons_zero, List.set_cons_succ])
          refine wpAnyH_take (i := 11) (oi := { dst := some 34, op := Go.Op.indexAddr 23 (Go.Operand.tmp 32) (Go.Operand.tmp 33), type := 0, pos := "l2_coord.go:89", after := #[{ on := 9, ground := Go.Ground.data }, { on := 10, ground := Go.Ground.data }, { on := 4, ground := Go.Ground.guard }], guard := some (4, true) }) (v := undef) rfl (by kernel_rfl) (by kernel_rfl) (by kernel_rfl) (fun _ _ _ h => h) (Or.inr ⟨by rfl, rfl⟩) (by assumption) ?_
          (try simp only [Act.put, List.setIfInBounds_toArray, List.set_cons_zero, List.set_cons_succ])
          refine wpAnyH_take (i := 12) (oi := { dst := some 35, op := Go.Op.load 3 (Go.Operand.tmp 34), type := 3, pos := "l2_coord.go:89", after := #[{ on := 11, ground := Go.Ground.data }, { on := 4, ground := Go.Ground.guard }], guard := some (4, true) }) (v := undef) rfl (by kernel_rfl) (by kernel_rfl) (by kernel_rfl) (fun _ _ _ h => h) (Or.inr ⟨by rfl, rfl⟩) (by assumption) ?_
          (try simp only [Act.put, List.setIfInBounds_toArray, List.set_cons_zero, List.set_cons_succ])
          refine wpAnyH_take (i := 13) (oi := { dst := some 36, op := Go.Op.binOp Go.BinOp.leq 3 (Go.Operand.tmp 31) (Go.Operand.tmp 35) 3, type := 4, pos := "l2_coord.go:89", after := #[{ on := 8, ground := Go.Ground.data }, { on := 12, ground := Go.Ground.data }, { on := 4, ground := Go.Ground.guard }], guard := some (4, true) }) (v := undef) rfl (by kernel_rfl) (by kernel_rfl) (by kernel_rfl) (fun _ _ _ h => h) (Or.inr ⟨by rfl, rfl⟩) (by assumption) ?_
          (try simp only [Act.put, List.setIfInBounds_toArray, List.set_cons_zero, List.set_cons_succ])
          refine wpAnyH_take (i := 14) (oi := { dst := some 37, op := Go.Op.pick (Go.Operand.tmp 27) (Go.Operand.tmp 36) (Go.Operand.const (Go.Value.bool false)), type := 4, pos := "l2_coord.go:89", after := #[{ on := 4, ground := Go.Ground.data }, { on := 13, ground := Go.Ground.data }], guard := none }) (v := ?_) rfl (by kernel_rfl) (by kernel_rfl) (by kernel_rfl) (fun _ _ _ h => h) (Or.inl ⟨by rfl, ?_⟩) (by assumption) ?_
          rotate_left 1
          · (intro w hSw; (try dsimp only at hSw); go_simp; try with_reducible rfl)
          (try simp only [Act.put, List.setIfInBounds_toArray, List.set_cons_zero, List.set_cons_succ])
          refine wpAnyH_done (by kernel_rfl) ?_ _
          go_wp2_with fail
          have own3 : (wr.drew).ownsRow w.heap.size 3 1 (.slice (some ⟨g, 0, none⟩) i cv) i (lv (isr (sf f m) i)) := own2
          have hb3 : Below w.heap.size w (wr.drew) := QB1 hb2
          have d3 : (wr.drew).cell? ⟨b, (off + m) + i, none⟩ = some (.int .i64 ((sf f m) i)) := d0
          clear own2 hb2 d0 hall
          generalize (wr.drew) = W at *
          have k7 : (k : Int) ≤ (i : Int) := by omega
          have k9 : k ≤ cv := by omega
          have hgW : g < W.heap.size := ((own3.lt g rfl).2)
          have hcs : ∀ j, j < i → W.cell? ⟨g, j, none⟩ = some (.int .i64 ((isr (sf f m) i).getD j 0)) := fun j hj => own_at own3 j hj
          refine wp_region_held_drew (S := fun w' => w'.cell? ⟨b, (off + m) + i, none⟩ = some (.int .i64 ((sf f m) i))) (by kernel_rfl) ?_ (fun hHeld => ?_)
          · (try dsimp only); exact d3
          refine wpAnyH_take (i := 1) (oi := { dst := some 41, op := Go.Op.move (Go.Operand.tmp 4), type := 23, pos := "l2_coord.go:92", after := #[], guard := none }) (v := ?_) rfl (by kernel_rfl) (by kernel_rfl) (by kernel_rfl) (fun _ _ _ h => h) (Or.inl ⟨by rfl, ?_⟩) (by assumption) ?_
          rotate_left 1
          · (intro w hSw; (try dsimp only at hSw); go_simp; try with_reducible rfl)
          (try simp only [Act.put, List.setIfInBounds_toArray, List.set_cons_zero, List.set_cons_succ])
          refine wpAnyH_take (i := 2) (oi := { dst := some 42, op := Go.Op.move (Go.Operand.tmp 6), type := 3, pos := "l2_coord.go:92", after := #[], guard := none }) (v := ?_) rfl (by kernel_rfl) (by kernel_rfl) (by kernel_rfl) (fun _ _ _ h => h) (Or.inl ⟨by rfl, ?_⟩) (by assumption) ?_
          rotate_left 1
          · (intro w hSw; (try dsimp only at hSw); go_simp; try with_reducible rfl)
          (try simp only [Act.put, List.setIfInBounds_toArray, List.set_cons_zero, List.set_cons_succ])
          refine wpAnyH_take (i := 3) (oi := { dst := some 43, op := Go.Op.slice 23 (Go.Operand.tmp 41) none (some (Go.Operand.tmp 42)) none, type := 23, pos := "l2_coord.go:92", after := #[{ on := 1, ground := Go.Ground.data }, { on := 2, ground := Go.Ground.data }], guard := none }) (v := ?_) rfl (by kernel_rfl) (by kernel_rfl) (by kernel_rfl) (fun _ _ _ h => h) (Or.inl ⟨by rfl, ?_⟩) (by assumption) ?_
          rotate_left 1
          · (intro w hSw; (try dsimp only at hSw); go_simp; try with_reducible rfl)
          (try simp only [Act.put, List.setIfInBounds_toArray, List.set_cons_zero, List.set_cons_succ])
          refine wpAnyH_take (i := 5) (oi := { dst := some 45, op := Go.Op.move (Go.Operand.tmp 3), type := 23, pos := "l2_coord.go:92", after := #[], guard := none }) (v := ?_) rfl (by kernel_rfl) (by kernel_rfl) (by kernel_rfl) (fun _ _ _ h => h) (Or.inl ⟨by rfl, ?_⟩) (by assumption) ?_
          rotate_left 1
          · (intro w hSw; (try dsimp only at hSw); go_simp; try with_reducible rfl)
          (try simp only [Act.put, List.setIfInBounds_toArray, List.set_cons_zero, List.set_cons_succ])
          refine wpAnyH_take (i := 6) (oi := { dst := some 46, op := Go.Op.move (Go.Operand.tmp 5), type := 3, pos := "l2_coord.go:92", after := #[], guard := none }) (v := ?_) rfl (by kernel_rfl) (by kernel_rfl) (by kernel_rfl) (fun _ _ _ h => h) (Or.inl ⟨by rfl, ?_⟩) (by assumption) ?_
          rotate_left 1
          · (intro w hSw; (try dsimp only at hSw); go_simp; try with_reducible rfl)
          (try simp only [Act.put, List.setIfInBounds_toArray, List.set_cons_zero, List.set_cons_succ])
          refine wpAnyH_take (i := 7) (oi := { dst := some 47, op := Go.Op.indexAddr 23 (Go.Operand.tmp 45) (Go.Operand.tmp 46), type := 0, pos := "l2_coord.go:92", after := #[{ on := 5, ground := Go.Ground.data }, { on := 6, ground := Go.Ground.data }], guard := none }) (v := ?_) rfl (by kernel_rfl) (by kernel_rfl) (by kernel_rfl) (fun _ _ _ h => h) (Or.inl ⟨by rfl, ?_⟩) (by assumption) ?_
          rotate_left 1
          · (intro w hSw; (try dsimp only at hSw); go_simp; try with_reducible rfl)
          (try simp only [Act.put, List.setIfInBounds_toArray, List.set_cons_zero, List.set_cons_succ])
          refine wpAnyH_take (i := 8) (oi := { dst := some 48, op := Go.Op.load 3 (Go.Operand.tmp 47), type := 3, pos := "l2_coord.go:92", after := #[{ on := 7, ground := Go.Ground.data }], guard := none }) (v := ?_) rfl (by kernel_rfl) (by kernel_rfl) (by kernel_rfl) (fun _ _ _ h => h) (Or.inl ⟨by rfl, ?_⟩) (by assumption) ?_
          rotate_left 1
          · (intro w hSw; (try dsimp only at hSw); go_simp; try with_reducible rfl)
          (try simp only [Act.put, List.setIfInBounds_toArray, List.set_cons_zero, List.set_cons_succ])
          refine wpAnyH_take (i := 11) (oi := { dst := some 51, op := Go.Op.move (Go.Operand.tmp 4), type := 23, pos := "l2_coord.go:92", after := #[], guard := none }) (v := ?_) rfl (by kernel_rfl) (by kernel_rfl) (by kernel_rfl) (fun _ _ _ h => h) (Or.inl ⟨by rfl, ?_⟩) (by assumption) ?_
          rotate_left 1
          · (intro w hSw; (try dsimp only at hSw); go_simp; try with_reducible rfl)
          (try simp only [Act.put, List.setIfInBounds_toArray, List.set_cons_zero, List.set_cons_succ])
          refine wpAnyH_take (i := 12) (oi := { dst := some 52, op := Go.Op.move (Go.Operand.tmp 6), type := 3, pos := "l2_coord.go:92", after := #[], guard := none }) (v := ?_) rfl (by kernel_rfl) (by kernel_rfl) (by kernel_rfl) (fun _ _ _ h => h) (Or.inl ⟨by rfl, ?_⟩) (by assumption) ?_
          rotate_left 1
          · (intro w hSw; (try dsimp only at hSw); go_simp; try with_reducible rfl)
          (try simp only [Act.put, List.setIfInBounds_toArray, List.set_cons_zero, List.set_cons_succ])
          refine wpAnyH_take (i := 13) (oi := { dst := some 53, op := Go.Op.slice 23 (Go.Operand.tmp 51) (some (Go.Operand.tmp 52)) none none, type := 23, pos := "l2_coord.go:92", after := #[{ on := 11, ground := Go.Ground.data }, { on := 12, ground := Go.Ground.data }], guard := none }) (v := ?_) rfl (by kernel_rfl) (by kernel_rfl) (by kernel_rfl) (fun _ _ _ h => h) (Or.inl ⟨by rfl, ?_⟩) (by assumption) ?_
          rotate_left 1
          · (intro w hSw; (try dsimp only at hSw); go_simp; try with_reducible rfl)
          (try simp only [Act.put, List.setIfInBounds_toArray, List.set_cons_zero, List.set_cons_succ])
          refine wpAnyH_ready (rs := [0, 9]) (by kernel_rfl) (by simp) ?_
          refine AllReadyH.cons (o := { dst := some 40, op := Go.Op.buildSlice 23 0 #[], type := 23, pos := "l2_coord.go:92", after := #[], guard := none }) rfl (fun K hK => ?_) (AllReadyH.cons (o := { dst := some 49, op := Go.Op.buildSlice 23 1 #[(0, Go.Operand.tmp 48)], type := 23, pos := "l2_coord.go:92", after := #[{ on := 8, ground := Go.Ground.data }], guard := none }) rfl (fun K hK => ?_) AllReadyH.nil)
          · go_simp
            have oR1 : ((W.alloc (.cells #[] 3)).drew).ownsRow W.heap.size 3 1 (.slice (some ⟨W.heap.size, 0, none⟩) 0 0) 0 (lv []) := World.ownsRow_lit W #[] 0 (Nat.le_refl _) (by unfold maxLen; omega) rfl
            have BV1 : Below W.heap.size W ((W.alloc (.cells #[] 3)).drew) := QB1 (balloc (.cells #[] 3) (Below.refl _ W))
            refine hK.out _ _ ?_ (fun hHeld => ?_)
            · (try dsimp only); exact keep_below BV1 d3
            clear hK K
            (try simp only [Act.put, List.setIfInBounds_toArray, List.set_cons_zero, List.set_cons_succ])
            generalize ((W.alloc (.cells #[] 3)).drew) = V1 at *
            refine wpAnyH_ready (rs := [4, 9]) (by kernel_rfl) (by simp) ?_
            refine AllReadyH.cons (o := { dst := some 44, op := Go.Op.call { callee := Go.Callee.builtin Go.Builtin.append, args := #[Go.Operand.tmp 40, Go.Operand.tmp 43], argTypes := #[23, 23] }, type := 23, pos := "l2_coord.go:92", after := #[{ on := 0, ground := Go.Ground.data }, { on := 3, ground := Go.Ground.data }], guard := none }) rfl (fun K hK => ?_) (AllReadyH.cons (o := { dst := some 49, op := Go.Op.buildSlice 23 1 #[(0, Go.Operand.tmp 48)], type := 23, pos := "l2_coord.go:92", after := #[{ on := 8, ground := Go.Ground.data }], guard := none }) rfl (fun K hK => ?_) AllReadyH.nil)
            · refine step_app (by rfl) _ _ (by rfl) W.heap.size (.slice (some ⟨W.heap.size, 0, none⟩) 0 0) 0 [] (by rfl) (by simp) oR1 _ g 0 rfl k cv ((isr (sf f m) i).take k) (by rfl) (by simp [isr_len]; omega) (fun j hj => by rw [Nat.zero_add, keep_below BV1 (hcs j (by omega))]; simp [List.getD, hj]) k (Nat.zero_add k) (by omega) BV1.size ?_
              intro g2 c2 V2 oR2 gr2 hc2
              have BV2 := own_grow BV1 BV1.size oR1 gr2
              refine hK.out _ _ ?_ (fun hHeld => ?_)
              · (try dsimp only); exact keep_below BV2 d3
              clear hK K
              (try simp only [Act.put, List.setIfInBounds_toArray, List.set_cons_zero, List.set_cons_succ])
              refine wpAnyH_ready (rs := [9]) (by kernel_rfl) (by simp) ?_
              refine AllReadyH.cons (o := { dst := some 49, op := Go.Op.buildSlice 23 1 #[(0, Go.Operand.tmp 48)], type := 23, pos := "l2_coord.go:92", after := #[{ on := 8, ground := Go.Ground.data }], guard := none }) rfl (fun K hK => ?_) AllReadyH.nil
              go_simp
              have cX3 : (V2.alloc (.cells #[.int .i64 ((sf f m) i)] 3)).cell? ⟨V2.heap.size, 0, none⟩ = some (.int .i64 ((sf f m) i)) := by simp [go_sem]
              have BV3 : Below W.heap.size W (V2.alloc (.cells #[.int .i64 ((sf f m) i)] 3)) := (balloc (.cells #[.int .i64 ((sf f m) i)] 3) BV2)
              have oR3 := oR2.alloc (.cells #[.int .i64 ((sf f m) i)] 3)
              refine hK.out _ _ ?_ (fun hHeld => ?_)
              · (try dsimp only); exact keep_below BV3 d3
              clear hK K
              (try simp only [Act.put, List.setIfInBounds_toArray, List.set_cons_zero, List.set_cons_succ])
              generalize (V2.alloc (.cells #[.int .i64 ((sf f m) i)] 3)) = V3 at *
              refine wpAnyH_ready (rs := [10]) (by kernel_rfl) (by simp) ?_
              refine AllReadyH.cons (o := { dst := some 50, op := Go.Op.call { callee := Go.Callee.builtin Go.Builtin.append, args := #[Go.Operand.tmp 44, Go.Operand.tmp 49], argTypes := #[23, 23] }, type := 23, pos := "l2_coord.go:92", after := #[{ on := 4, ground := Go.Ground.data }, { on := 9, ground := Go.Ground.data }, { on := 4, ground := Go.Ground.chain }], guard := none }) rfl (fun K hK => ?_) AllReadyH.nil
              refine step_app (by rfl) _ _ (by rfl) W.heap.size (.slice (some ⟨g2, 0, none⟩) k c2) k _ (by rfl) (by simp) oR3 (some ⟨V2.heap.size, 0, none⟩) V2.heap.size 0 rfl 1 1 [((sf f m) i)] (by rfl) rfl (fun j hj => by obtain rfl : j = 0 := (by omega); exact cX3) (k + 1) rfl (by omega) BV3.size ?_
              intro g8 c8 V8 oR8 gr8 hc8
              have BV8 := own_grow BV3 BV3.size oR3 gr8
              refine hK.out _ _ ?_ (fun hHeld => ?_)
              · (try dsimp only); exact keep_below BV8 d3
              clear hK K
              (try simp only [Act.put, List.setIfInBounds_toArray, List.set_cons_zero, List.set_cons_succ])
              refine wpAnyH_ready (rs := [14]) (by kernel_rfl) (by simp) ?_
              refine AllReadyH.cons (o := { dst := some 54, op := Go.Op.call { callee := Go.Callee.builtin Go.Builtin.append, args := #[Go.Operand.tmp 50, Go.Operand.tmp 53], argTypes := #[23, 23] }, type := 23, pos := "l2_coord.go:92", after := #[{ on := 10, ground := Go.Ground.data }, { on := 13, ground := Go.Ground.data }, { on := 10, ground := Go.Ground.chain }], guard := none }) rfl (fun K hK => ?_) AllReadyH.nil
              refine step_app (by rfl) _ _ (by rfl) W.heap.size (.slice (some ⟨g8, 0, none⟩) (k + 1) c8) (k + 1) _ (by rfl) (by simp) oR8 (if cv = k then some ⟨g, 0, none⟩ else some ⟨g, k, none⟩) g (if cv = k then 0 else k) (by split <;> rfl) (i - k) (cv - k) ((isr (sf f m) i).drop k) (by rfl) (by simp [isr_len]) (fun j hj => by rw [if_neg (by omega), keep_below BV8 (hcs (k + j) (by omega))]; simp [List.getD, List.getElem?_drop]) (i + 1) (by omega) (by omega) BV8.size ?_
              intro g9 c9 V9 oR9 gr9 hc9
              have BV9 := own_grow BV8 BV8.size oR8 gr9
              refine hK.out _ _ ?_ (fun hHeld => ?_)
              · (try dsimp only); exact keep_below BV9 d3
              clear hK K
              (try simp only [Act.put, List.setIfInBounds_toArray, List.set_cons_zero, List.set_cons_succ])
              refine wpAnyH_take (i := 15) (oi := { dst := some 4, op := Go.Op.assign (Go.Operand.tmp 54), type := 23, pos := "l2_coord.go:92", after := #[{ on := 14, ground := Go.Ground.data }, { on := 14, ground := Go.Ground.chain }, { on := 0, ground := Go.Ground.phase }, { on := 1, ground := Go.Ground.phase }, { on := 2, ground := Go.Ground.phase }, { on := 3, ground := Go.Ground.phase }, { on := 4, ground := Go.Ground.phase }, { on := 5, ground := Go.Ground.phase }, { on := 6, ground := Go.Ground.phase }, { on := 7, ground := Go.Ground.phase }, { on := 8, ground := Go.Ground.phase }, { on := 9, ground := Go.Ground.phase }, { on := 10, ground := Go.Ground.phase }, { on := 11, ground := Go.Ground.phase }, { on := 12, ground := Go.Ground.phase }, { on := 13, ground := Go.Ground.phase }, { on := 14, ground := Go.Ground.phase }], guard := none }) (v := ?_) rfl (by kernel_rfl) (by kernel_rfl) (by kernel_rfl) (fun _ _ _ h => h) (Or.inl ⟨by rfl, ?_⟩) (by assumption) ?_
              rotate_left 1
              · (intro w hSw; (try dsimp only at hSw); go_simp; try with_reducible rfl)
              (try simp only [Act.put, List.setIfInBounds_toArray, List.set_cons_zero, List.set_cons_succ])
              refine wpAnyH_done (by kernel_rfl) ?_ _
              have BF := btrans hb3 BV9
              have oF : V9.ownsRow w.heap.size 3 1 (.slice (some ⟨g9, 0, none⟩) (i + 1) c9) (i + 1) (lv (isr (sf f m) (i + 1))) := by
                have e1 : isr (sf f m) (i + 1) = [] ++ (isr (sf f m) i).take k ++ [((sf f m) i)] ++ (isr (sf f m) i).drop k := by rw [isr, insL, ← hk.out]; simp
                rw [e1]
                exact own_mono hb3.size oR9
              clear oR9 oR8 gr8 gr9 hc8 BV8 BV9 hcs
              go_wp2
              go_roundw
              case rel => exact ⟨i + 1, by omega, by go_num, ⟨g9, c9, rfl, hc9, oF⟩, BF⟩
              case measure => simp [intOf]; omega
            · go_simp
              have cX2 : (V1.alloc (.cells #[.int .i64 ((sf f m) i)] 3)).cell? ⟨V1.heap.size, 0, none⟩ = some (.int .i64 ((sf f m) i)) := by simp [go_sem]
              have BV2 : Below W.heap.size W (V1.alloc (.cells #[.int .i64 ((sf f m) i)] 3)) := (balloc (.cells #[.int .i64 ((sf f m) i)] 3) BV1)
              have oR2 := oR1.alloc (.cells #[.int .i64 ((sf f m) i)] 3)
              have nX : V1.heap.size ≠ W.heap.size := by have := oR1.lt W.heap.size rfl; omega
              refine hK.out _ _ ?_ (fun hHeld => ?_)
              · (try dsimp only); exact keep_below BV2 d3
              clear hK K
              (try simp only [Act.put, List.setIfInBounds_toArray, List.set_cons_zero, List.set_cons_succ])
              generalize (V1.alloc (.cells #[.int .i64 ((sf f m) i)] 3)) = V2 at *
              refine wpAnyH_ready (rs := [4]) (by kernel_rfl) (by simp) ?_
              refine AllReadyH.cons (o := { dst := some 44, op := Go.Op.call { callee := Go.Callee.builtin Go.Builtin.append, args := #[Go.Operand.tmp 40, Go.Operand.tmp 43], argTypes := #[23, 23] }, type := 23, pos := "l2_coord.go:92", after := #[{ on := 0, ground := Go.Ground.data }, { on := 3, ground := Go.Ground.data }], guard := none }) rfl (fun K hK => ?_) AllReadyH.nil
              refine step_app (by rfl) _ _ (by rfl) W.heap.size (.slice (some ⟨W.heap.size, 0, none⟩) 0 0) 0 [] (by rfl) (by simp) oR2 _ g 0 rfl k cv ((isr (sf f m) i).take k) (by rfl) (by simp [isr_len]; omega) (fun j hj => by rw [Nat.zero_add, keep_below BV2 (hcs j (by omega))]; simp [List.getD, hj]) k (Nat.zero_add k) (by omega) BV2.size ?_
              intro g3 c3 V3 oR3 gr3 hc3
              have BV3 := own_grow BV2 BV2.size oR2 gr3
              have cX3 := keep_grown gr3 nX cX2
              refine hK.out _ _ ?_ (fun hHeld => ?_)
              · (try dsimp only); exact keep_below BV3 d3
              clear hK K
              (try simp only [Act.put, List.setIfInBounds_toArray, List.set_cons_zero, List.set_cons_succ])
              refine wpAnyH_ready (rs := [10]) (by kernel_rfl) (by simp) ?_
              refine AllReadyH.cons (o := { dst := some 50, op := Go.Op.call { callee := Go.Callee.builtin Go.Builtin.append, args := #[Go.Operand.tmp 44, Go.Operand.tmp 49], argTypes := #[23, 23] }, type := 23, pos := "l2_coord.go:92", after := #[{ on := 4, ground := Go.Ground.data }, { on := 9, ground := Go.Ground.data }, { on := 4, ground := Go.Ground.chain }], guard := none }) rfl (fun K hK => ?_) AllReadyH.nil
              refine step_app (by rfl) _ _ (by rfl) W.heap.size (.slice (some ⟨g3, 0, none⟩) k c3) k _ (by rfl) (by simp) oR3 (some ⟨V1.heap.size, 0, none⟩) V1.heap.size 0 rfl 1 1 [((sf f m) i)] (by rfl) rfl (fun j hj => by obtain rfl : j = 0 := (by omega); exact cX3) (k + 1) rfl (by omega) BV3.size ?_
              intro g8 c8 V8 oR8 gr8 hc8
              have BV8 := own_grow BV3 BV3.size oR3 gr8
              refine hK.out _ _ ?_ (fun hHeld => ?_)
              · (try dsimp only); exact keep_below BV8 d3
              clear hK K
              (try simp only [Act.put, List.setIfInBounds_toArray, List.set_cons_zero, List.set_cons_succ])
              refine wpAnyH_ready (rs := [14]) (by kernel_rfl) (by simp) ?_
              refine AllReadyH.cons (o := { dst := some 54, op := Go.Op.call { callee := Go.Callee.builtin Go.Builtin.append, args := #[Go.Operand.tmp 50, Go.Operand.tmp 53], argTypes := #[23, 23] }, type := 23, pos := "l2_coord.go:92", after := #[{ on := 10, ground := Go.Ground.data }, { on := 13, ground := Go.Ground.data }, { on := 10, ground := Go.Ground.chain }], guard := none }) rfl (fun K hK => ?_) AllReadyH.nil
              refine step_app (by rfl) _ _ (by rfl) W.heap.size (.slice (some ⟨g8, 0, none⟩) (k + 1) c8) (k + 1) _ (by rfl) (by simp) oR8 (if cv = k then some ⟨g, 0, none⟩ else some ⟨g, k, none⟩) g (if cv = k then 0 else k) (by split <;> rfl) (i - k) (cv - k) ((isr (sf f m) i).drop k) (by rfl) (by simp [isr_len]) (fun j hj => by rw [if_neg (by omega), keep_below BV8 (hcs (k + j) (by omega))]; simp [List.getD, List.getElem?_drop]) (i + 1) (by omega) (by omega) BV8.size ?_
              intro g9 c9 V9 oR9 gr9 hc9
              have BV9 := own_grow BV8 BV8.size oR8 gr9
              refine hK.out _ _ ?_ (fun hHeld => ?_)
              · (try dsimp only); exact keep_below BV9 d3
              clear hK K
              (try simp only [Act.put, List.setIfInBounds_toArray, List.set_cons_zero, List.set_cons_succ])
              refine wpAnyH_take (i := 15) (oi := { dst := some 4, op := Go.Op.assign (Go.Operand.tmp 54), type := 23, pos := "l2_coord.go:92", after := #[{ on := 14, ground := Go.Ground.data }, { on := 14, ground := Go.Ground.chain }, { on := 0, ground := Go.Ground.phase }, { on := 1, ground := Go.Ground.phase }, { on := 2, ground := Go.Ground.phase }, { on := 3, ground := Go.Ground.phase }, { on := 4, ground := Go.Ground.phase }, { on := 5, ground := Go.Ground.phase }, { on := 6, ground := Go.Ground.phase }, { on := 7, ground := Go.Ground.phase }, { on := 8, ground := Go.Ground.phase }, { on := 9, ground := Go.Ground.phase }, { on := 10, ground := Go.Ground.phase }, { on := 11, ground := Go.Ground.phase }, { on := 12, ground := Go.Ground.phase }, { on := 13, ground := Go.Ground.phase }, { on := 14, ground := Go.Ground.phase }], guard := none }) (v := ?_) rfl (by kernel_rfl) (by kernel_rfl) (by kernel_rfl) (fun _ _ _ h => h) (Or.inl ⟨by rfl, ?_⟩) (by assumption) ?_
              rotate_left 1
              · (intro w hSw; (try dsimp only at hSw); go_simp; try with_reducible rfl)
              (try simp only [Act.put, List.setIfInBounds_toArray, List.set_cons_zero, List.set_cons_succ])
              refine wpAnyH_done (by kernel_rfl) ?_ _
              have BF := btrans hb3 BV9
              have oF : V9.ownsRow w.heap.size 3 1 (.slice (some ⟨g9, 0, none⟩) (i + 1) c9) (i + 1) (lv (isr (sf f m) (i + 1))) := by
                have e1 : isr (sf f m) (i + 1) = [] ++ (isr (sf f m) i).take k ++ [((sf f m) i)] ++ (isr (sf f m) i).drop k := by rw [isr, insL, ← hk.out]; simp
                rw [e1]
                exact own_mono hb3.size oR9
              clear oR9 oR8 gr8 gr9 hc8 BV8 BV9 hcs
              go_wp2
              go_roundw
              case rel => exact ⟨i + 1, by omega, by go_num, ⟨g9, c9, rfl, hc9, oF⟩, BF⟩
              case measure => simp [intOf]; omega
          · go_simp
            have cX1 : ((W.alloc (.cells #[.int .i64 ((sf f m) i)] 3)).drew).cell? ⟨W.heap.size, 0, none⟩ = some (.int .i64 ((sf f m) i)) := by simp [go_sem]
            have BV1 : Below W.heap.size W ((W.alloc (.cells #[.int .i64 ((sf f m) i)] 3)).drew) := QB1 (balloc (.cells #[.int .i64 ((sf f m) i)] 3) (Below.refl _ W))
            have xlt := World.block_lt_of_cell? _ _ cX1
            refine hK.out _ _ ?_ (fun hHeld => ?_)
            · (try dsimp only); exact keep_below BV1 d3
            clear hK K
            (try simp only [Act.put, List.setIfInBounds_toArray, List.set_cons_zero, List.set_cons_succ])
            generalize ((W.alloc (.cells #[.int .i64 ((sf f m) i)] 3)).drew) = V1 at *
            refine wpAnyH_ready (rs := [0]) (by kernel_rfl) (by simp) ?_
            refine AllReadyH.cons (o := { dst := some 40, op := Go.Op.buildSlice 23 0 #[], type := 23, pos := "l2_coord.go:92", after := #[], guard := none }) rfl (fun K hK => ?_) AllReadyH.nil
            go_simp
            have oR2 : (V1.alloc (.cells #[] 3)).ownsRow W.heap.size 3 1 (.slice (some ⟨V1.heap.size, 0, none⟩) 0 0) 0 (lv []) := World.ownsRow_lit V1 #[] 0 (BV1.size) (by unfold maxLen; omega) rfl
            have BV2 : Below W.heap.size W (V1.alloc (.cells #[] 3)) := (balloc (.cells #[] 3) BV1)
            have cX2 := keep_alloc (.cells #[] 3) cX1
            have nX : W.heap.size ≠ V1.heap.size := by simp at xlt; omega
            refine hK.out _ _ ?_ (fun hHeld => ?_)
            · (try dsimp only); exact keep_below BV2 d3
            clear hK K
            (try simp only [Act.put, List.setIfInBounds_toArray, List.set_cons_zero, List.set_cons_succ])
            generalize (V1.alloc (.cells #[] 3)) = V2 at *
            refine wpAnyH_ready (rs := [4]) (by kernel_rfl) (by simp) ?_
            refine AllReadyH.cons (o := { dst := some 44, op := Go.Op.call { callee := Go.Callee.builtin Go.Builtin.append, args := #[Go.Operand.tmp 40, Go.Operand.tmp 43], argTypes := #[23, 23] }, type := 23, pos := "l2_coord.go:92", after := #[{ on := 0, ground := Go.Ground.data }, { on := 3, ground := Go.Ground.data }], guard := none }) rfl (fun K hK => ?_) AllReadyH.nil
            refine step_app (by rfl) _ _ (by rfl) W.heap.size (.slice (some ⟨V1.heap.size, 0, none⟩) 0 0) 0 [] (by rfl) (by simp) oR2 _ g 0 rfl k cv ((isr (sf f m) i).take k) (by rfl) (by simp [isr_len]; omega) (fun j hj => by rw [Nat.zero_add, keep_below BV2 (hcs j (by omega))]; simp [List.getD, hj]) k (Nat.zero_add k) (by omega) BV2.size ?_
            intro g3 c3 V3 oR3 gr3 hc3
            have BV3 := own_grow BV2 BV2.size oR2 gr3
            have cX3 := keep_grown gr3 nX cX2
            refine hK.out _ _ ?_ (fun hHeld => ?_)
            · (try dsimp only); exact keep_below BV3 d3
            clear hK K
            (try simp only [Act.put, List.setIfInBounds_toArray, List.set_cons_zero, List.set_cons_succ])
            refine wpAnyH_ready (rs := [10]) (by kernel_rfl) (by simp) ?_
            refine AllReadyH.cons (o := { dst := some 50, op := Go.Op.call { callee := Go.Callee.builtin Go.Builtin.append, args := #[Go.Operand.tmp 44, Go.Operand.tmp 49], argTypes := #[23, 23] }, type := 23, pos := "l2_coord.go:92", after := #[{ on := 4, ground := Go.Ground.data }, { on := 9, ground := Go.Ground.data }, { on := 4, ground := Go.Ground.chain }], guard := none }) rfl (fun K hK => ?_) AllReadyH.nil
            refine step_app (by rfl) _ _ (by rfl) W.heap.size (.slice (some ⟨g3, 0, none⟩) k c3) k _ (by rfl) (by simp) oR3 (some ⟨W.heap.size, 0, none⟩) W.heap.size 0 rfl 1 1 [((sf f m) i)] (by rfl) rfl (fun j hj => by obtain rfl : j = 0 := (by omega); exact cX3) (k + 1) rfl (by omega) BV3.size ?_
            intro g8 c8 V8 oR8 gr8 hc8
            have BV8 := own_grow BV3 BV3.size oR3 gr8
            refine hK.out _ _ ?_ (fun hHeld => ?_)
            · (try dsimp only); exact keep_below BV8 d3
            clear hK K
            (try simp only [Act.put, List.setIfInBounds_toArray, List.set_cons_zero, List.set_cons_succ])
            refine wpAnyH_ready (rs := [14]) (by kernel_rfl) (by simp) ?_
            refine AllReadyH.cons (o := { dst := some 54, op := Go.Op.call { callee := Go.Callee.builtin Go.Builtin.append, args := #[Go.Operand.tmp 50, Go.Operand.tmp 53], argTypes := #[23, 23] }, type := 23, pos := "l2_coord.go:92", after := #[{ on := 10, ground := Go.Ground.data }, { on := 13, ground := Go.Ground.data }, { on := 10, ground := Go.Ground.chain }], guard := none }) rfl (fun K hK => ?_) AllReadyH.nil
            refine step_app (by rfl) _ _ (by rfl) W.heap.size (.slice (some ⟨g8, 0, none⟩) (k + 1) c8) (k + 1) _ (by rfl) (by simp) oR8 (if cv = k then some ⟨g, 0, none⟩ else some ⟨g, k, none⟩) g (if cv = k then 0 else k) (by split <;> rfl) (i - k) (cv - k) ((isr (sf f m) i).drop k) (by rfl) (by simp [isr_len]) (fun j hj => by rw [if_neg (by omega), keep_below BV8 (hcs (k + j) (by omega))]; simp [List.getD, List.getElem?_drop]) (i + 1) (by omega) (by omega) BV8.size ?_
            intro g9 c9 V9 oR9 gr9 hc9
            have BV9 := own_grow BV8 BV8.size oR8 gr9
            refine hK.out _ _ ?_ (fun hHeld => ?_)
            · (try dsimp only); exact keep_below BV9 d3
            clear hK K
            (try simp only [Act.put, List.setIfInBounds_toArray, List.set_cons_zero, List.set_cons_succ])
            refine wpAnyH_take (i := 15) (oi := { dst := some 4, op := Go.Op.assign (Go.Operand.tmp 54), type := 23, pos := "l2_coord.go:92", after := #[{ on := 14, ground := Go.Ground.data }, { on := 14, ground := Go.Ground.chain }, { on := 0, ground := Go.Ground.phase }, { on := 1, ground := Go.Ground.phase }, { on := 2, ground := Go.Ground.phase }, { on := 3, ground := Go.Ground.phase }, { on := 4, ground := Go.Ground.phase }, { on := 5, ground := Go.Ground.phase }, { on := 6, ground := Go.Ground.phase }, { on := 7, ground := Go.Ground.phase }, { on := 8, ground := Go.Ground.phase }, { on := 9, ground := Go.Ground.phase }, { on := 10, ground := Go.Ground.phase }, { on := 11, ground := Go.Ground.phase }, { on := 12, ground := Go.Ground.phase }, { on := 13, ground := Go.Ground.phase }, { on := 14, ground := Go.Ground.phase }], guard := none }) (v := ?_) rfl (by kernel_rfl) (by kernel_rfl) (by kernel_rfl) (fun _ _ _ h => h) (Or.inl ⟨by rfl, ?_⟩) (by assumption) ?_
            rotate_left 1
            · (intro w hSw; (try dsimp only at hSw); go_simp; try with_reducible rfl)
            (try simp only [Act.put, List.setIfInBounds_toArray, List.set_cons_zero, List.set_cons_succ])
            refine wpAnyH_done (by kernel_rfl) ?_ _
            have BF := btrans hb3 BV9
            have oF : V9.ownsRow w.heap.size 3 1 (.slice (some ⟨g9, 0, none⟩) (i + 1) c9) (i + 1) (lv (isr (sf f m) (i + 1))) := by
              have e1 : isr (sf f m) (i + 1) = [] ++ (isr (sf f m) i).take k ++ [((sf f m) i)] ++ (isr (sf f m) i).drop k := by rw [isr, insL, ← hk.out]; simp
              rw [e1]
              exact own_mono hb3.size oR9
            clear oR9 oR8 gr8 gr9 hc8 BV8 BV9 hcs
            go_wp2
            go_roundw
            case rel => exact ⟨i + 1, by omega, by go_num, ⟨g9, c9, rfl, hc9, oF⟩, BF⟩
            case measure => simp [intOf]; omega
    · have e : i = 3 := by omega
      subst e
      have c1 := own_at hown 1 (by omega)
      generalize (isr (sf f m) 3).getD 1 0 = X at *
      clear hown
      go_wp2
      go_ret
      exact ⟨by rw [hmd.out]; rfl, hb⟩
set_option maxHeartbeats 4000000 in
theorem smed_small (a : Option Addr) (len cap : Nat) (f : Nat → Int) (w : World) (h : ISl w a len f) (hl : len ≤ 3) :
    Calls Try.prog 6 #[.slice a len cap] w fun e w' => e = .returned (.int .i64 (med len f)) ∧ Below w.heap.size w w' := by
  obtain ⟨ti, hi, hz0, hz1, hz2⟩ := info_parts info3
  have i3 : ¬ (3 : Int) < (len : Int) := by omega
  go_enter Try.func6, Try.ntmps6
  go_wp2_with fail
  go_loopw [4, 5, 6] (fun v iv _ wr => ∃ i : Nat, i ≤ len ∧ iv = .int .i64 i ∧ (∃ g cv, v = .slice (some ⟨g, 0, none⟩) i cv ∧ i ≤ cv ∧ wr.ownsRow w.heap.size 3 1 (.slice (some ⟨g, 0, none⟩) i cv) i (lv (isr f i))) ∧ Below w.heap.size w wr) (fun _ iv _ _ => len - (intOf iv).toNat)
  case atStart => exact ⟨0, by omega, rfl, ⟨_, 0, rfl, Nat.le_refl _, World.ownsRow_lit w #[] 0 (Nat.le_refl _) (by unfold maxLen; omega) rfl⟩, balloc _ (Below.refl _ _)⟩
  case round =>
    obtain ⟨i, hin, rfl, ⟨g, cv, rfl, hcv, hown⟩, hb⟩ := hrel
    by_cases hlt : i < len
    · obtain ⟨b, off, rfl, hbl, hf⟩ := h (by omega)
      have i4 : (i : Int) < (len : Int) := by omega
      have i5 : (0 : Int) ≤ (i : Int) := by omega
      have c0 := (hf.below hb hbl) i hlt
      go_wp2_with fail
      go_loopw [6] (fun kv wr2 => ∃ k : Nat, k ≤ i ∧ kv = .int .i64 k ∧ wr2.ownsRow w.heap.size 3 1 (.slice (some ⟨g, 0, none⟩) i cv) i (lv (isr f i)) ∧ Below w.heap.size w wr2 ∧ ∀ j, j < k → (isr f i).getD j 0 ≤ f i) (fun kv _ => i - (intOf kv).toNat)
      case atStart => exact ⟨0, by omega, rfl, hown, hb, fun j hj => by omega⟩
      case round =>
        obtain ⟨k, hki, rfl, own2, hb2, hall⟩ := hrel
        clear hown hb c0
        have d0 := (hf.below hb2 hbl) i hlt
        have i6 : (0 : Int) ≤ (k : Int) := by omega
        by_cases hlk : k < i
        · obtain ⟨X, hX⟩ : ∃ X, Hid (X = (isr f i).getD k 0) := ⟨_, rfl⟩
          have e0 := own_at own2 k hlk
          rw [← hX.out] at e0
          have i7 : (k : Int) < (i : Int) := by omega
          go_wp2_with fail
          go_quiet (fail)
          by_cases hle : X ≤ f i
          · go_wp2
            go_roundw
            case rel => exact ⟨k + 1, by omega, by go_num, own2, QB hb2, fun j hj => by
              by_cases e : j = k
              · subst e; rw [← hX.out]; exact hle
              · exact hall j (by omega)⟩
            case measure => simp [intOf]; omega
          · have hk : Hid (k = lead (f i) (isr f i)) := lead_of (f i) (isr f i) k (by rw [isr_len]; omega) hall (fun _ => by rw [← hX.out]; omega)
            clear e0
            go_wp2_with fail
            have own3 : (wr.drewN nq).ownsRow w.heap.size 3 1 (.slice (some ⟨g, 0, none⟩) i cv) i (lv (isr f i)) := own2
            have hb3 : Below w.heap.size w (wr.drewN nq) := QB hb2
            have d3 : (wr.drewN nq).cell? ⟨b, off + i, none⟩ = some (.int .i64 (f i)) := d0
            clear own2 hb2 d0 hall
            generalize (wr.drewN nq) = W at *
            have k7 : (k : Int) ≤ (i : Int) := by omega
            have k9 : k ≤ cv := by omega
            have hgW : g < W.heap.size := ((own3.lt g rfl).2)
            have hcs : ∀ j, j < i → W.cell? ⟨g, j, none⟩ = some (.int .i64 ((isr f i).getD j 0)) := fun j hj => own_at own3 j hj
            refine wp_region_held_drew (S := fun w' => w'.cell? ⟨b, off + i, none⟩ = some (.int .i64 (f i))) (by kernel_rfl) ?_ (fun hHeld => ?_)
            · (try dsimp only); exact d3
            refine wpAnyH_take (i := 1) (oi := { dst := some 41, op := Go.Op.move (Go.Operand.tmp 4), type := 23, pos := "l2_coord.go:92", after := #[], guard := none }) (v := ?_) rfl (by kernel_rfl) (by kernel_rfl) (by kernel_rfl) (fun _ _ _ h => h) (Or.inl ⟨by rfl, ?_⟩) (by assumption) ?_
            rotate_left 1
            · (intro w hSw; (try dsimp only at hSw); go_simp; try with_reducible rfl)
            (try simp only [Act.put, List.setIfInBounds_toArray, List.set_cons_zero, List.set_cons_succ])
            refine wpAnyH_take (i := 2) (oi := { dst := some 42, op := Go.Op.move (Go.Operand.tmp 6), type := 3, pos := "l2_coord.go:92", after := #[], guard := none }) (v := ?_) rfl (by kernel_rfl) (by kernel_rfl) (by kernel_rfl) (fun _ _ _ h => h) (Or.inl ⟨by rfl, ?_⟩) (by assumption) ?_
            rotate_left 1
            · (intro w hSw; (try dsimp only at hSw); go_simp; try with_reducible rfl)
            (try simp only [Act.put, List.setIfInBounds_toArray, List.set_cons_zero, List.set_cons_succ])
            refine wpAnyH_take (i := 3) (oi := { dst := some 43, op := Go.Op.slice 23 (Go.Operand.tmp 41) none (some (Go.Operand.tmp 42)) none, type := 23, pos := "l2_coord.go:92", after := #[{ on := 1, ground := Go.Ground.data }, { on := 2, ground := Go.Ground.data }], guard := none }) (v := ?_) rfl (by kernel_rfl) (by kernel_rfl) (by kernel_rfl) (fun _ _ _ h => h) (Or.inl ⟨by rfl, ?_⟩) (by assumption) ?_
            rotate_left 1
            · (intro w hSw; (try dsimp only at hSw); go_simp; try with_reducible rfl)
            (try simp only [Act.put, List.setIfInBounds_toArray, List.set_cons_zero, List.set_cons_succ])
            refine wpAnyH_take (i := 5) (oi := { dst := some 45, op := Go.Op.move (Go.Operand.tmp 3), type := 23, pos := "l2_coord.go:92", after := #[], guard := none }) (v := ?_) rfl (by kernel_rfl) (by kernel_rfl) (by kernel_rfl) (fun _ _ _ h => h) (Or.inl ⟨by rfl, ?_⟩) (by assumption) ?_
            rotate_left 1
            · (intro w hSw; (try dsimp only at hSw); go_simp; try with_reducible rfl)
            (try simp only [Act.put, List.setIfInBounds_toArray, List.set_cons_zero, List.set_cons_succ])
            refine wpAnyH_take (i := 6) (oi := { dst := some 46, op := Go.Op.move (Go.Operand.tmp 5), type := 3, pos := "l2_coord.go:92", after := #[], guard := none }) (v := ?_) rfl (by kernel_rfl) (by kernel_rfl) (by kernel_rfl) (fun _ _ _ h => h) (Or.inl ⟨by rfl, ?_⟩) (by assumption) ?_
            rotate_left 1
            · (intro w hSw; (try dsimp only at hSw); go_simp; try with_reducible rfl)
            (try simp only [Act.put, List.setIfInBounds_toArray, List.set_cons_zero, List.set_cons_succ])
            refine wpAnyH_take (i := 7) (oi := { dst := some 47, op := Go.Op.indexAddr 23 (Go.Operand.tmp 45) (Go.Operand.tmp 46), type := 0, pos := "l2_coord.go:92", after := #[{ on := 5, ground := Go.Ground.data }, { on := 6, ground := Go.Ground.data }], guard := none }) (v := ?_) rfl (by kernel_rfl) (by kernel_rfl) (by kernel_rfl) (fun _ _ _ h => h) (Or.inl ⟨by rfl, ?_⟩) (by assumption) ?_
            rotate_left 1
            · (intro w hSw; (try dsimp only at hSw); go_simp; try with_reducible rfl)
            (try simp only [Act.put, List.setIfInBounds_toArray, List.set_cons_zero, List.set_cons_succ])
            refine wpAnyH_take (i := 8) (oi := { dst := some 48, op := Go.Op.load 3 (Go.Operand.tmp 47), type := 3, pos := "l2_coord.go:92", after := #[{ on := 7, ground := Go.Ground.data }], guard := none }) (v := ?_) rfl (by kernel_rfl) (by kernel_rfl) (by kernel_rfl) (fun _ _ _ h => h) (Or.inl ⟨by rfl, ?_⟩) (by assumption) ?_
            rotate_left 1
            · (intro w hSw; (try dsimp only at hSw); go_simp; try with_reducible rfl)
            (try simp only [Act.put, List.setIfInBounds_toArray, List.set_cons_zero, List.set_cons_succ])
            refine wpAnyH_take (i := 11) (oi := { dst := some 51, op := Go.Op.move (Go.Operand.tmp 4), type := 23, pos := "l2_coord.go:92", after := #[], guard := none }) (v := ?_) rfl (by kernel_rfl) (by kernel_rfl) (by kernel_rfl) (fun _ _ _ h => h) (Or.inl ⟨by rfl, ?_⟩) (by assumption) ?_
            rotate_left 1
            · (intro w hSw; (try dsimp only at hSw); go_simp; try with_reducible rfl)
            (try simp only [Act.put, List.setIfInBounds_toArray, List.set_cons_zero, List.set_cons_succ])
            refine wpAnyH_take (i := 12) (oi := { dst := some 52, op := Go.Op.move (Go.Operand.tmp 6), type := 3, pos := "l2_coord.go:92", after := #[], guard := none }) (v := ?_) rfl (by kernel_rfl) (by kernel_rfl) (by kernel_rfl) (fun _ _ _ h => h) (Or.inl ⟨by rfl, ?_⟩) (by assumption) ?_
            rotate_left 1
            · (intro w hSw; (try dsimp only at hSw); go_simp; try with_reducible rfl)
            (try simp only [Act.put, List.setIfInBounds_toArray, List.set_cons_zero, List.set_cons_succ])
            refine wpAnyH_take (i := 13) (oi := { dst := some 53, op := Go.Op.slice 23 (Go.Operand.tmp 51) (some (Go.Operand.tmp 52)) none none, type := 23, pos := "l2_coord.go:92", after := #[{ on := 11, ground := Go.Ground.data }, { on := 12, ground := Go.Ground.data }], guard := none }) (v := ?_) rfl (by kernel_rfl) (by kernel_rfl) (by kernel_rfl) (fun _ _ _ h => h) (Or.inl ⟨by rfl, ?_⟩) (by assumption) ?_
            rotate_left 1
            · (intro w hSw; (try dsimp only at hSw); go_simp; try with_reducible rfl)
            (try simp only [Act.put, List.setIfInBounds_toArray, List.set_cons_zero, List.set_cons_succ])
            refine wpAnyH_ready (rs := [0, 9]) (by kernel_rfl) (by simp) ?_
            refine AllReadyH.cons (o := { dst := some 40, op := Go.Op.buildSlice 23 0 #[], type := 23, pos := "l2_coord.go:92", after := #[], guard := none }) rfl (fun K hK => ?_) (AllReadyH.cons (o := { dst := some 49, op := Go.Op.buildSlice 23 1 #[(0, Go.Operand.tmp 48)], type := 23, pos := "l2_coord.go:92", after := #[{ on := 8, ground := Go.Ground.data }], guard := none }) rfl (fun K hK => ?_) AllReadyH.nil)
            · go_simp
              have oR1 : ((W.alloc (.cells #[] 3)).drew).ownsRow W.heap.size 3 1 (.slice (some ⟨W.heap.size, 0, none⟩) 0 0) 0 (lv []) := World.ownsRow_lit W #[] 0 (Nat.le_refl _) (by unfold maxLen; omega) rfl
              have BV1 : Below W.heap.size W ((W.alloc (.cells #[] 3)).drew) := QB1 (balloc (.cells #[] 3) (Below.refl _ W))
              refine hK.out _ _ ?_ (fun hHeld => ?_)
              · (try dsimp only); exact keep_below BV1 d3
              clear hK K
              (try simp only [Act.put, List.setIfInBounds_toArray, List.set_cons_zero, List.set_cons_succ])
              generalize ((W.alloc (.cells #[] 3)).drew) = V1 at *
              refine wpAnyH_ready (rs := [4, 9]) (by kernel_rfl) (by simp) ?_
              refine AllReadyH.cons (o := { dst := some 44, op := Go.Op.call { callee := Go.Callee.builtin Go.Builtin.append, args := #[Go.Operand.tmp 40, Go.Operand.tmp 43], argTypes := #[23, 23] }, type := 23, pos := "l2_coord.go:92", after := #[{ on := 0, ground := Go.Ground.data }, { on := 3, ground := Go.Ground.data }], guard := none }) rfl (fun K hK => ?_) (AllReadyH.cons (o := { dst := some 49, op := Go.Op.buildSlice 23 1 #[(0, Go.Operand.tmp 48)], type := 23, pos := "l2_coord.go:92", after := #[{ on := 8, ground := Go.Ground.data }], guard := none }) rfl (fun K hK => ?_) AllReadyH.nil)
              · refine step_app (by rfl) _ _ (by rfl) W.heap.size (.slice (some ⟨W.heap.size, 0, none⟩) 0 0) 0 [] (by rfl) (by simp) oR1 _ g 0 rfl k cv ((isr f i).take k) (by rfl) (by simp [isr_len]; omega) (fun j hj => by rw [Nat.zero_add, keep_below BV1 (hcs j (by omega))]; simp [List.getD, hj]) k (Nat.zero_add k) (by omega) BV1.size ?_
                intro g2 c2 V2 oR2 gr2 hc2
                have BV2 := own_grow BV1 BV1.size oR1 gr2
                refine hK.out _ _ ?_ (fun hHeld => ?_)
                · (try dsimp only); exact keep_below BV2 d3
                clear hK K
                (try simp only [Act.put, List.setIfInBounds_toArray, List.set_cons_zero, List.set_cons_succ])
                refine wpAnyH_ready (rs := [9]) (by kernel_rfl) (by simp) ?_
                refine AllReadyH.cons (o := { dst := some 49, op := Go.Op.buildSlice 23 1 #[(0, Go.Operand.tmp 48)], type := 23, pos := "l2_coord.go:92", after := #[{ on := 8, ground := Go.Ground.data }], guard := none }) rfl (fun K hK => ?_) AllReadyH.nil
                go_simp
                have cX3 : (V2.alloc (.cells #[.int .i64 (f i)] 3)).cell? ⟨V2.heap.size, 0, none⟩ = some (.int .i64 (f i)) := by simp [go_sem]
                have BV3 : Below W.heap.size W (V2.alloc (.cells #[.int .i64 (f i)] 3)) := (balloc (.cells #[.int .i64 (f i)] 3) BV2)
                have oR3 := oR2.alloc (.cells #[.int .i64 (f i)] 3)
                refine hK.out _ _ ?_ (fun hHeld => ?_)
                · (try dsimp only); exact keep_below BV3 d3
                clear hK K
                (try simp only [Act.put, List.setIfInBounds_toArray, List.set_cons_zero, List.set_cons_succ])
                generalize (V2.alloc (.cells #[.int .i64 (f i)] 3)) = V3 at *
                refine wpAnyH_ready (rs := [10]) (by kernel_rfl) (by simp) ?_
                refine AllReadyH.cons (o := { dst := some 50, op := Go.Op.call { callee := Go.Callee.builtin Go.Builtin.append, args := #[Go.Operand.tmp 44, Go.Operand.tmp 49], argTypes := #[23, 23] }, type := 23, pos := "l2_coord.go:92", after := #[{ on := 4, ground := Go.Ground.data }, { on := 9, ground := Go.Ground.data }, { on := 4, ground := Go.Ground.chain }], guard := none }) rfl (fun K hK => ?_) AllReadyH.nil
                refine step_app (by rfl) _ _ (by rfl) W.heap.size (.slice (some ⟨g2, 0, none⟩) k c2) k _ (by rfl) (by simp) oR3 (some ⟨V2.heap.size, 0, none⟩) V2.heap.size 0 rfl 1 1 [(f i)] (by rfl) rfl (fun j hj => by obtain rfl : j = 0 := (by omega); exact cX3) (k + 1) rfl (by omega) BV3.size ?_
                intro g8 c8 V8 oR8 gr8 hc8
                have BV8 := own_grow BV3 BV3.size oR3 gr8
                refine hK.out _ _ ?_ (fun hHeld => ?_)
                · (try dsimp only); exact keep_below BV8 d3
                clear hK K
                (try simp only [Act.put, List.setIfInBounds_toArray, List.set_cons_zero, List.set_cons_succ])
                refine wpAnyH_ready (rs := [14]) (by kernel_rfl) (by simp) ?_
                refine AllReadyH.cons (o := { dst := some 54, op := Go.Op.call { callee := Go.Callee.builtin Go.Builtin.append, args := #[Go.Operand.tmp 50, Go.Operand.tmp 53], argTypes := #[23, 23] }, type := 23, pos := "l2_coord.go:92", after := #[{ on := 10, ground := Go.Ground.data }, { on := 13, ground := Go.Ground.data }, { on := 10, ground := Go.Ground.chain }], guard := none }) rfl (fun K hK => ?_) AllReadyH.nil
                refine step_app (by rfl) _ _ (by rfl) W.heap.size (.slice (some ⟨g8, 0, none⟩) (k + 1) c8) (k + 1) _ (by rfl) (by simp) oR8 (if cv = k then some ⟨g, 0, none⟩ else some ⟨g, k, none⟩) g (if cv = k then 0 else k) (by split <;> rfl) (i - k) (cv - k) ((isr f i).drop k) (by rfl) (by simp [isr_len]) (fun j hj => by rw [if_neg (by omega), keep_below BV8 (hcs (k + j) (by omega))]; simp [List.getD, List.getElem?_drop]) (i + 1) (by omega) (by omega) BV8.size ?_
                intro g9 c9 V9 oR9 gr9 hc9
                have BV9 := own_grow BV8 BV8.size oR8 gr9
                refine hK.out _ _ ?_ (fun hHeld => ?_)
                · (try dsimp only); exact keep_below BV9 d3
                clear hK K
                (try simp only [Act.put, List.setIfInBounds_toArray, List.set_cons_zero, List.set_cons_succ])
                refine wpAnyH_take (i := 15) (oi := { dst := some 4, op := Go.Op.assign (Go.Operand.tmp 54), type := 23, pos := "l2_coord.go:92", after := #[{ on := 14, ground := Go.Ground.data }, { on := 14, ground := Go.Ground.chain }, { on := 0, ground := Go.Ground.phase }, { on := 1, ground := Go.Ground.phase }, { on := 2, ground := Go.Ground.phase }, { on := 3, ground := Go.Ground.phase }, { on := 4, ground := Go.Ground.phase }, { on := 5, ground := Go.Ground.phase }, { on := 6, ground := Go.Ground.phase }, { on := 7, ground := Go.Ground.phase }, { on := 8, ground := Go.Ground.phase }, { on := 9, ground := Go.Ground.phase }, { on := 10, ground := Go.Ground.phase }, { on := 11, ground := Go.Ground.phase }, { on := 12, ground := Go.Ground.phase }, { on := 13, ground := Go.Ground.phase }, { on := 14, ground := Go.Ground.phase }], guard := none }) (v := ?_) rfl (by kernel_rfl) (by kernel_rfl) (by kernel_rfl) (fun _ _ _ h => h) (Or.inl ⟨by rfl, ?_⟩) (by assumption) ?_
                rotate_left 1
                · (intro w hSw; (try dsimp only at hSw); go_simp; try with_reducible rfl)
                (try simp only [Act.put, List.setIfInBounds_toArray, List.set_cons_zero, List.set_cons_succ])
                refine wpAnyH_done (by kernel_rfl) ?_ _
                have BF := btrans hb3 BV9
                have oF : V9.ownsRow w.heap.size 3 1 (.slice (some ⟨g9, 0, none⟩) (i + 1) c9) (i + 1) (lv (isr f (i + 1))) := by
                  have e1 : isr f (i + 1) = [] ++ (isr f i).take k ++ [(f i)] ++ (isr f i).drop k := by rw [isr, insL, ← hk.out]; simp
                  rw [e1]
                  exact own_mono hb3.size oR9
                clear oR9 oR8 gr8 gr9 hc8 BV8 BV9 hcs
                go_wp2
                go_roundw
                case rel => exact ⟨i + 1, by omega, by go_num, ⟨g9, c9, rfl, hc9, oF⟩, BF⟩
                case measure => simp [intOf]; omega
              · go_simp
                have cX2 : (V1.alloc (.cells #[.int .i64 (f i)] 3)).cell? ⟨V1.heap.size, 0, none⟩ = some (.int .i64 (f i)) := by simp [go_sem]
                have BV2 : Below W.heap.size W (V1.alloc (.cells #[.int .i64 (f i)] 3)) := (balloc (.cells #[.int .i64 (f i)] 3) BV1)
                have oR2 := oR1.alloc (.cells #[.int .i64 (f i)] 3)
                have nX : V1.heap.size ≠ W.heap.size := by have := oR1.lt W.heap.size rfl; omega
                refine hK.out _ _ ?_ (fun hHeld => ?_)
                · (try dsimp only); exact keep_below BV2 d3
                clear hK K
                (try simp only [Act.put, List.setIfInBounds_toArray, List.set_cons_zero, List.set_cons_succ])
                generalize (V1.alloc (.cells #[.int .i64 (f i)] 3)) = V2 at *
                refine wpAnyH_ready (rs := [4]) (by kernel_rfl) (by simp) ?_
                refine AllReadyH.cons (o := { dst := some 44, op := Go.Op.call { callee := Go.Callee.builtin Go.Builtin.append, args := #[Go.Operand.tmp 40, Go.Operand.tmp 43], argTypes := #[23, 23] }, type := 23, pos := "l2_coord.go:92", after := #[{ on := 0, ground := Go.Ground.data }, { on := 3, ground := Go.Ground.data }], guard := none }) rfl (fun K hK => ?_) AllReadyH.nil
                refine step_app (by rfl) _ _ (by rfl) W.heap.size (.slice (some ⟨W.heap.size, 0, none⟩) 0 0) 0 [] (by rfl) (by simp) oR2 _ g 0 rfl k cv ((isr f i).take k) (by rfl) (by simp [isr_len]; omega) (fun j hj => by rw [Nat.zero_add, keep_below BV2 (hcs j (by omega))]; simp [List.getD, hj]) k (Nat.zero_add k) (by omega) BV2.size ?_
                intro g3 c3 V3 oR3 gr3 hc3
                have BV3 := own_grow BV2 BV2.size oR2 gr3
                have cX3 := keep_grown gr3 nX cX2
                refine hK.out _ _ ?_ (fun hHeld => ?_)
                · (try dsimp only); exact keep_below BV3 d3
                clear hK K
                (try simp only [Act.put, List.setIfInBounds_toArray, List.set_cons_zero, List.set_cons_succ])
                refine wpAnyH_ready (rs := [10]) (by kernel_rfl) (by simp) ?_
                refine AllReadyH.cons (o := { dst := some 50, op := Go.Op.call { callee := Go.Callee.builtin Go.Builtin.append, args := #[Go.Operand.tmp 44, Go.Operand.tmp 49], argTypes := #[23, 23] }, type := 23, pos := "l2_coord.go:92", after := #[{ on := 4, ground := Go.Ground.data }, { on := 9, ground := Go.Ground.data }, { on := 4, ground := Go.Ground.chain }], guard := none }) rfl (fun K hK => ?_) AllReadyH.nil
                refine step_app (by rfl) _ _ (by rfl) W.heap.size (.slice (some ⟨g3, 0, none⟩) k c3) k _ (by rfl) (by simp) oR3 (some ⟨V1.heap.size, 0, none⟩) V1.heap.size 0 rfl 1 1 [(f i)] (by rfl) rfl (fun j hj => by obtain rfl : j = 0 := (by omega); exact cX3) (k + 1) rfl (by omega) BV3.size ?_
                intro g8 c8 V8 oR8 gr8 hc8
                have BV8 := own_grow BV3 BV3.size oR3 gr8
                refine hK.out _ _ ?_ (fun hHeld => ?_)
                · (try dsimp only); exact keep_below BV8 d3
                clear hK K
                (try simp only [Act.put, List.setIfInBounds_toArray, List.set_cons_zero, List.set_cons_succ])
                refine wpAnyH_ready (rs := [14]) (by kernel_rfl) (by simp) ?_
                refine AllReadyH.cons (o := { dst := some 54, op := Go.Op.call { callee := Go.Callee.builtin Go.Builtin.append, args := #[Go.Operand.tmp 50, Go.Operand.tmp 53], argTypes := #[23, 23] }, type := 23, pos := "l2_coord.go:92", after := #[{ on := 10, ground := Go.Ground.data }, { on := 13, ground := Go.Ground.data }, { on := 10, ground := Go.Ground.chain }], guard := none }) rfl (fun K hK => ?_) AllReadyH.nil
                refine step_app (by rfl) _ _ (by rfl) W.heap.size (.slice (some ⟨g8, 0, none⟩) (k + 1) c8) (k + 1) _ (by rfl) (by simp) oR8 (if cv = k then some ⟨g, 0, none⟩ else some ⟨g, k, none⟩) g (if cv = k then 0 else k) (by split <;> rfl) (i - k) (cv - k) ((isr f i).drop k) (by rfl) (by simp [isr_len]) (fun j hj => by rw [if_neg (by omega), keep_below BV8 (hcs (k + j) (by omega))]; simp [List.getD, List.getElem?_drop]) (i + 1) (by omega) (by omega) BV8.size ?_
                intro g9 c9 V9 oR9 gr9 hc9
                have BV9 := own_grow BV8 BV8.size oR8 gr9
                refine hK.out _ _ ?_ (fun hHeld => ?_)
                · (try dsimp only); exact keep_below BV9 d3
                clear hK K
                (try simp only [Act.put, List.setIfInBounds_toArray, List.set_cons_zero, List.set_cons_succ])
                refine wpAnyH_take (i := 15) (oi := { dst := some 4, op := Go.Op.assign (Go.Operand.tmp 54), type := 23, pos := "l2_coord.go:92", after := #[{ on := 14, ground := Go.Ground.data }, { on := 14, ground := Go.Ground.chain }, { on := 0, ground := Go.Ground.phase }, { on := 1, ground := Go.Ground.phase }, { on := 2, ground := Go.Ground.phase }, { on := 3, ground := Go.Ground.phase }, { on := 4, ground := Go.Ground.phase }, { on := 5, ground := Go.Ground.phase }, { on := 6, ground := Go.Ground.phase }, { on := 7, ground := Go.Ground.phase }, { on := 8, ground := Go.Ground.phase }, { on := 9, ground := Go.Ground.phase }, { on := 10, ground := Go.Ground.phase }, { on := 11, ground := Go.Ground.phase }, { on := 12, ground := Go.Ground.phase }, { on := 13, ground := Go.Ground.phase }, { on := 14, ground := Go.Ground.phase }], guard := none }) (v := ?_) rfl (by kernel_rfl) (by kernel_rfl) (by kernel_rfl) (fun _ _ _ h => h) (Or.inl ⟨by rfl, ?_⟩) (by assumption) ?_
                rotate_left 1
                · (intro w hSw; (try dsimp only at hSw); go_simp; try with_reducible rfl)
                (try simp only [Act.put, List.setIfInBounds_toArray, List.set_cons_zero, List.set_cons_succ])
                refine wpAnyH_done (by kernel_rfl) ?_ _
                have BF := btrans hb3 BV9
                have oF : V9.ownsRow w.heap.size 3 1 (.slice (some ⟨g9, 0, none⟩) (i + 1) c9) (i + 1) (lv (isr f (i + 1))) := by
                  have e1 : isr f (i + 1) = [] ++ (isr f i).take k ++ [(f i)] ++ (isr f i).drop k := by rw [isr, insL, ← hk.out]; simp
                  rw [e1]
                  exact own_mono hb3.size oR9
                clear oR9 oR8 gr8 gr9 hc8 BV8 BV9 hcs
                go_wp2
                go_roundw
                case rel => exact ⟨i + 1, by omega, by go_num, ⟨g9, c9, rfl, hc9, oF⟩, BF⟩
                case measure => simp [intOf]; omega
            · go_simp
              have cX1 : ((W.alloc (.cells #[.int .i64 (f i)] 3)).drew).cell? ⟨W.heap.size, 0, none⟩ = some (.int .i64 (f i)) := by simp [go_sem]
              have BV1 : Below W.heap.size W ((W.alloc (.cells #[.int .i64 (f i)] 3)).drew) := QB1 (balloc (.cells #[.int .i64 (f i)] 3) (Below.refl _ W))
              have xlt := World.block_lt_of_cell? _ _ cX1
              refine hK.out _ _ ?_ (fun hHeld => ?_)
              · (try dsimp only); exact keep_below BV1 d3
              clear hK K
              (try simp only [Act.put, List.setIfInBounds_toArray, List.set_cons_zero, List.set_cons_succ])
              generalize ((W.alloc (.cells #[.int .i64 (f i)] 3)).drew) = V1 at *
              refine wpAnyH_ready (rs := [0]) (by kernel_rfl) (by simp) ?_
              refine AllReadyH.cons (o := { dst := some 40, op := Go.Op.buildSlice 23 0 #[], type := 23, pos := "l2_coord.go:92", after := #[], guard := none }) rfl (fun K hK => ?_) AllReadyH.nil
              go_simp
              have oR2 : (V1.alloc (.cells #[] 3)).ownsRow W.heap.size 3 1 (.slice (some ⟨V1.heap.size, 0, none⟩) 0 0) 0 (lv []) := World.ownsRow_lit V1 #[] 0 (BV1.size) (by unfold maxLen; omega) rfl
              have BV2 : Below W.heap.size W (V1.alloc (.cells #[] 3)) := (balloc (.cells #[] 3) BV1)
              have cX2 := keep_alloc (.cells #[] 3) cX1
              have nX : W.heap.size ≠ V1.heap.size := by simp at xlt; omega
              refine hK.out _ _ ?_ (fun hHeld => ?_)
              · (try dsimp only); exact keep_below BV2 d3
              clear hK K
              (try simp only [Act.put, List.setIfInBounds_toArray, List.set_cons_zero, List.set_cons_succ])
              generalize (V1.alloc (.cells #[] 3)) = V2 at *
              refine wpAnyH_ready (rs := [4]) (by kernel_rfl) (by simp) ?_
              refine AllReadyH.cons (o := { dst := some 44, op := Go.Op.call { callee := Go.Callee.builtin Go.Builtin.append, args := #[Go.Operand.tmp 40, Go.Operand.tmp 43], argTypes := #[23, 23] }, type := 23, pos := "l2_coord.go:92", after := #[{ on := 0, ground := Go.Ground.data }, { on := 3, ground := Go.Ground.data }], guard := none }) rfl (fun K hK => ?_) AllReadyH.nil
              refine step_app (by rfl) _ _ (by rfl) W.heap.size (.slice (some ⟨V1.heap.size, 0, none⟩) 0 0) 0 [] (by rfl) (by simp) oR2 _ g 0 rfl k cv ((isr f i).take k) (by rfl) (by simp [isr_len]; omega) (fun j hj => by rw [Nat.zero_add, keep_below BV2 (hcs j (by omega))]; simp [List.getD, hj]) k (Nat.zero_add k) (by omega) BV2.size ?_
              intro g3 c3 V3 oR3 gr3 hc3
              have BV3 := own_grow BV2 BV2.size oR2 gr3
              have cX3 := keep_grown gr3 nX cX2
              refine hK.out _ _ ?_ (fun hHeld => ?_)
              · (try dsimp only); exact keep_below BV3 d3
              clear hK K
              (try simp only [Act.put, List.setIfInBounds_toArray, List.set_cons_zero, List.set_cons_succ])
              refine wpAnyH_ready (rs := [10]) (by kernel_rfl) (by simp) ?_
              refine AllReadyH.cons (o := { dst := some 50, op := Go.Op.call { callee := Go.Callee.builtin Go.Builtin.append, args := #[Go.Operand.tmp 44, Go.Operand.tmp 49], argTypes := #[23, 23] }, type := 23, pos := "l2_coord.go:92", after := #[{ on := 4, ground := Go.Ground.data }, { on := 9, ground := Go.Ground.data }, { on := 4, ground := Go.Ground.chain }], guard := none }) rfl (fun K hK => ?_) AllReadyH.nil
              refine step_app (by rfl) _ _ (by rfl) W.heap.size (.slice (some ⟨g3, 0, none⟩) k c3) k _ (by rfl) (by simp) oR3 (some ⟨W.heap.size, 0, none⟩) W.heap.size 0 rfl 1 1 [(f i)] (by rfl) rfl (fun j hj => by obtain rfl : j = 0 := (by omega); exact cX3) (k + 1) rfl (by omega) BV3.size ?_
              intro g8 c8 V8 oR8 gr8 hc8
              have BV8 := own_grow BV3 BV3.size oR3 gr8
              refine hK.out _ _ ?_ (fun hHeld => ?_)
              · (try dsimp only); exact keep_below BV8 d3
              clear hK K
              (try simp only [Act.put, List.setIfInBounds_toArray, List.set_cons_zero, List.set_cons_succ])
              refine wpAnyH_ready (rs := [14]) (by kernel_rfl) (by simp) ?_
              refine AllReadyH.cons (o := { dst := some 54, op := Go.Op.call { callee := Go.Callee.builtin Go.Builtin.append, args := #[Go.Operand.tmp 50, Go.Operand.tmp 53], argTypes := #[23, 23] }, type := 23, pos := "l2_coord.go:92", after := #[{ on := 10, ground := Go.Ground.data }, { on := 13, ground := Go.Ground.data }, { on := 10, ground := Go.Ground.chain }], guard := none }) rfl (fun K hK => ?_) AllReadyH.nil
              refine step_app (by rfl) _ _ (by rfl) W.heap.size (.slice (some ⟨g8, 0, none⟩) (k + 1) c8) (k + 1) _ (by rfl) (by simp) oR8 (if cv = k then some ⟨g, 0, none⟩ else some ⟨g, k, none⟩) g (if cv = k then 0 else k) (by split <;> rfl) (i - k) (cv - k) ((isr f i).drop k) (by rfl) (by simp [isr_len]) (fun j hj => by rw [if_neg (by omega), keep_below BV8 (hcs (k + j) (by omega))]; simp [List.getD, List.getElem?_drop]) (i + 1) (by omega) (by omega) BV8.size ?_
              intro g9 c9 V9 oR9 gr9 hc9
              have BV9 := own_grow BV8 BV8.size oR8 gr9
              refine hK.out _ _ ?_ (fun hHeld => ?_)
              · (try dsimp only); exact keep_below BV9 d3
              clear hK K
              (try simp only [Act.put, List.setIfInBounds_toArray, List.set_cons_zero, List.set_cons_succ])
              refine wpAnyH_take (i := 15) (oi := { dst := some 4, op := Go.Op.assign (Go.Operand.tmp 54), type := 23, pos := "l2_coord.go:92", after := #[{ on := 14, ground := Go.Ground.data }, { on := 14, ground := Go.Ground.chain }, { on := 0, ground := Go.Ground.phase }, { on := 1, ground := Go.Ground.phase }, { on := 2, ground := Go.Ground.phase }, { on := 3, ground := Go.Ground.phase }, { on := 4, ground := Go.Ground.phase }, { on := 5, ground := Go.Ground.phase }, { on := 6, ground := Go.Ground.phase }, { on := 7, ground := Go.Ground.phase }, { on := 8, ground := Go.Ground.phase }, { on := 9, ground := Go.Ground.phase }, { on := 10, ground := Go.Ground.phase }, { on := 11, ground := Go.Ground.phase }, { on := 12, ground := Go.Ground.phase }, { on := 13, ground := Go.Ground.phase }, { on := 14, ground := Go.Ground.phase }], guard := none }) (v := ?_) rfl (by kernel_rfl) (by kernel_rfl) (by kernel_rfl) (fun _ _ _ h => h) (Or.inl ⟨by rfl, ?_⟩) (by assumption) ?_
              rotate_left 1
              · (intro w hSw; (try dsimp only at hSw); go_simp; try with_reducible rfl)
              (try simp only [Act.put, List.setIfInBounds_toArray, List.set_cons_zero, List.set_cons_succ])
              refine wpAnyH_done (by kernel_rfl) ?_ _
              have BF := btrans hb3 BV9
              have oF : V9.ownsRow w.heap.size 3 1 (.slice (some ⟨g9, 0, none⟩) (i + 1) c9) (i + 1) (lv (isr f (i + 1))) := by
                have e1 : isr f (i + 1) = [] ++ (isr f i).take k ++ [(f i)] ++ (isr f i).drop k := by rw [isr, insL, ← hk.out]; simp
                rw [e1]
                exact own_mono hb3.size oR9
              clear oR9 oR8 gr8 gr9 hc8 BV8 BV9 hcs
              go_wp2
              go_roundw
              case rel => exact ⟨i + 1, by omega, by go_num, ⟨g9, c9, rfl, hc9, oF⟩, BF⟩
              case measure => simp [intOf]; omega
        · have i7 : ¬ (k : Int) < (i : Int) := by omega
          have hk : Hid (k = lead (f i) (isr f i)) := lead_of (f i) (isr f i) k (by rw [isr_len]; omega) hall (fun h => by rw [isr_len] at h; omega)
          go_wp2_with fail
          refine wp_region_held_drew (S := fun _ => True) (by kernel_rfl) ?_ (fun hHeld => ?_)
          · (try dsimp only); skip
          refine wpAnyH_take (i := 0) (oi := { dst := some 23, op := Go.Op.move (Go.Operand.tmp 6), type := 3, pos := "l2_coord.go:89", after := #[], guard := none }) (v := ?_) rfl (by kernel_rfl) (by kernel_rfl) (by kernel_rfl) (fun _ _ _ h => h) (Or.inl ⟨by rfl, ?_⟩) (by assumption) ?_
          rotate_left 1
          · (intro w hSw; (try dsimp only at hSw); go_simp; try with_reducible rfl)
          (try simp only [Act.put, List.setIfInBounds_toArray, List.set_cons_zero, List.set_cons_succ])
          refine wpAnyH_take (i := 1) (oi := { dst := some 24, op := Go.Op.move (Go.Operand.tmp 4), type := 23, pos := "l2_coord.go:89", after := #[], guard := none }) (v := ?_) rfl (by kernel_rfl) (by kernel_rfl) (by kernel_rfl) (fun _ _ _ h => h) (Or.inl ⟨by rfl, ?_⟩) (by assumption) ?_
          rotate_left 1
          · (intro w hSw; (try dsimp only at hSw); go_simp; try with_reducible rfl)
          (try simp only [Act.put, List.setIfInBounds_toArray, List.set_cons_zero, List.set_cons_succ])
          refine wpAnyH_take (i := 2) (oi := { dst := some 25, op := Go.Op.call { callee := Go.Callee.builtin Go.Builtin.len, args := #[Go.Operand.tmp 24], argTypes := #[23] }, type := 3, pos := "l2_coord.go:89", after := #[{ on := 1, ground := Go.Ground.data }], guard := none }) (v := ?_) rfl (by kernel_rfl) (by kernel_rfl) (by kernel_rfl) (fun _ _ _ h => h) (Or.inl ⟨by rfl, ?_⟩) (by assumption) ?_
          rotate_left 1
          · (intro w hSw; (try dsimp only at hSw); go_simp; try with_reducible rfl)
          (try simp only [Act.put, List.setIfInBounds_toArray, List.set_cons_zero, List.set_cons_succ])
          refine wpAnyH_take (i := 3) (oi := { dst := some 26, op := Go.Op.binOp Go.BinOp.lss 3 (Go.Operand.tmp 23) (Go.Operand.tmp 25) 3, type := 4, pos := "l2_coord.go:89", after := #[{ on := 0, ground := Go.Ground.data }, { on := 2, ground := Go.Ground.data }], guard := none }) (v := ?_) rfl (by kernel_rfl) (by kernel_rfl) (by kernel_rfl) (fun _ _ _ h => h) (Or.inl ⟨by rfl, ?_⟩) (by assumption) ?_
          rotate_left 1
          · (intro w hSw; (try dsimp only at hSw); go_simp; try with_reducible rfl)
          (try simp only [Act.put, List.setIfInBounds_toArray, List.set_cons_zero, List.set_cons_succ])
          refine wpAnyH_take (i := 4) (oi := { dst := some 27, op := Go.Op.move (Go.Operand.tmp 26), type := 4, pos := "l2_coord.go:89", after := #[{ on := 3, ground := Go.Ground.data }], guard := none }) (v := ?_) rfl (by kernel_rfl) (by kernel_rfl) (by kernel_rfl) (fun _ _ _ h => h) (Or.inl ⟨by rfl, ?_⟩) (by assumption) ?_
          rotate_left 1
          · (intro w hSw; (try dsimp only at hSw); go_simp; try with_reducible rfl)
          (try simp only [Act.put, List.setIfInBounds_toArray, List.set_cons_zero, List.set_cons_succ])
          refine wpAnyH_take (i := 5) (oi := { dst := some 28, op := Go.Op.move (Go.Operand.tmp 4), type := 23, pos := "l2_coord.go:89", after := #[{ on := 4, ground := Go.Ground.guard }], guard := some (4, true) }) (v := undef) rfl (by kernel_rfl) (by kernel_rfl) (by kernel_rfl) (fun _ _ _ h => h) (Or.inr ⟨by rfl, rfl⟩) (by assumption) ?_
          (try simp only [Act.put, List.setIfInBounds_toArray, List.set_cons_zero, List.set_cons_succ])
          refine wpAnyH_take (i := 6) (oi := { dst := some 29, op := Go.Op.move (Go.Operand.tmp 6), type := 3, pos := "l2_coord.go:89", after := #[{ on := 4, ground := Go.Ground.guard }], guard := some (4, true) }) (v := undef) rfl (by kernel_rfl) (by kernel_rfl) (by kernel_rfl) (fun _ _ _ h => h) (Or.inr ⟨by rfl, rfl⟩) (by assumption) ?_
          (try simp only [Act.put, List.setIfInBounds_toArray, List.set_cons_zero, List.set_cons_succ])
          refine wpAnyH_take (i := 7) (oi := { dst := some 30, op := Go.Op.indexAddr 23 (Go.Operand.tmp 28) (Go.Operand.tmp 29), type := 0, pos := "l2_coord.go:89", after := #[{ on := 5, ground := Go.Ground.data }, { on := 6, ground := Go.Ground.data }, { on := 4, ground := Go.Ground.guard }], guard := some (4, true) }) (v := undef) rfl (by kernel_rfl) (by kernel_rfl) (by kernel_rfl) (fun _ _ _ h => h) (Or.inr ⟨by rfl, rfl⟩) (by assumption) ?_
          (try simp only [Act.put, List.setIfInBounds_toArray, List.set_cons_zero, List.set_cons_succ])
          refine wpAnyH_take (i := 8) (oi := { dst := some 31, op := Go.Op.load 3 (Go.Operand.tmp 30), type := 3, pos := "l2_coord.go:89", after := #[{ on := 7, ground := Go.Ground.data }, { on := 4, ground := Go.Ground.guard }], guard := some (4, true) }) (v := undef) rfl (by kernel_rfl) (by kernel_rfl) (by kernel_rfl) (fun _ _ _ h => h) (Or.inr ⟨by rfl, rfl⟩) (by assumption) ?_
          (try simp only [Act.put, List.setIfInBounds_toArray, List.set_cons_zero, List.set_cons_succ])
          refine wpAnyH_take (i := 9) (oi := { dst := some 32, op := Go.Op.move (Go.Operand.tmp 3), type := 23, pos := "l2_coord.go:89", after := #[{ on := 4, ground := Go.Ground.guard }], guard := some (4, true) }) (v := undef) rfl (by kernel_rfl) (by kernel_rfl) (by kernel_rfl) (fun _ _ _ h => h) (Or.inr ⟨by rfl, rfl⟩) (by assumption) ?_
          (try simp only [Act.put, List.setIfInBounds_toArray, List.set_cons_zero, List.set_cons_succ])
          refine wpAnyH_take (i := 10) (oi := { dst := some 33, op := Go.Op.move (Go.Operand.tmp 5), type := 3, pos := "l2_coord.go:89", after := #[{ on := 4, ground := Go.Ground.guard }], guard := some (4, true) }) (v := undef) rfl (by kernel_rfl) (by kernel_rfl) (by kernel_rfl) (fun _ _ _ h => h) (Or.inr ⟨by rfl, rfl⟩) (by assumption) ?_
          (try simp only [Act.put, List.setIfInBounds_toArray, List.set_cons_zero, List.set_cons_succ])
          refine wpAnyH_take (i := 11) (oi := { dst := some 34, op := Go.Op.indexAddr 23 (Go.Operand.tmp 32) (Go.Operand.tmp 33), type := 0, pos := "l2_coord.go:89", after := #[{ on := 9, ground := Go.Ground.data }, { on := 10, ground := Go.Ground.data }, { on := 4, ground := Go.Ground.guard }], guard := some (4, true) }) (v := undef) rfl (by kernel_rfl) (by kernel_rfl) (by kernel_rfl) (fun _ _ _ h => h) (Or.inr ⟨by rfl, rfl⟩) (by assumption) ?_
          (try simp only [Act.put, List.setIfInBounds_toArray, List.set_cons_zero, List.set_cons_succ])
          refine wpAnyH_take (i := 12) (oi := { dst := some 35, op := Go.Op.load 3 (Go.Operand.tmp 34), type := 3, pos := "l2_coord.go:89", after := #[{ on := 11, ground := Go.Ground.data }, { on := 4, ground := Go.Ground.guard }], guard := some (4, true) }) (v := undef) rfl (by kernel_rfl) (by kernel_rfl) (by kernel_rfl) (fun _ _ _ h => h) (Or.inr ⟨by rfl, rfl⟩) (by assumption) ?_
          (try simp only [Act.put, List.setIfInBounds_toArray, List.set_cons_zero, List.set_cons_succ])
          refine wpAnyH_take (i := 13) (oi := { dst := some 36, op := Go.Op.binOp Go.BinOp.leq 3 (Go.Operand.tmp 31) (Go.Operand.tmp 35) 3, type := 4, pos := "l2_coord.go:89", after := #[{ on := 8, ground := Go.Ground.data }, { on := 12, ground := Go.Ground.data }, { on := 4, ground := Go.Ground.guard }], guard := some (4, true) }) (v := undef) rfl (by kernel_rfl) (by kernel_rfl) (by kernel_rfl) (fun _ _ _ h => h) (Or.inr ⟨by rfl, rfl⟩) (by assumption) ?_
          (try simp only [Act.put, List.setIfInBounds_toArray, List.set_cons_zero, List.set_cons_succ])
          refine wpAnyH_take (i := 14) (oi := { dst := some 37, op := Go.Op.pick (Go.Operand.tmp 27) (Go.Operand.tmp 36) (Go.Operand.const (Go.Value.bool false)), type := 4, pos := "l2_coord.go:89", after := #[{ on := 4, ground := Go.Ground.data }, { on := 13, ground := Go.Ground.data }], guard := none }) (v := ?_) rfl (by kernel_rfl) (by kernel_rfl) (by kernel_rfl) (fun _ _ _ h => h) (Or.inl ⟨by rfl, ?_⟩) (by assumption) ?_
          rotate_left 1
          · (intro w hSw; (try dsimp only at hSw); go_simp; try with_reducible rfl)
          (try simp only [Act.put, List.setIfInBounds_toArray, List.set_cons_zero, List.set_cons_succ])
          refine wpAnyH_done (by kernel_rfl) ?_ _
          go_wp2_with fail
          have own3 : (wr.drew).ownsRow w.heap.size 3 1 (.slice (some ⟨g, 0, none⟩) i cv) i (lv (isr f i)) := own2
          have hb3 : Below w.heap.size w (wr.drew) := QB1 hb2
          have d3 : (wr.drew).cell? ⟨b, off + i, none⟩ = some (.int .i64 (f i)) := d0
          clear own2 hb2 d0 hall
          generalize (wr.drew) = W at *
          have k7 : (k : Int) ≤ (i : Int) := by omega
          have k9 : k ≤ cv := by omega
          have hgW : g < W.heap.size := ((own3.lt g rfl).2)
          have hcs : ∀ j, j < i → W.cell? ⟨g, j, none⟩ = some (.int .i64 ((isr f i).getD j 0)) := fun j hj => own_at own3 j hj
          refine wp_region_held_drew (S := fun w' => w'.cell? ⟨b, off + i, none⟩ = some (.int .i64 (f i))) (by kernel_rfl) ?_ (fun hHeld => ?_)
          · (try dsimp only); exact d3
          refine wpAnyH_take (i := 1) (oi := { dst := some 41, op := Go.Op.move (Go.Operand.tmp 4), type := 23, pos := "l2_coord.go:92", after := #[], guard := none }) (v := ?_) rfl (by kernel_rfl) (by kernel_rfl) (by kernel_rfl) (fun _ _ _ h => h) (Or.inl ⟨by rfl, ?_⟩) (by assumption) ?_
          rotate_left 1
          · (intro w hSw; (try dsimp only at hSw); go_simp; try with_reducible rfl)
          (try simp only [Act.put, List.setIfInBounds_toArray, List.set_cons_zero, List.set_cons_succ])
          refine wpAnyH_take (i := 2) (oi := { dst := some 42, op := Go.Op.move (Go.Operand.tmp 6), type := 3, pos := "l2_coord.go:92", after := #[], guard := none }) (v := ?_) rfl (by kernel_rfl) (by kernel_rfl) (by kernel_rfl) (fun _ _ _ h => h) (Or.inl ⟨by rfl, ?_⟩) (by assumption) ?_
          rotate_left 1
          · (intro w hSw; (try dsimp only at hSw); go_simp; try with_reducible rfl)
          (try simp only [Act.put, List.setIfInBounds_toArray, List.set_cons_zero, List.set_cons_succ])
          refine wpAnyH_take (i := 3) (oi := { dst := some 43, op := Go.Op.slice 23 (Go.Operand.tmp 41) none (some (Go.Operand.tmp 42)) none, type := 23, pos := "l2_coord.go:92", after := #[{ on := 1, ground := Go.Ground.data }, { on := 2, ground := Go.Ground.data }], guard := none }) (v := ?_) rfl (by kernel_rfl) (by kernel_rfl) (by kernel_rfl) (fun _ _ _ h => h) (Or.inl ⟨by rfl, ?_⟩) (by assumption) ?_
          rotate_left 1
          · (intro w hSw; (try dsimp only at hSw); go_simp; try with_reducible rfl)
          (try simp only [Act.put, List.setIfInBounds_toArray, List.set_cons_zero, List.set_cons_succ])
          refine wpAnyH_take (i := 5) (oi := { dst := some 45, op := Go.Op.move (Go.Operand.tmp 3), type := 23, pos := "l2_coord.go:92", after := #[], guard := none }) (v := ?_) rfl (by kernel_rfl) (by kernel_rfl) (by kernel_rfl) (fun _ _ _ h => h) (Or.inl ⟨by rfl, ?_⟩) (by assumption) ?_
          rotate_left 1
          · (intro w hSw; (try dsimp only at hSw); go_simp; try with_reducible rfl)
          (try simp only [Act.put, List.setIfInBounds_toArray, List.set_cons_zero, List.set_cons_succ])
          refine wpAnyH_take (i := 6) (oi := { dst := some 46, op := Go.Op.move (Go.Operand.tmp 5), type := 3, pos := "l2_coord.go:92", after := #[], guard := none }) (v := ?_) rfl (by kernel_rfl) (by kernel_rfl) (by kernel_rfl) (fun _ _ _ h => h) (Or.inl ⟨by rfl, ?_⟩) (by assumption) ?_
          rotate_left 1
          · (intro w hSw; (try dsimp only at hSw); go_simp; try with_reducible rfl)
          (try simp only [Act.put, List.setIfInBounds_toArray, List.set_cons_zero, List.set_cons_succ])
          refine wpAnyH_take (i := 7) (oi := { dst := some 47, op := Go.Op.indexAddr 23 (Go.Operand.tmp 45) (Go.Operand.tmp 46), type := 0, pos := "l2_coord.go:92", after := #[{ on := 5, ground := Go.Ground.data }, { on := 6, ground := Go.Ground.data }], guard := none }) (v := ?_) rfl (by kernel_rfl) (by kernel_rfl) (by kernel_rfl) (fun _ _ _ h => h) (Or.inl ⟨by rfl, ?_⟩) (by assumption) ?_
          rotate_left 1
          · (intro w hSw; (try dsimp only at hSw); go_simp; try with_reducible rfl)
          (try simp only [Act.put, List.setIfInBounds_toArray, List.set_cons_zero, List.set_cons_succ])
          refine wpAnyH_take (i := 8) (oi := { dst := some 48, op := Go.Op.load 3 (Go.Operand.tmp 47), type := 3, pos := "l2_coord.go:92", after := #[{ on := 7, ground := Go.Ground.data }], guard := none }) (v := ?_) rfl (by kernel_rfl) (by kernel_rfl) (by kernel_rfl) (fun _ _ _ h => h) (Or.inl ⟨by rfl, ?_⟩) (by assumption) ?_
          rotate_left 1
          · (intro w hSw; (try dsimp only at hSw); go_simp; try with_reducible rfl)
          (try simp only [Act.put, List.setIfInBounds_toArray, List.set_cons_zero, List.set_cons_succ])
          refine wpAnyH_take (i := 11) (oi := { dst := some 51, op := Go.Op.move (Go.Operand.tmp 4), type := 23, pos := "l2_coord.go:92", after := #[], guard := none }) (v := ?_) rfl (by kernel_rfl) (by kernel_rfl) (by kernel_rfl) (fun _ _ _ h => h) (Or.inl ⟨by rfl, ?_⟩) (by assumption) ?_
          rotate_left 1
          · (intro w hSw; (try dsimp only at hSw); go_simp; try with_reducible rfl)
          (try simp only [Act.put, List.setIfInBounds_toArray, List.set_cons_zero, List.set_cons_succ])
          refine wpAnyH_take (i := 12) (oi := { dst := some 52, op := Go.Op.move (Go.Operand.tmp 6), type := 3, pos := "l2_coord.go:92", after := #[], guard := none }) (v := ?_) rfl (by kernel_rfl) (by kernel_rfl) (by kernel_rfl) (fun _ _ _ h => h) (Or.inl ⟨by rfl, ?_⟩) (by assumption) ?_
          rotate_left 1
          · (intro w hSw; (try dsimp only at hSw); go_simp; try with_reducible rfl)
          (try simp only [Act.put, List.setIfInBounds_toArray, List.set_cons_zero, List.set_cons_succ])
          refine wpAnyH_take (i := 13) (oi := { dst := some 53, op := Go.Op.slice 23 (Go.Operand.tmp 51) (some (Go.Operand.tmp 52)) none none, type := 23, pos := "l2_coord.go:92", after := #[{ on := 11, ground := Go.Ground.data }, { on := 12, ground := Go.Ground.data }], guard := none }) (v := ?_) rfl (by kernel_rfl) (by kernel_rfl) (by kernel_rfl) (fun _ _ _ h => h) (Or.inl ⟨by rfl, ?_⟩) (by assumption) ?_
          rotate_left 1
          · (intro w hSw; (try dsimp only at hSw); go_simp; try with_reducible rfl)
          (try simp only [Act.put, List.setIfInBounds_toArray, List.set_cons_zero, List.set_cons_succ])
          refine wpAnyH_ready (rs := [0, 9]) (by kernel_rfl) (by simp) ?_
          refine AllReadyH.cons (o := { dst := some 40, op := Go.Op.buildSlice 23 0 #[], type := 23, pos := "l2_coord.go:92", after := #[], guard := none }) rfl (fun K hK => ?_) (AllReadyH.cons (o := { dst := some 49, op := Go.Op.buildSlice 23 1 #[(0, Go.Operand.tmp 48)], type := 23, pos := "l2_coord.go:92", after := #[{ on := 8, ground := Go.Ground.data }], guard := none }) rfl (fun K hK => ?_) AllReadyH.nil)
          · go_simp
            have oR1 : ((W.alloc (.cells #[] 3)).drew).ownsRow W.heap.size 3 1 (.slice (some ⟨W.heap.size, 0, none⟩) 0 0) 0 (lv []) := World.ownsRow_lit W #[] 0 (Nat.le_refl _) (by unfold maxLen; omega) rfl
            have BV1 : Below W.heap.size W ((W.alloc (.cells #[] 3)).drew) := QB1 (balloc (.cells #[] 3) (Below.refl _ W))
            refine hK.out _ _ ?_ (fun hHeld => ?_)
            · (try dsimp only); exact keep_below BV1 d3
            clear hK K
            (try simp only [Act.put, List.setIfInBounds_toArray, List.set_cons_zero, List.set_cons_succ])
            generalize ((W.alloc (.cells #[] 3)).drew) = V1 at *
            refine wpAnyH_ready (rs := [4, 9]) (by kernel_rfl) (by simp) ?_
            refine AllReadyH.cons (o := { dst := some 44, op := Go.Op.call { callee := Go.Callee.builtin Go.Builtin.append, args := #[Go.Operand.tmp 40, Go.Operand.tmp 43], argTypes := #[23, 23] }, type := 23, pos := "l2_coord.go:92", after := #[{ on := 0, ground := Go.Ground.data }, { on := 3, ground := Go.Ground.data }], guard := none }) rfl (fun K hK => ?_) (AllReadyH.cons (o := { dst := some 49, op := Go.Op.buildSlice 23 1 #[(0, Go.Operand.tmp 48)], type := 23, pos := "l2_coord.go:92", after := #[{ on := 8, ground := Go.Ground.data }], guard := none }) rfl (fun K hK => ?_) AllReadyH.nil)
            · refine step_app (by rfl) _ _ (by rfl) W.heap.size (.slice (some ⟨W.heap.size, 0, none⟩) 0 0) 0 [] (by rfl) (by simp) oR1 _ g 0 rfl k cv ((isr f i).take k) (by rfl) (by simp [isr_len]; omega) (fun j hj => by rw [Nat.zero_add, keep_below BV1 (hcs j (by omega))]; simp [List.getD, hj]) k (Nat.zero_add k) (by omega) BV1.size ?_
              intro g2 c2 V2 oR2 gr2 hc2
              have BV2 := own_grow BV1 BV1.size oR1 gr2
              refine hK.out _ _ ?_ (fun hHeld => ?_)
              · (try dsimp only); exact keep_below BV2 d3
              clear hK K
              (try simp only [Act.put, List.setIfInBounds_toArray, List.set_cons_zero, List.set_cons_succ])
              refine wpAnyH_ready (rs := [9]) (by kernel_rfl) (by simp) ?_
              refine AllReadyH.cons (o := { dst := some 49, op := Go.Op.buildSlice 23 1 #[(0, Go.Operand.tmp 48)], type := 23, pos := "l2_coord.go:92", after := #[{ on := 8, ground := Go.Ground.data }], guard := none }) rfl (fun K hK => ?_) AllReadyH.nil
              go_simp
              have cX3 : (V2.alloc (.cells #[.int .i64 (f i)] 3)).cell? ⟨V2.heap.size, 0, none⟩ = some (.int .i64 (f i)) := by simp [go_sem]
              have BV3 : Below W.heap.size W (V2.alloc (.cells #[.int .i64 (f i)] 3)) := (balloc (.cells #[.int .i64 (f i)] 3) BV2)
              have oR3 := oR2.alloc (.cells #[.int .i64 (f i)] 3)
              refine hK.out _ _ ?_ (fun hHeld => ?_)
              · (try dsimp only); exact keep_below BV3 d3
              clear hK K
              (try simp only [Act.put, List.setIfInBounds_toArray, List.set_cons_zero, List.set_cons_succ])
              generalize (V2.alloc (.cells #[.int .i64 (f i)] 3)) = V3 at *
              refine wpAnyH_ready (rs := [10]) (by kernel_rfl) (by simp) ?_
              refine AllReadyH.cons (o := { dst := some 50, op := Go.Op.call { callee := Go.Callee.builtin Go.Builtin.append, args := #[Go.Operand.tmp 44, Go.Operand.tmp 49], argTypes := #[23, 23] }, type := 23, pos := "l2_coord.go:92", after := #[{ on := 4, ground := Go.Ground.data }, { on := 9, ground := Go.Ground.data }, { on := 4, ground := Go.Ground.chain }], guard := none }) rfl (fun K hK => ?_) AllReadyH.nil
              refine step_app (by rfl) _ _ (by rfl) W.heap.size (.slice (some ⟨g2, 0, none⟩) k c2) k _ (by rfl) (by simp) oR3 (some ⟨V2.heap.size, 0, none⟩) V2.heap.size 0 rfl 1 1 [(f i)] (by rfl) rfl (fun j hj => by obtain rfl : j = 0 := (by omega); exact cX3) (k + 1) rfl (by omega) BV3.size ?_
              intro g8 c8 V8 oR8 gr8 hc8
              have BV8 := own_grow BV3 BV3.size oR3 gr8
              refine hK.out _ _ ?_ (fun hHeld => ?_)
              · (try dsimp only); exact keep_below BV8 d3
              clear hK K
              (try simp only [Act.put, List.setIfInBounds_toArray, List.set_cons_zero, List.set_cons_succ])
              refine wpAnyH_ready (rs := [14]) (by kernel_rfl) (by simp) ?_
              refine AllReadyH.cons (o := { dst := some 54, op := Go.Op.call { callee := Go.Callee.builtin Go.Builtin.append, args := #[Go.Operand.tmp 50, Go.Operand.tmp 53], argTypes := #[23, 23] }, type := 23, pos := "l2_coord.go:92", after := #[{ on := 10, ground := Go.Ground.data }, { on := 13, ground := Go.Ground.data }, { on := 10, ground := Go.Ground.chain }], guard := none }) rfl (fun K hK => ?_) AllReadyH.nil
              refine step_app (by rfl) _ _ (by rfl) W.heap.size (.slice (some ⟨g8, 0, none⟩) (k + 1) c8) (k + 1) _ (by rfl) (by simp) oR8 (if cv = k then some ⟨g, 0, none⟩ else some ⟨g, k, none⟩) g (if cv = k then 0 else k) (by split <;> rfl) (i - k) (cv - k) ((isr f i).drop k) (by rfl) (by simp [isr_len]) (fun j hj => by rw [if_neg (by omega), keep_below BV8 (hcs (k + j) (by omega))]; simp [List.getD, List.getElem?_drop]) (i + 1) (by omega) (by omega) BV8.size ?_
              intro g9 c9 V9 oR9 gr9 hc9
              have BV9 := own_grow BV8 BV8.size oR8 gr9
              refine hK.out _ _ ?_ (fun hHeld => ?_)
              · (try dsimp only); exact keep_below BV9 d3
              clear hK K
              (try simp only [Act.put, List.setIfInBounds_toArray, List.set_cons_zero, List.set_cons_succ])
              refine wpAnyH_take (i := 15) (oi := { dst := some 4, op := Go.Op.assign (Go.Operand.tmp 54), type := 23, pos := "l2_coord.go:92", after := #[{ on := 14, ground := Go.Ground.data }, { on := 14, ground := Go.Ground.chain }, { on := 0, ground := Go.Ground.phase }, { on := 1, ground := Go.Ground.phase }, { on := 2, ground := Go.Ground.phase }, { on := 3, ground := Go.Ground.phase }, { on := 4, ground := Go.Ground.phase }, { on := 5, ground := Go.Ground.phase }, { on := 6, ground := Go.Ground.phase }, { on := 7, ground := Go.Ground.phase }, { on := 8, ground := Go.Ground.phase }, { on := 9, ground := Go.Ground.phase }, { on := 10, ground := Go.Ground.phase }, { on := 11, ground := Go.Ground.phase }, { on := 12, ground := Go.Ground.phase }, { on := 13, ground := Go.Ground.phase }, { on := 14, ground := Go.Ground.phase }], guard := none }) (v := ?_) rfl (by kernel_rfl) (by kernel_rfl) (by kernel_rfl) (fun _ _ _ h => h) (Or.inl ⟨by rfl, ?_⟩) (by assumption) ?_
              rotate_left 1
              · (intro w hSw; (try dsimp only at hSw); go_simp; try with_reducible rfl)
              (try simp only [Act.put, List.setIfInBounds_toArray, List.set_cons_zero, List.set_cons_succ])
              refine wpAnyH_done (by kernel_rfl) ?_ _
              have BF := btrans hb3 BV9
              have oF : V9.ownsRow w.heap.size 3 1 (.slice (some ⟨g9, 0, none⟩) (i + 1) c9) (i + 1) (lv (isr f (i + 1))) := by
                have e1 : isr f (i + 1) = [] ++ (isr f i).take k ++ [(f i)] ++ (isr f i).drop k := by rw [isr, insL, ← hk.out]; simp
                rw [e1]
                exact own_mono hb3.size oR9
              clear oR9 oR8 gr8 gr9 hc8 BV8 BV9 hcs
              go_wp2
              go_roundw
              case rel => exact ⟨i + 1, by omega, by go_num, ⟨g9, c9, rfl, hc9, oF⟩, BF⟩
              case measure => simp [intOf]; omega
            · go_simp
              have cX2 : (V1.alloc (.cells #[.int .i64 (f i)] 3)).cell? ⟨V1.heap.size, 0, none⟩ = some (.int .i64 (f i)) := by simp [go_sem]
              have BV2 : Below W.heap.size W (V1.alloc (.cells #[.int .i64 (f i)] 3)) := (balloc (.cells #[.int .i64 (f i)] 3) BV1)
              have oR2 := oR1.alloc (.cells #[.int .i64 (f i)] 3)
              have nX : V1.heap.size ≠ W.heap.size := by have := oR1.lt W.heap.size rfl; omega
              refine hK.out _ _ ?_ (fun hHeld => ?_)
              · (try dsimp only); exact keep_below BV2 d3
              clear hK K
              (try simp only [Act.put, List.setIfInBounds_toArray, List.set_cons_zero, List.set_cons_succ])
              generalize (V1.alloc (.cells #[.int .i64 (f i)] 3)) = V2 at *
              refine wpAnyH_ready (rs := [4]) (by kernel_rfl) (by simp) ?_
              refine AllReadyH.cons (o := { dst := some 44, op := Go.Op.call { callee := Go.Callee.builtin Go.Builtin.append, args := #[Go.Operand.tmp 40, Go.Operand.tmp 43], argTypes := #[23, 23] }, type := 23, pos := "l2_coord.go:92", after := #[{ on := 0, ground := Go.Ground.data }, { on := 3, ground := Go.Ground.data }], guard := none }) rfl (fun K hK => ?_) AllReadyH.nil
              refine step_app (by rfl) _ _ (by rfl) W.heap.size (.slice (some ⟨W.heap.size, 0, none⟩) 0 0) 0 [] (by rfl) (by simp) oR2 _ g 0 rfl k cv ((isr f i).take k) (by rfl) (by simp [isr_len]; omega) (fun j hj => by rw [Nat.zero_add, keep_below BV2 (hcs j (by omega))]; simp [List.getD, hj]) k (Nat.zero_add k) (by omega) BV2.size ?_
              intro g3 c3 V3 oR3 gr3 hc3
              have BV3 := own_grow BV2 BV2.size oR2 gr3
              have cX3 := keep_grown gr3 nX cX2
              refine hK.out _ _ ?_ (fun hHeld => ?_)
              · (try dsimp only); exact keep_below BV3 d3
              clear hK K
              (try simp only [Act.put, List.setIfInBounds_toArray, List.set_cons_zero, List.set_cons_succ])
              refine wpAnyH_ready (rs := [10]) (by kernel_rfl) (by simp) ?_
              refine AllReadyH.cons (o := { dst := some 50, op := Go.Op.call { callee := Go.Callee.builtin Go.Builtin.append, args := #[Go.Operand.tmp 44, Go.Operand.tmp 49], argTypes := #[23, 23] }, type := 23, pos := "l2_coord.go:92", after := #[{ on := 4, ground := Go.Ground.data }, { on := 9, ground := Go.Ground.data }, { on := 4, ground := Go.Ground.chain }], guard := none }) rfl (fun K hK => ?_) AllReadyH.nil
              refine step_app (by rfl) _ _ (by rfl) W.heap.size (.slice (some ⟨g3, 0, none⟩) k c3) k _ (by rfl) (by simp) oR3 (some ⟨V1.heap.size, 0, none⟩) V1.heap.size 0 rfl 1 1 [(f i)] (by rfl) rfl (fun j hj => by obtain rfl : j = 0 := (by omega); exact cX3) (k + 1) rfl (by omega) BV3.size ?_
              intro g8 c8 V8 oR8 gr8 hc8
              have BV8 := own_grow BV3 BV3.size oR3 gr8
              refine hK.out _ _ ?_ (fun hHeld => ?_)
              · (try dsimp only); exact keep_below BV8 d3
              clear hK K
              (try simp only [Act.put, List.setIfInBounds_toArray, List.set_cons_zero, List.set_cons_succ])
              refine wpAnyH_ready (rs := [14]) (by kernel_rfl) (by simp) ?_
              refine AllReadyH.cons (o := { dst := some 54, op := Go.Op.call { callee := Go.Callee.builtin Go.Builtin.append, args := #[Go.Operand.tmp 50, Go.Operand.tmp 53], argTypes := #[23, 23] }, type := 23, pos := "l2_coord.go:92", after := #[{ on := 10, ground := Go.Ground.data }, { on := 13, ground := Go.Ground.data }, { on := 10, ground := Go.Ground.chain }], guard := none }) rfl (fun K hK => ?_) AllReadyH.nil
              refine step_app (by rfl) _ _ (by rfl) W.heap.size (.slice (some ⟨g8, 0, none⟩) (k + 1) c8) (k + 1) _ (by rfl) (by simp) oR8 (if cv = k then some ⟨g, 0, none⟩ else some ⟨g, k, none⟩) g (if cv = k then 0 else k) (by split <;> rfl) (i - k) (cv - k) ((isr f i).drop k) (by rfl) (by simp [isr_len]) (fun j hj => by rw [if_neg (by omega), keep_below BV8 (hcs (k + j) (by omega))]; simp [List.getD, List.getElem?_drop]) (i + 1) (by omega) (by omega) BV8.size ?_
              intro g9 c9 V9 oR9 gr9 hc9
              have BV9 := own_grow BV8 BV8.size oR8 gr9
              refine hK.out _ _ ?_ (fun hHeld => ?_)
              · (try dsimp only); exact keep_below BV9 d3
              clear hK K
              (try simp only [Act.put, List.setIfInBounds_toArray, List.set_cons_zero, List.set_cons_succ])
              refine wpAnyH_take (i := 15) (oi := { dst := some 4, op := Go.Op.assign (Go.Operand.tmp 54), type := 23, pos := "l2_coord.go:92", after := #[{ on := 14, ground := Go.Ground.data }, { on := 14, ground := Go.Ground.chain }, { on := 0, ground := Go.Ground.phase }, { on := 1, ground := Go.Ground.phase }, { on := 2, ground := Go.Ground.phase }, { on := 3, ground := Go.Ground.phase }, { on := 4, ground := Go.Ground.phase }, { on := 5, ground := Go.Ground.phase }, { on := 6, ground := Go.Ground.phase }, { on := 7, ground := Go.Ground.phase }, { on := 8, ground := Go.Ground.phase }, { on := 9, ground := Go.Ground.phase }, { on := 10, ground := Go.Ground.phase }, { on := 11, ground := Go.Ground.phase }, { on := 12, ground := Go.Ground.phase }, { on := 13, ground := Go.Ground.phase }, { on := 14, ground := Go.Ground.phase }], guard := none }) (v := ?_) rfl (by kernel_rfl) (by kernel_rfl) (by kernel_rfl) (fun _ _ _ h => h) (Or.inl ⟨by rfl, ?_⟩) (by assumption) ?_
              rotate_left 1
              · (intro w hSw; (try dsimp only at hSw); go_simp; try with_reducible rfl)
              (try simp only [Act.put, List.setIfInBounds_toArray, List.set_cons_zero, List.set_cons_succ])
              refine wpAnyH_done (by kernel_rfl) ?_ _
              have BF := btrans hb3 BV9
              have oF : V9.ownsRow w.heap.size 3 1 (.slice (some ⟨g9, 0, none⟩) (i + 1) c9) (i + 1) (lv (isr f (i + 1))) := by
                have e1 : isr f (i + 1) = [] ++ (isr f i).take k ++ [(f i)] ++ (isr f i).drop k := by rw [isr, insL, ← hk.out]; simp
                rw [e1]
                exact own_mono hb3.size oR9
              clear oR9 oR8 gr8 gr9 hc8 BV8 BV9 hcs
              go_wp2
              go_roundw
              case rel => exact ⟨i + 1, by omega, by go_num, ⟨g9, c9, rfl, hc9, oF⟩, BF⟩
              case measure => simp [intOf]; omega
          · go_simp
            have cX1 : ((W.alloc (.cells #[.int .i64 (f i)] 3)).drew).cell? ⟨W.heap.size, 0, none⟩ = some (.int .i64 (f i)) := by simp [go_sem]
            have BV1 : Below W.heap.size W ((W.alloc (.cells #[.int .i64 (f i)] 3)).drew) := QB1 (balloc (.cells #[.int .i64 (f i)] 3) (Below.refl _ W))
            have xlt := World.block_lt_of_cell? _ _ cX1
            refine hK.out _ _ ?_ (fun hHeld => ?_)
            · (try dsimp only); exact keep_below BV1 d3
            clear hK K
            (try simp only [Act.put, List.setIfInBounds_toArray, List.set_cons_zero, List.set_cons_succ])
            generalize ((W.alloc (.cells #[.int .i64 (f i)] 3)).drew) = V1 at *
            refine wpAnyH_ready (rs := [0]) (by kernel_rfl) (by simp) ?_
            refine AllReadyH.cons (o := { dst := some 40, op := Go.Op.buildSlice 23 0 #[], type := 23, pos := "l2_coord.go:92", after := #[], guard := none }) rfl (fun K hK => ?_) AllReadyH.nil
            go_simp
            have oR2 : (V1.alloc (.cells #[] 3)).ownsRow W.heap.size 3 1 (.slice (some ⟨V1.heap.size, 0, none⟩) 0 0) 0 (lv []) := World.ownsRow_lit V1 #[] 0 (BV1.size) (by unfold maxLen; omega) rfl
            have BV2 : Below W.heap.size W (V1.alloc (.cells #[] 3)) := (balloc (.cells #[] 3) BV1)
            have cX2 := keep_alloc (.cells #[] 3) cX1
            have nX : W.heap.size ≠ V1.heap.size := by simp at xlt; omega
            refine hK.out _ _ ?_ (fun hHeld => ?_)
            · (try dsimp only); exact keep_below BV2 d3
            clear hK K
            (try simp only [Act.put, List.setIfInBounds_toArray, List.set_cons_zero, List.set_cons_succ])
            generalize (V1.alloc (.cells #[] 3)) = V2 at *
            refine wpAnyH_ready (rs := [4]) (by kernel_rfl) (by simp) ?_
            refine AllReadyH.cons (o := { dst := some 44, op := Go.Op.call { callee := Go.Callee.builtin Go.Builtin.append, args := #[Go.Operand.tmp 40, Go.Operand.tmp 43], argTypes := #[23, 23] }, type := 23, pos := "l2_coord.go:92", after := #[{ on := 0, ground := Go.Ground.data }, { on := 3, ground := Go.Ground.data }], guard := none }) rfl (fun K hK => ?_) AllReadyH.nil
            refine step_app (by rfl) _ _ (by rfl) W.heap.size (.slice (some ⟨V1.heap.size, 0, none⟩) 0 0) 0 [] (by rfl) (by simp) oR2 _ g 0 rfl k cv ((isr f i).take k) (by rfl) (by simp [isr_len]; omega) (fun j hj => by rw [Nat.zero_add, keep_below BV2 (hcs j (by omega))]; simp [List.getD, hj]) k (Nat.zero_add k) (by omega) BV2.size ?_
            intro g3 c3 V3 oR3 gr3 hc3
            have BV3 := own_grow BV2 BV2.size oR2 gr3
            have cX3 := keep_grown gr3 nX cX2
            refine hK.out _ _ ?_ (fun hHeld => ?_)
            · (try dsimp only); exact keep_below BV3 d3
            clear hK K
            (try simp only [Act.put, List.setIfInBounds_toArray, List.set_cons_zero, List.set_cons_succ])
            refine wpAnyH_ready (rs := [10]) (by kernel_rfl) (by simp) ?_
            refine AllReadyH.cons (o := { dst := some 50, op := Go.Op.call { callee := Go.Callee.builtin Go.Builtin.append, args := #[Go.Operand.tmp 44, Go.Operand.tmp 49], argTypes := #[23, 23] }, type := 23, pos := "l2_coord.go:92", after := #[{ on := 4, ground := Go.Ground.data }, { on := 9, ground := Go.Ground.data }, { on := 4, ground := Go.Ground.chain }], guard := none }) rfl (fun K hK => ?_) AllReadyH.nil
            refine step_app (by rfl) _ _ (by rfl) W.heap.size (.slice (some ⟨g3, 0, none⟩) k c3) k _ (by rfl) (by simp) oR3 (some ⟨W.heap.size, 0, none⟩) W.heap.size 0 rfl 1 1 [(f i)] (by rfl) rfl (fun j hj => by obtain rfl : j = 0 := (by omega); exact cX3) (k + 1) rfl (by omega) BV3.size ?_
            intro g8 c8 V8 oR8 gr8 hc8
            have BV8 := own_grow BV3 BV3.size oR3 gr8
            refine hK.out _ _ ?_ (fun hHeld => ?_)
            · (try dsimp only); exact keep_below BV8 d3
            clear hK K
            (try simp only [Act.put, List.setIfInBounds_toArray, List.set_cons_zero, List.set_cons_succ])
            refine wpAnyH_ready (rs := [14]) (by kernel_rfl) (by simp) ?_
            refine AllReadyH.cons (o := { dst := some 54, op := Go.Op.call { callee := Go.Callee.builtin Go.Builtin.append, args := #[Go.Operand.tmp 50, Go.Operand.tmp 53], argTypes := #[23, 23] }, type := 23, pos := "l2_coord.go:92", after := #[{ on := 10, ground := Go.Ground.data }, { on := 13, ground := Go.Ground.data }, { on := 10, ground := Go.Ground.chain }], guard := none }) rfl (fun K hK => ?_) AllReadyH.nil
            refine step_app (by rfl) _ _ (by rfl) W.heap.size (.slice (some ⟨g8, 0, none⟩) (k + 1) c8) (k + 1) _ (by rfl) (by simp) oR8 (if cv = k then some ⟨g, 0, none⟩ else some ⟨g, k, none⟩) g (if cv = k then 0 else k) (by split <;> rfl) (i - k) (cv - k) ((isr f i).drop k) (by rfl) (by simp [isr_len]) (fun j hj => by rw [if_neg (by omega), keep_below BV8 (hcs (k + j) (by omega))]; simp [List.getD, List.getElem?_drop]) (i + 1) (by omega) (by omega) BV8.size ?_
            intro g9 c9 V9 oR9 gr9 hc9
            have BV9 := own_grow BV8 BV8.size oR8 gr9
            refine hK.out _ _ ?_ (fun hHeld => ?_)
            · (try dsimp only); exact keep_below BV9 d3
            clear hK K
            (try simp only [Act.put, List.setIfInBounds_toArray, List.set_cons_zero, List.set_cons_succ])
            refine wpAnyH_take (i := 15) (oi := { dst := some 4, op := Go.Op.assign (Go.Operand.tmp 54), type := 23, pos := "l2_coord.go:92", after := #[{ on := 14, ground := Go.Ground.data }, { on := 14, ground := Go.Ground.chain }, { on := 0, ground := Go.Ground.phase }, { on := 1, ground := Go.Ground.phase }, { on := 2, ground := Go.Ground.phase }, { on := 3, ground := Go.Ground.phase }, { on := 4, ground := Go.Ground.phase }, { on := 5, ground := Go.Ground.phase }, { on := 6, ground := Go.Ground.phase }, { on := 7, ground := Go.Ground.phase }, { on := 8, ground := Go.Ground.phase }, { on := 9, ground := Go.Ground.phase }, { on := 10, ground := Go.Ground.phase }, { on := 11, ground := Go.Ground.phase }, { on := 12, ground := Go.Ground.phase }, { on := 13, ground := Go.Ground.phase }, { on := 14, ground := Go.Ground.phase }], guard := none }) (v := ?_) rfl (by kernel_rfl) (by kernel_rfl) (by kernel_rfl) (fun _ _ _ h => h) (Or.inl ⟨by rfl, ?_⟩) (by assumption) ?_
            rotate_left 1
            · (intro w hSw; (try dsimp only at hSw); go_simp; try with_reducible rfl)
            (try simp only [Act.put, List.setIfInBounds_toArray, List.set_cons_zero, List.set_cons_succ])
            refine wpAnyH_done (by kernel_rfl) ?_ _
            have BF := btrans hb3 BV9
            have oF : V9.ownsRow w.heap.size 3 1 (.slice (some ⟨g9, 0, none⟩) (i + 1) c9) (i + 1) (lv (isr f (i + 1))) := by
              have e1 : isr f (i + 1) = [] ++ (isr f i).take k ++ [(f i)] ++ (isr f i).drop k := by rw [isr, insL, ← hk.out]; simp
              rw [e1]
              exact own_mono hb3.size oR9
            clear oR9 oR8 gr8 gr9 hc8 BV8 BV9 hcs
            go_wp2
            go_roundw
            case rel => exact ⟨i + 1, by omega, by go_num, ⟨g9, c9, rfl, hc9, oF⟩, BF⟩
            case measure => simp [intOf]; omega
    · have e : i = len := by omega
      subst e
      obtain rfl | rfl | rfl | rfl : i = 0 ∨ i = 1 ∨ i = 2 ∨ i = 3 := by omega
      · have hmd : Hid (med 0 f = 0) := rfl
        clear hown
        go_wp2
        go_ret
        exact ⟨by rw [hmd.out]; rfl, hb⟩
      · have hmd : Hid (med 1 f = (isr f 1).getD 0 0) := by unfold Hid med; congr 1
        have c1 := own_at hown 0 (by omega)
        generalize (isr f 1).getD 0 0 = X at *
        clear hown
        go_wp2
        go_ret
        exact ⟨by rw [hmd.out]; rfl, hb⟩
      · have hmd : Hid (med 2 f = (isr f 2).getD 0 0) := by unfold Hid med; congr 1
        have c1 := own_at hown 0 (by omega)
        generalize (isr f 2).getD 0 0 = X at *
        clear hown
        go_wp2
        go_ret
        exact ⟨by rw [hmd.out]; rfl, hb⟩
      · have hmd : Hid (med 3 f = (isr f 3).getD 1 0) := by unfold Hid med; congr 1
        have c1 := own_at hown 1 (by omega)
        generalize (isr f 3).getD 1 0 = X at *
        clear hown
        go_wp2
        go_ret
        exact ⟨by rw [hmd.out]; rfl, hb⟩
end Go.Proofs.Ytgjnpkfbbgpmaaa
