/- Texts of the proof, laid together: Txt3, WDec, WNm. -/
import Derived.Test.YtibnojbhoepcdaaGreatDoorQb3
/- How tables are written: the model's way. -/
namespace Go.Proofs.YtibnojbhoepcdaaGreatDoor
open Go.ChangeShapes Go.WideShapes Go.ChangeAt Go.RowKit
attribute [local go_sem ↓] Go.wp_at_zero Go.wp_at_succ
theorem bs_nil (y : ByteArray) : y ++ bs [] = y := by
  apply ByteArray.ext
  simp [ByteArray.data_append]
set_option maxRecDepth 20000 in
set_option maxHeartbeats 4000000 in
theorem l3text_any (a : Option Addr) (len cap : Nat) (F : Nat → Fc) (w : World) (h : FSl w a len F) (hok : tokB len F = true) :
    Calls Tryz.prog 40 #[.slice a len cap] w fun e w' => e = .returned (.string (bs (ttx (seqF F len)))) ∧ Below w.heap.size w w' := by
  obtain ⟨t1, _⟩ := tok_all hok
  have hm8 := tok_len hok
  clear hok
  go_enter Tryz.func40, Tryz.ntmps40
  go_wp2_with fail
  go_loopw [3, 4] (fun v i wr => ∃ (k : Nat) (y : ByteArray), i = .int .i64 k ∧ k ≤ len ∧ v = .string y ∧ Hid (bs (ttx (seqF F k)) = y) ∧ Below w.heap.size w wr) (fun _ i _ => len - (intOf i).toNat)
  case atStart => exact ⟨0, _, rfl, Nat.zero_le _, rfl, rfl, Below.refl _ _⟩
  case round =>
    obtain ⟨k, y, rfl, hk, rfl, hy, hb⟩ := hrel
    by_cases hlt : k < len
    · have j0 : (0 : Int) ≤ (k : Int) := by omega
      have j1 : (k : Int) < (len : Int) := by omega
      obtain ⟨b, off, rfl, hbl, hfi⟩ := h (by omega)
      obtain ⟨c0, c1, c2, c3⟩ := (hfi.below hb hbl) k hlt
      have hfk := t1 k hlt
      have hyl : y.size ≤ 17 * k := by rw [← hy.out]; simpa [ByteArray.size] using ttx_len F k (fun j hj => t1 j (by omega))
      have hs : Hid (bs (ttx (seqF F (k + 1))) = y ++ bs (if k = 0 then [] else [44]) ++ bs (ftx (F k))) := by
        unfold Hid
        rw [← hy.out, bs_append, bs_append, seqF_succ, ttx_snoc]
        have : (seqF F k = []) ↔ k = 0 := by
          constructor
          · intro e
            have := seqF_len F k
            rw [e] at this
            exact this.symm
          · rintro rfl
            rfl
        by_cases e : k = 0
        · rw [if_pos e, if_pos (this.2 e)]
        · rw [if_neg e, if_neg (fun z => e (this.1 z))]
      obtain ⟨n0, n7, i0, i9, s1, s4⟩ := fok_all hfk
      generalize F k = f at *
      obtain ⟨x1, hx1⟩ : ∃ x, Hid (bs (Lib.itoa f.n) = x) := ⟨_, rfl⟩
      obtain ⟨x2, hx2⟩ : ∃ x, Hid (bs (Lib.itoa f.i) = x) := ⟨_, rfl⟩
      obtain ⟨x3, hx3⟩ : ∃ x, Hid (bs (wordL f.s) = x) := ⟨_, rfl⟩
      have z1 := itoa_len n0 (by omega : f.n ≤ 999)
      have z2 := itoa_len i0 i9
      have z3 := word_len f.s
      rw [hx1.out] at z1
      rw [hx2.out] at z2
      rw [hx3.out] at z3
      have hft : Hid (bs (ftx f) = x1 ++ bs [58] ++ x2 ++ bs [58] ++ x3 ++ bs (if f.g = true then [42] else [])) := by
        unfold Hid
        rw [← hx1.out, ← hx2.out, ← hx3.out, bs_append, bs_append, bs_append, bs_append, bs_append]
        rfl
      by_cases hk0 : k = 0
      · have g0 : ¬ (0 : Int) < (k : Int) := by omega
        have ho : Hid (y ++ bs (if k = 0 then [] else [44]) = y) := by unfold Hid; rw [if_pos hk0, bs_nil]
        rw [ho.out] at hs
        clear ho
        subst hk0
        simp only [Nat.zero_mul, Nat.add_zero] at c0 c1 c2 c3
        clear g0
        go_wp2_with fail
        have m1 : ¬ 9223372036854775807 < y.size + x1.size := by omega
        have m2 : ¬ 9223372036854775807 < y.size + x1.size + 1 := by omega
        have m3 : ¬ 9223372036854775807 < y.size + x1.size + 1 + x2.size := by omega
        have m4 : ¬ 9223372036854775807 < y.size + x1.size + 1 + x2.size + 1 := by omega
        have m5 : ¬ 9223372036854775807 < y.size + x1.size + 1 + x2.size + 1 + x3.size := by omega
        have m6 : ¬ 9223372036854775807 < y.size + x1.size + 1 + x2.size + 1 + x3.size + 1 := by omega
        refine wp_region_held_drew (S := fun w' => w'.cell? ⟨b, off, none⟩ = some (.int .i64 f.n) ∧ w'.cell? ⟨b, off + 1, none⟩ = some (.int .i64 f.i) ∧ w'.cell? ⟨b, off + 2, none⟩ = some (.int .i64 f.s) ∧ w'.cell? ⟨b, off + 3, none⟩ = some (.bool f.g)) (by kernel_rfl) ?_ (fun hHeld => ?_)
        · (try dsimp only); (refine ⟨?_, ?_, ?_, ?_⟩ <;> (repeat (first | with_reducible assumption | with_reducible refine keep_drew ?_ | with_reducible refine keep_below (by assumption) ?_)))
        refine wpAnyH_take (i := 0) (oi := { dst := some 15, op := .move (.tmp 3), type := 9, pos := "l3_fact.go:125", after := #[], guard := none }) (v := ?_) rfl (by kernel_rfl) (by kernel_rfl) (by kernel_rfl) (fun _ _ _ h => h) (Or.inl ⟨by rfl, ?_⟩) (by assumption) ?_
        rotate_left 1
        · (intro w hSw; (try dsimp only at hSw); go_simp; try with_reducible rfl)
        (try simp only [Act.put, List.setIfInBounds_toArray, List.set_cons_zero, List.set_cons_succ])
        refine wpAnyH_take (i := 1) (oi := { dst := some 16, op := .move (.tmp 0), type := 24, pos := "l3_fact.go:125", after := #[], guard := none }) (v := ?_) rfl (by kernel_rfl) (by kernel_rfl) (by kernel_rfl) (fun _ _ _ h => h) (Or.inl ⟨by rfl, ?_⟩) (by assumption) ?_
        rotate_left 1
        · (intro w hSw; (try dsimp only at hSw); go_simp; try with_reducible rfl)
        (try simp only [Act.put, List.setIfInBounds_toArray, List.set_cons_zero, List.set_cons_succ])
        refine wpAnyH_take (i := 2) (oi := { dst := some 17, op := .move (.tmp 4), type := 3, pos := "l3_fact.go:125", after := #[], guard := none }) (v := ?_) rfl (by kernel_rfl) (by kernel_rfl) (by kernel_rfl) (fun _ _ _ h => h) (Or.inl ⟨by rfl, ?_⟩) (by assumption) ?_
        rotate_left 1
        · (intro w hSw; (try dsimp only at hSw); go_simp; try with_reducible rfl)
        (try simp only [Act.put, List.setIfInBounds_toArray, List.set_cons_zero, List.set_cons_succ])
        refine wpAnyH_take (i := 3) (oi := { dst := some 18, op := .indexAddr 24 (.tmp 16) (.tmp 17), type := 0, pos := "l3_fact.go:125", after := #[{ on := 1, ground := .data }, { on := 2, ground := .data }], guard := none }) (v := ?_) rfl (by kernel_rfl) (by kernel_rfl) (by kernel_rfl) (fun _ _ _ h => h) (Or.inl ⟨by rfl, ?_⟩) (by assumption) ?_
        rotate_left 1
        · (intro w hSw; (try dsimp only at hSw); go_simp; try with_reducible rfl)
        (try simp only [Act.put, List.setIfInBounds_toArray, List.set_cons_zero, List.set_cons_succ])
        refine wpAnyH_take (i := 4) (oi := { dst := some 19, op := .fieldAddr 53 (.tmp 18) 0, type := 0, pos := "l3_fact.go:125", after := #[{ on := 3, ground := .data }], guard := none }) (v := ?_) rfl (by kernel_rfl) (by kernel_rfl) (by kernel_rfl) (fun _ _ _ h => h) (Or.inl ⟨by rfl, ?_⟩) (by assumption) ?_
        rotate_left 1
        · (intro w hSw; (try dsimp only at hSw); go_simp; try with_reducible rfl)
        (try simp only [Act.put, List.setIfInBounds_toArray, List.set_cons_zero, List.set_cons_succ])
        refine wpAnyH_take (i := 5) (oi := { dst := some 20, op := .load 3 (.tmp 19), type := 3, pos := "l3_fact.go:125", after := #[{ on := 4, ground := .data }], guard := none }) (v := ?_) rfl (by kernel_rfl) (by kernel_rfl) (by kernel_rfl) (fun _ _ _ h => h) (Or.inl ⟨by rfl, ?_⟩) (by assumption) ?_
        rotate_left 1
        · (intro w hSw; (try dsimp only at hSw); go_simp; try with_reducible rfl)
        (try simp only [Act.put, List.setIfInBounds_toArray, List.set_cons_zero, List.set_cons_succ])
        refine wpAnyH_take (i := 9) (oi := { dst := some 24, op := .move (.tmp 0), type := 24, pos := "l3_fact.go:125", after := #[], guard := none }) (v := ?_) rfl (by kernel_rfl) (by kernel_rfl) (by kernel_rfl) (fun _ _ _ h => h) (Or.inl ⟨by rfl, ?_⟩) (by assumption) ?_
        rotate_left 1
        · (intro w hSw; (try dsimp only at hSw); go_simp; try with_reducible rfl)
        (try simp only [Act.put, List.setIfInBounds_toArray, List.set_cons_zero, List.set_cons_succ])
        refine wpAnyH_take (i := 10) (oi := { dst := some 25, op := .move (.tmp 4), type := 3, pos := "l3_fact.go:125", after := #[], guard := none }) (v := ?_) rfl (by kernel_rfl) (by kernel_rfl) (by kernel_rfl) (fun _ _ _ h => h) (Or.inl ⟨by rfl, ?_⟩) (by assumption) ?_
        rotate_left 1
        · (intro w hSw; (try dsimp only at hSw); go_simp; try with_reducible rfl)
        (try simp only [Act.put, List.setIfInBounds_toArray, List.set_cons_zero, List.set_cons_succ])
        refine wpAnyH_take (i := 11) (oi := { dst := some 26, op := .indexAddr 24 (.tmp 24) (.tmp 25), type := 0, pos := "l3_fact.go:125", after := #[{ on := 9, ground := .data }, { on := 10, ground := .data }], guard := none }) (v := ?_) rfl (by kernel_rfl) (by kernel_rfl) (by kernel_rfl) (fun _ _ _ h => h) (Or.inl ⟨by rfl, ?_⟩) (by assumption) ?_
        rotate_left 1
        · (intro w hSw; (try dsimp only at hSw); go_simp; try with_reducible rfl)
        (try simp only [Act.put, List.setIfInBounds_toArray, List.set_cons_zero, List.set_cons_succ])
        refine wpAnyH_take (i := 12) (oi := { dst := some 27, op := .fieldAddr 53 (.tmp 26) 1, type := 0, pos := "l3_fact.go:125", after := #[{ on := 11, ground := .data }], guard := none }) (v := ?_) rfl (by kernel_rfl) (by kernel_rfl) (by kernel_rfl) (fun _ _ _ h => h) (Or.inl ⟨by rfl, ?_⟩) (by assumption) ?_
        rotate_left 1
        · (intro w hSw; (try dsimp only at hSw); go_simp; try with_reducible rfl)
        (try simp only [Act.put, List.setIfInBounds_toArray, List.set_cons_zero, List.set_cons_succ])
        refine wpAnyH_take (i := 13) (oi := { dst := some 28, op := .load 3 (.tmp 27), type := 3, pos := "l3_fact.go:125", after := #[{ on := 12, ground := .data }], guard := none }) (v := ?_) rfl (by kernel_rfl) (by kernel_rfl) (by kernel_rfl) (fun _ _ _ h => h) (Or.inl ⟨by rfl, ?_⟩) (by assumption) ?_
        rotate_left 1
        · (intro w hSw; (try dsimp only at hSw); go_simp; try with_reducible rfl)
        (try simp only [Act.put, List.setIfInBounds_toArray, List.set_cons_zero, List.set_cons_succ])
        refine wpAnyH_take (i := 17) (oi := { dst := some 32, op := .move (.tmp 0), type := 24, pos := "l3_fact.go:125", after := #[], guard := none }) (v := ?_) rfl (by kernel_rfl) (by kernel_rfl) (by kernel_rfl) (fun _ _ _ h => h) (Or.inl ⟨by rfl, ?_⟩) (by assumption) ?_
        rotate_left 1
        · (intro w hSw; (try dsimp only at hSw); go_simp; try with_reducible rfl)
        (try simp only [Act.put, List.setIfInBounds_toArray, List.set_cons_zero, List.set_cons_succ])
        refine wpAnyH_take (i := 18) (oi := { dst := some 33, op := .move (.tmp 4), type := 3, pos := "l3_fact.go:125", after := #[], guard := none }) (v := ?_) rfl (by kernel_rfl) (by kernel_rfl) (by kernel_rfl) (fun _ _ _ h => h) (Or.inl ⟨by rfl, ?_⟩) (by assumption) ?_
        rotate_left 1
        · (intro w hSw; (try dsimp only at hSw); go_simp; try with_reducible rfl)
        (try simp only [Act.put, List.setIfInBounds_toArray, List.set_cons_zero, List.set_cons_succ])
        refine wpAnyH_take (i := 19) (oi := { dst := some 34, op := .indexAddr 24 (.tmp 32) (.tmp 33), type := 0, pos := "l3_fact.go:125", after := #[{ on := 17, ground := .data }, { on := 18, ground := .data }], guard := none }) (v := ?_) rfl (by kernel_rfl) (by kernel_rfl) (by kernel_rfl) (fun _ _ _ h => h) (Or.inl ⟨by rfl, ?_⟩) (by assumption) ?_
        rotate_left 1
        · (intro w hSw; (try dsimp only at hSw); go_simp; try with_reducible rfl)
        (try simp only [Act.put, List.setIfInBounds_toArray, List.set_cons_zero, List.set_cons_succ])
        refine wpAnyH_take (i := 20) (oi := { dst := some 35, op := .fieldAddr 53 (.tmp 34) 2, type := 0, pos := "l3_fact.go:125", after := #[{ on := 19, ground := .data }], guard := none }) (v := ?_) rfl (by kernel_rfl) (by kernel_rfl) (by kernel_rfl) (fun _ _ _ h => h) (Or.inl ⟨by rfl, ?_⟩) (by assumption) ?_
        rotate_left 1
        · (intro w hSw; (try dsimp only at hSw); go_simp; try with_reducible rfl)
        (try simp only [Act.put, List.setIfInBounds_toArray, List.set_cons_zero, List.set_cons_succ])
        refine wpAnyH_take (i := 21) (oi := { dst := some 36, op := .load 3 (.tmp 35), type := 3, pos := "l3_fact.go:125", after := #[{ on := 20, ground := .data }], guard := none }) (v := ?_) rfl (by kernel_rfl) (by kernel_rfl) (by kernel_rfl) (fun _ _ _ h => h) (Or.inl ⟨by rfl, ?_⟩) (by assumption) ?_
        rotate_left 1
        · (intro w hSw; (try dsimp only at hSw); go_simp; try with_reducible rfl)
        (try simp only [Act.put, List.setIfInBounds_toArray, List.set_cons_zero, List.set_cons_succ])
        refine wpAnyH_ready (rs := [6]) (by kernel_rfl) (by simp) ?_
        refine AllReadyH.cons (o := { dst := some 21, op := .call { callee := .value (.func 81), args := #[.tmp 20], argTypes := #[3] }, type := 9, pos := "l3_fact.go:125", after := #[{ on := 5, ground := .data }], guard := none }) rfl (fun K hK => ?_) AllReadyH.nil
        go_simp
        refine (dec_lit f.n _ n0 (by omega) hx1.out _).mono ?_; rintro e w1 ⟨rfl, b1⟩
        go_wp2_with fail
        refine hK.out _ _ ?_ (fun hHeld => ?_)
        · (try dsimp only); (refine ⟨?_, ?_, ?_, ?_⟩ <;> (repeat (first | with_reducible assumption | with_reducible refine keep_drew ?_ | with_reducible refine keep_below (by assumption) ?_)))
        clear hK K
        (try simp only [Act.put, List.setIfInBounds_toArray, List.set_cons_zero, List.set_cons_succ])
        refine wpAnyH_take (i := 7) (oi := { dst := some 22, op := .binOp .add 9 (.tmp 15) (.tmp 21) 9, type := 9, pos := "l3_fact.go:125", after := #[{ on := 0, ground := .data }, { on := 6, ground := .data }], guard := none }) (v := ?_) rfl (by kernel_rfl) (by kernel_rfl) (by kernel_rfl) (fun _ _ _ h => h) (Or.inl ⟨by rfl, ?_⟩) (by assumption) ?_
        rotate_left 1
        · (intro w hSw; (try dsimp only at hSw); go_simp; try with_reducible rfl)
        (try simp only [Act.put, List.setIfInBounds_toArray, List.set_cons_zero, List.set_cons_succ])
        refine wpAnyH_take (i := 8) (oi := { dst := some 23, op := .binOp .add 9 (.tmp 22) (.const (.string { data := #[58] })) 9, type := 9, pos := "l3_fact.go:125", after := #[{ on := 7, ground := .data }], guard := none }) (v := ?_) rfl (by kernel_rfl) (by kernel_rfl) (by kernel_rfl) (fun _ _ _ h => h) (Or.inl ⟨by rfl, ?_⟩) (by assumption) ?_
        rotate_left 1
        · (intro w hSw; (try dsimp only at hSw); go_simp; try with_reducible rfl)
        (try simp only [Act.put, List.setIfInBounds_toArray, List.set_cons_zero, List.set_cons_succ])
        refine wpAnyH_ready (rs := [14]) (by kernel_rfl) (by simp) ?_
        refine AllReadyH.cons (o := { dst := some 29, op := .call { callee := .value (.func 81), args := #[.tmp 28], argTypes := #[3] }, type := 9, pos := "l3_fact.go:125", after := #[{ on := 13, ground := .data }, { on := 6, ground := .chain }], guard := none }) rfl (fun K hK => ?_) AllReadyH.nil
        go_simp
        refine (dec_lit f.i _ i0 i9 hx2.out _).mono ?_; rintro e w2 ⟨rfl, b2⟩
        go_wp2_with fail
        refine hK.out _ _ ?_ (fun hHeld => ?_)
        · (try dsimp only); (refine ⟨?_, ?_, ?_, ?_⟩ <;> (repeat (first | with_reducible assumption | with_reducible refine keep_drew ?_ | with_reducible refine keep_below (by assumption) ?_)))
        clear hK K
        (try simp only [Act.put, List.setIfInBounds_toArray, List.set_cons_zero, List.set_cons_succ])
        refine wpAnyH_take (i := 15) (oi := { dst := some 30, op := .binOp .add 9 (.tmp 23) (.tmp 29) 9, type := 9, pos := "l3_fact.go:125", after := #[{ on := 8, ground := .data }, { on := 14, ground := .data }], guard := none }) (v := ?_) rfl (by kernel_rfl) (by kernel_rfl) (by kernel_rfl) (fun _ _ _ h => h) (Or.inl ⟨by rfl, ?_⟩) (by assumption) ?_
        rotate_left 1
        · (intro w hSw; (try dsimp only at hSw); go_simp; try with_reducible rfl)
        (try simp only [Act.put, List.setIfInBounds_toArray, List.set_cons_zero, List.set_cons_succ])
        refine wpAnyH_take (i := 16) (oi := { dst := some 31, op := .binOp .add 9 (.tmp 30) (.const (.string { data := #[58] })) 9, type := 9, pos := "l3_fact.go:125", after := #[{ on := 15, ground := .data }], guard := none }) (v := ?_) rfl (by kernel_rfl) (by kernel_rfl) (by kernel_rfl) (fun _ _ _ h => h) (Or.inl ⟨by rfl, ?_⟩) (by assumption) ?_
        rotate_left 1
        · (intro w hSw; (try dsimp only at hSw); go_simp; try with_reducible rfl)
        (try simp only [Act.put, List.setIfInBounds_toArray, List.set_cons_zero, List.set_cons_succ])
        refine wpAnyH_ready (rs := [22]) (by kernel_rfl) (by simp) ?_
        refine AllReadyH.cons (o := { dst := some 37, op := .call { callee := .value (.func 82), args := #[.tmp 36], argTypes := #[3] }, type := 9, pos := "l3_fact.go:125", after := #[{ on := 21, ground := .data }, { on := 14, ground := .chain }], guard := none }) rfl (fun K hK => ?_) AllReadyH.nil
        go_simp
        refine (sword_lit f.s _ s1 s4 hx3.out _).mono ?_; rintro e w3 ⟨rfl, b3⟩
        go_wp2_with fail
        refine hK.out _ _ ?_ (fun hHeld => ?_)
        · (try dsimp only); (refine ⟨?_, ?_, ?_, ?_⟩ <;> (repeat (first | with_reducible assumption | with_reducible refine keep_drew ?_ | with_reducible refine keep_below (by assumption) ?_)))
        clear hK K
        (try simp only [Act.put, List.setIfInBounds_toArray, List.set_cons_zero, List.set_cons_succ])
        refine wpAnyH_take (i := 23) (oi := { dst := some 38, op := .binOp .add 9 (.tmp 31) (.tmp 37) 9, type := 9, pos := "l3_fact.go:125", after := #[{ on := 16, ground := .data }, { on := 22, ground := .data }], guard := none }) (v := ?_) rfl (by kernel_rfl) (by kernel_rfl) (by kernel_rfl) (fun _ _ _ h => h) (Or.inl ⟨by rfl, ?_⟩) (by assumption) ?_
        rotate_left 1
        · (intro w hSw; (try dsimp only at hSw); go_simp; try with_reducible rfl)
        (try simp only [Act.put, List.setIfInBounds_toArray, List.set_cons_zero, List.set_cons_succ])
        refine wpAnyH_take (i := 24) (oi := { dst := some 3, op := .assign (.tmp 38), type := 9, pos := "l3_fact.go:125", after := #[{ on := 23, ground := .data }, { on := 22, ground := .chain }, { on := 0, ground := .phase }, { on := 1, ground := .phase }, { on := 2, ground := .phase }, { on := 3, ground := .phase }, { on := 4, ground := .phase }, { on := 5, ground := .phase }, { on := 6, ground := .phase }, { on := 7, ground := .phase }, { on := 8, ground := .phase }, { on := 9, ground := .phase }, { on := 10, ground := .phase }, { on := 11, ground := .phase }, { on := 12, ground := .phase }, { on := 13, ground := .phase }, { on := 14, ground := .phase }, { on := 15, ground := .phase }, { on := 16, ground := .phase }, { on := 17, ground := .phase }, { on := 18, ground := .phase }, { on := 19, ground := .phase }, { on := 20, ground := .phase }, { on := 21, ground := .phase }, { on := 22, ground := .phase }, { on := 23, ground := .phase }], guard := none }) (v := ?_) rfl (by kernel_rfl) (by kernel_rfl) (by kernel_rfl) (fun _ _ _ h => h) (Or.inl ⟨by rfl, ?_⟩) (by assumption) ?_
        rotate_left 1
        · (intro w hSw; (try dsimp only at hSw); go_simp; try with_reducible rfl)
        (try simp only [Act.put, List.setIfInBounds_toArray, List.set_cons_zero, List.set_cons_succ])
        refine wpAnyH_done (by kernel_rfl) ?_ _
        have B3 := btrans (btrans (btrans (qd hb) b1) b2) b3
        have d3 := keep_below b3 (keep_below b2 (keep_below b1 (keep_drew c3)))
        clear hHeld b1 b2 b3 c0 c1 c2 c3 hb
        cases hg : f.g
        · have hE : Hid (bs (ttx (seqF F (0 + 1))) = y ++ x1 ++ bs [58] ++ x2 ++ bs [58] ++ x3) := by
            unfold Hid
            rw [hs.out, hft.out, hg, if_neg (by simp), bs_nil]
            simp [ByteArray.append_assoc]
          rw [hg] at d3
          clear hs hft hg hx1 hx2 hx3
          go_wp2
          go_roundw
          case rel => exact ⟨0 + 1, _, by go_num, by omega, rfl, hE, B3⟩
          case measure => simp [intOf]; omega
        · have hE : Hid (bs (ttx (seqF F (0 + 1))) = y ++ x1 ++ bs [58] ++ x2 ++ bs [58] ++ x3 ++ bs [42]) := by
            unfold Hid
            rw [hs.out, hft.out, hg, if_pos rfl]
            simp [ByteArray.append_assoc]
          rw [hg] at d3
          clear hs hft hg hx1 hx2 hx3
          go_wp2
          go_roundw
          case rel => exact ⟨0 + 1, _, by go_num, by omega, rfl, hE, B3⟩
          case measure => simp [intOf]; omega
      · have g0 : (0 : Int) < (k : Int) := by omega
        have p1 : ¬ 9223372036854775807 < y.size + 1 := by omega
        have ho : Hid (y ++ bs (if k = 0 then [] else [44]) = y ++ bs [44]) := by unfold Hid; rw [if_neg hk0]
        rw [ho.out] at hs
        clear ho
        have hyl2 : (y ++ bs [44]).size ≤ 17 * k + 1 := by
          simp only [ByteArray.size_append]
          have : (bs [44]).size = 1 := rfl
          omega
        go_wp2_with fail
        clear hyl
        obtain ⟨y0, hy0⟩ : ∃ y0, y ++ bs [44] = y0 := ⟨_, rfl⟩
        have hy0' : y ++ ({ data := #[44] } : ByteArray) = y0 := hy0
        rw [hy0] at hs hyl2
        rw [hy0']
        have hyl : y0.size ≤ 17 * k + 1 := hyl2
        clear hy0 hy0' hyl2 p1 hy
        have m1 : ¬ 9223372036854775807 < y0.size + x1.size := by omega
        have m2 : ¬ 9223372036854775807 < y0.size + x1.size + 1 := by omega
        have m3 : ¬ 9223372036854775807 < y0.size + x1.size + 1 + x2.size := by omega
        have m4 : ¬ 9223372036854775807 < y0.size + x1.size + 1 + x2.size + 1 := by omega
        have m5 : ¬ 9223372036854775807 < y0.size + x1.size + 1 + x2.size + 1 + x3.size := by omega
        have m6 : ¬ 9223372036854775807 < y0.size + x1.size + 1 + x2.size + 1 + x3.size + 1 := by omega
        refine wp_region_held_drew (S := fun w' => w'.cell? ⟨b, off + k * 4, none⟩ = some (.int .i64 f.n) ∧ w'.cell? ⟨b, off + k * 4 + 1, none⟩ = some (.int .i64 f.i) ∧ w'.cell? ⟨b, off + k * 4 + 2, none⟩ = some (.int .i64 f.s) ∧ w'.cell? ⟨b, off + k * 4 + 3, none⟩ = some (.bool f.g)) (by kernel_rfl) ?_ (fun hHeld => ?_)
        · (try dsimp only); (refine ⟨?_, ?_, ?_, ?_⟩ <;> (repeat (first | with_reducible assumption | with_reducible refine keep_drew ?_ | with_reducible refine keep_below (by assumption) ?_)))
        refine wpAnyH_take (i := 0) (oi := { dst := some 15, op := .move (.tmp 3), type := 9, pos := "l3_fact.go:125", after := #[], guard := none }) (v := ?_) rfl (by kernel_rfl) (by kernel_rfl) (by kernel_rfl) (fun _ _ _ h => h) (Or.inl ⟨by rfl, ?_⟩) (by assumption) ?_
        rotate_left 1
        · (intro w hSw; (try dsimp only at hSw); go_simp; try with_reducible rfl)
        (try simp only [Act.put, List.setIfInBounds_toArray, List.set_cons_zero, List.set_cons_succ])
        refine wpAnyH_take (i := 1) (oi := { dst := some 16, op := .move (.tmp 0), type := 24, pos := "l3_fact.go:125", after := #[], guard := none }) (v := ?_) rfl (by kernel_rfl) (by kernel_rfl) (by kernel_rfl) (fun _ _ _ h => h) (Or.inl ⟨by rfl, ?_⟩) (by assumption) ?_
        rotate_left 1
        · (intro w hSw; (try dsimp only at hSw); go_simp; try with_reducible rfl)
        (try simp only [Act.put, List.setIfInBounds_toArray, List.set_cons_zero, List.set_cons_succ])
        refine wpAnyH_take (i := 2) (oi := { dst := some 17, op := .move (.tmp 4), type := 3, pos := "l3_fact.go:125", after := #[], guard := none }) (v := ?_) rfl (by kernel_rfl) (by kernel_rfl) (by kernel_rfl) (fun _ _ _ h => h) (Or.inl ⟨by rfl, ?_⟩) (by assumption) ?_
        rotate_left 1
        · (intro w hSw; (try dsimp only at hSw); go_simp; try with_reducible rfl)
        (try simp only [Act.put, List.setIfInBounds_toArray, List.set_cons_zero, List.set_cons_succ])
        refine wpAnyH_take (i := 3) (oi := { dst := some 18, op := .indexAddr 24 (.tmp 16) (.tmp 17), type := 0, pos := "l3_fact.go:125", after := #[{ on := 1, ground := .data }, { on := 2, ground := .data }], guard := none }) (v := ?_) rfl (by kernel_rfl) (by kernel_rfl) (by kernel_rfl) (fun _ _ _ h => h) (Or.inl ⟨by rfl, ?_⟩) (by assumption) ?_
        rotate_left 1
        · (intro w hSw; (try dsimp only at hSw); go_simp; try with_reducible rfl)
        (try simp only [Act.put, List.setIfInBounds_toArray, List.set_cons_zero, List.set_cons_succ])
        refine wpAnyH_take (i := 4) (oi := { dst := some 19, op := .fieldAddr 53 (.tmp 18) 0, type := 0, pos := "l3_fact.go:125", after := #[{ on := 3, ground := .data }], guard := none }) (v := ?_) rfl (by kernel_rfl) (by kernel_rfl) (by kernel_rfl) (fun _ _ _ h => h) (Or.inl ⟨by rfl, ?_⟩) (by assumption) ?_
        rotate_left 1
        · (intro w hSw; (try dsimp only at hSw); go_simp; try with_reducible rfl)
        (try simp only [Act.put, List.setIfInBounds_toArray, List.set_cons_zero, List.set_cons_succ])
        refine wpAnyH_take (i := 5) (oi := { dst := some 20, op := .load 3 (.tmp 19), type := 3, pos := "l3_fact.go:125", after := #[{ on := 4, ground := .data }], guard := none }) (v := ?_) rfl (by kernel_rfl) (by kernel_rfl) (by kernel_rfl) (fun _ _ _ h => h) (Or.inl ⟨by rfl, ?_⟩) (by assumption) ?_
        rotate_left 1
        · (intro w hSw; (try dsimp only at hSw); go_simp; try with_reducible rfl)
        (try simp only [Act.put, List.setIfInBounds_toArray, List.set_cons_zero, List.set_cons_succ])
        refine wpAnyH_take (i := 9) (oi := { dst := some 24, op := .move (.tmp 0), type := 24, pos := "l3_fact.go:125", after := #[], guard := none }) (v := ?_) rfl (by kernel_rfl) (by kernel_rfl) (by kernel_rfl) (fun _ _ _ h => h) (Or.inl ⟨by rfl, ?_⟩) (by assumption) ?_
        rotate_left 1
        · (intro w hSw; (try dsimp only at hSw); go_simp; try with_reducible rfl)
        (try simp only [Act.put, List.setIfInBounds_toArray, List.set_cons_zero, List.set_cons_succ])
        refine wpAnyH_take (i := 10) (oi := { dst := some 25, op := .move (.tmp 4), type := 3, pos := "l3_fact.go:125", after := #[], guard := none }) (v := ?_) rfl (by kernel_rfl) (by kernel_rfl) (by kernel_rfl) (fun _ _ _ h => h) (Or.inl ⟨by rfl, ?_⟩) (by assumption) ?_
        rotate_left 1
        · (intro w hSw; (try dsimp only at hSw); go_simp; try with_reducible rfl)
        (try simp only [Act.put, List.setIfInBounds_toArray, List.set_cons_zero, List.set_cons_succ])
        refine wpAnyH_take (i := 11) (oi := { dst := some 26, op := .indexAddr 24 (.tmp 24) (.tmp 25), type := 0, pos := "l3_fact.go:125", after := #[{ on := 9, ground := .data }, { on := 10, ground := .data }], guard := none }) (v := ?_) rfl (by kernel_rfl) (by kernel_rfl) (by kernel_rfl) (fun _ _ _ h => h) (Or.inl ⟨by rfl, ?_⟩) (by assumption) ?_
        rotate_left 1
        · (intro w hSw; (try dsimp only at hSw); go_simp; try with_reducible rfl)
        (try simp only [Act.put, List.setIfInBounds_toArray, List.set_cons_zero, List.set_cons_succ])
        refine wpAnyH_take (i := 12) (oi := { dst := some 27, op := .fieldAddr 53 (.tmp 26) 1, type := 0, pos := "l3_fact.go:125", after := #[{ on := 11, ground := .data }], guard := none }) (v := ?_) rfl (by kernel_rfl) (by kernel_rfl) (by kernel_rfl) (fun _ _ _ h => h) (Or.inl ⟨by rfl, ?_⟩) (by assumption) ?_
        rotate_left 1
        · (intro w hSw; (try dsimp only at hSw); go_simp; try with_reducible rfl)
        (try simp only [Act.put, List.setIfInBounds_toArray, List.set_cons_zero, List.set_cons_succ])
        refine wpAnyH_take (i := 13) (oi := { dst := some 28, op := .load 3 (.tmp 27), type := 3, pos := "l3_fact.go:125", after := #[{ on := 12, ground := .data }], guard := none }) (v := ?_) rfl (by kernel_rfl) (by kernel_rfl) (by kernel_rfl) (fun _ _ _ h => h) (Or.inl ⟨by rfl, ?_⟩) (by assumption) ?_
        rotate_left 1
        · (intro w hSw; (try dsimp only at hSw); go_simp; try with_reducible rfl)
        (try simp only [Act.put, List.setIfInBounds_toArray, List.set_cons_zero, List.set_cons_succ])
        refine wpAnyH_take (i := 17) (oi := { dst := some 32, op := .move (.tmp 0), type := 24, pos := "l3_fact.go:125", after := #[], guard := none }) (v := ?_) rfl (by kernel_rfl) (by kernel_rfl) (by kernel_rfl) (fun _ _ _ h => h) (Or.inl ⟨by rfl, ?_⟩) (by assumption) ?_
        rotate_left 1
        · (intro w hSw; (try dsimp only at hSw); go_simp; try with_reducible rfl)
        (try simp only [Act.put, List.setIfInBounds_toArray, List.set_cons_zero, List.set_cons_succ])
        refine wpAnyH_take (i := 18) (oi := { dst := some 33, op := .move (.tmp 4), type := 3, pos := "l3_fact.go:125", after := #[], guard := none }) (v := ?_) rfl (by kernel_rfl) (by kernel_rfl) (by kernel_rfl) (fun _ _ _ h => h) (Or.inl ⟨by rfl, ?_⟩) (by assumption) ?_
        rotate_left 1
        · (intro w hSw; (try dsimp only at hSw); go_simp; try with_reducible rfl)
        (try simp only [Act.put, List.setIfInBounds_toArray, List.set_cons_zero, List.set_cons_succ])
        refine wpAnyH_take (i := 19) (oi := { dst := some 34, op := .indexAddr 24 (.tmp 32) (.tmp 33), type := 0, pos := "l3_fact.go:125", after := #[{ on := 17, ground := .data }, { on := 18, ground := .data }], guard := none }) (v := ?_) rfl (by kernel_rfl) (by kernel_rfl) (by kernel_rfl) (fun _ _ _ h => h) (Or.inl ⟨by rfl, ?_⟩) (by assumption) ?_
        rotate_left 1
        · (intro w hSw; (try dsimp only at hSw); go_simp; try with_reducible rfl)
        (try simp only [Act.put, List.setIfInBounds_toArray, List.set_cons_zero, List.set_cons_succ])
        refine wpAnyH_take (i := 20) (oi := { dst := some 35, op := .fieldAddr 53 (.tmp 34) 2, type := 0, pos := "l3_fact.go:125", after := #[{ on := 19, ground := .data }], guard := none }) (v := ?_) rfl (by kernel_rfl) (by kernel_rfl) (by kernel_rfl) (fun _ _ _ h => h) (Or.inl ⟨by rfl, ?_⟩) (by assumption) ?_
        rotate_left 1
        · (intro w hSw; (try dsimp only at hSw); go_simp; try with_reducible rfl)
        (try simp only [Act.put, List.setIfInBounds_toArray, List.set_cons_zero, List.set_cons_succ])
        refine wpAnyH_take (i := 21) (oi := { dst := some 36, op := .load 3 (.tmp 35), type := 3, pos := "l3_fact.go:125", after := #[{ on := 20, ground := .data }], guard := none }) (v := ?_) rfl (by kernel_rfl) (by kernel_rfl) (by kernel_rfl) (fun _ _ _ h => h) (Or.inl ⟨by rfl, ?_⟩) (by assumption) ?_
        rotate_left 1
        · (intro w hSw; (try dsimp only at hSw); go_simp; try with_reducible rfl)
        (try simp only [Act.put, List.setIfInBounds_toArray, List.set_cons_zero, List.set_cons_succ])
        refine wpAnyH_ready (rs := [6]) (by kernel_rfl) (by simp) ?_
        refine AllReadyH.cons (o := { dst := some 21, op := .call { callee := .value (.func 81), args := #[.tmp 20], argTypes := #[3] }, type := 9, pos := "l3_fact.go:125", after := #[{ on := 5, ground := .data }], guard := none }) rfl (fun K hK => ?_) AllReadyH.nil
        go_simp
        refine (dec_lit f.n _ n0 (by omega) hx1.out _).mono ?_; rintro e w1 ⟨rfl, b1⟩
        go_wp2_with fail
        refine hK.out _ _ ?_ (fun hHeld => ?_)
        · (try dsimp only); (refine ⟨?_, ?_, ?_, ?_⟩ <;> (repeat (first | with_reducible assumption | with_reducible refine keep_drew ?_ | with_reducible refine keep_below (by assumption) ?_)))
        clear hK K
        (try simp only [Act.put, List.setIfInBounds_toArray, List.set_cons_zero, List.set_cons_succ])
        refine wpAnyH_take (i := 7) (oi := { dst := some 22, op := .binOp .add 9 (.tmp 15) (.tmp 21) 9, type := 9, pos := "l3_fact.go:125", after := #[{ on := 0, ground := .data }, { on := 6, ground := .data }], guard := none }) (v := ?_) rfl (by kernel_rfl) (by kernel_rfl) (by kernel_rfl) (fun _ _ _ h => h) (Or.inl ⟨by rfl, ?_⟩) (by assumption) ?_
        rotate_left 1
        · (intro w hSw; (try dsimp only at hSw); go_simp; try with_reducible rfl)
        (try simp only [Act.put, List.setIfInBounds_toArray, List.set_cons_zero, List.set_cons_succ])
        refine wpAnyH_take (i := 8) (oi := { dst := some 23, op := .binOp .add 9 (.tmp 22) (.const (.string { data := #[58] })) 9, type := 9, pos := "l3_fact.go:125", after := #[{ on := 7, ground := .data }], guard := none }) (v := ?_) rfl (by kernel_rfl) (by kernel_rfl) (by kernel_rfl) (fun _ _ _ h => h) (Or.inl ⟨by rfl, ?_⟩) (by assumption) ?_
        rotate_left 1
        · (intro w hSw; (try dsimp only at hSw); go_simp; try with_reducible rfl)
        (try simp only [Act.put, List.setIfInBounds_toArray, List.set_cons_zero, List.set_cons_succ])
        refine wpAnyH_ready (rs := [14]) (by kernel_rfl) (by simp) ?_
        refine AllReadyH.cons (o := { dst := some 29, op := .call { callee := .value (.func 81), args := #[.tmp 28], argTypes := #[3] }, type := 9, pos := "l3_fact.go:125", after := #[{ on := 13, ground := .data }, { on := 6, ground := .chain }], guard := none }) rfl (fun K hK => ?_) AllReadyH.nil
        go_simp
        refine (dec_lit f.i _ i0 i9 hx2.out _).mono ?_; rintro e w2 ⟨rfl, b2⟩
        go_wp2_with fail
        refine hK.out _ _ ?_ (fun hHeld => ?_)
        · (try dsimp only); (refine ⟨?_, ?_, ?_, ?_⟩ <;> (repeat (first | with_reducible assumption | with_reducible refine keep_drew ?_ | with_reducible refine keep_below (by assumption) ?_)))
        clear hK K
        (try simp only [Act.put, List.setIfInBounds_toArray, List.set_cons_zero, List.set_cons_succ])
        refine wpAnyH_take (i := 15) (oi := { dst := some 30, op := .binOp .add 9 (.tmp 23) (.tmp 29) 9, type := 9, pos := "l3_fact.go:125", after := #[{ on := 8, ground := .data }, { on := 14, ground := .data }], guard := none }) (v := ?_) rfl (by kernel_rfl) (by kernel_rfl) (by kernel_rfl) (fun _ _ _ h => h) (Or.inl ⟨by rfl, ?_⟩) (by assumption) ?_
        rotate_left 1
        · (intro w hSw; (try dsimp only at hSw); go_simp; try with_reducible rfl)
        (try simp only [Act.put, List.setIfInBounds_toArray, List.set_cons_zero, List.set_cons_succ])
        refine wpAnyH_take (i := 16) (oi := { dst := some 31, op := .binOp .add 9 (.tmp 30) (.const (.string { data := #[58] })) 9, type := 9, pos := "l3_fact.go:125", after := #[{ on := 15, ground := .data }], guard := none }) (v := ?_) rfl (by kernel_rfl) (by kernel_rfl) (by kernel_rfl) (fun _ _ _ h => h) (Or.inl ⟨by rfl, ?_⟩) (by assumption) ?_
        rotate_left 1
        · (intro w hSw; (try dsimp only at hSw); go_simp; try with_reducible rfl)
        (try simp only [Act.put, List.setIfInBounds_toArray, List.set_cons_zero, List.set_cons_succ])
        refine wpAnyH_ready (rs := [22]) (by kernel_rfl) (by simp) ?_
        refine AllReadyH.cons (o := { dst := some 37, op := .call { callee := .value (.func 82), args := #[.tmp 36], argTypes := #[3] }, type := 9, pos := "l3_fact.go:125", after := #[{ on := 21, ground := .data }, { on := 14, ground := .chain }], guard := none }) rfl (fun K hK => ?_) AllReadyH.nil
        go_simp
        refine (sword_lit f.s _ s1 s4 hx3.out _).mono ?_; rintro e w3 ⟨rfl, b3⟩
        go_wp2_with fail
        refine hK.out _ _ ?_ (fun hHeld => ?_)
        · (try dsimp only); (refine ⟨?_, ?_, ?_, ?_⟩ <;> (repeat (first | with_reducible assumption | with_reducible refine keep_drew ?_ | with_reducible refine keep_below (by assumption) ?_)))
        clear hK K
        (try simp only [Act.put, List.setIfInBounds_toArray, List.set_cons_zero, List.set_cons_succ])
        refine wpAnyH_take (i := 23) (oi := { dst := some 38, op := .binOp .add 9 (.tmp 31) (.tmp 37) 9, type := 9, pos := "l3_fact.go:125", after := #[{ on := 16, ground := .data }, { on := 22, ground := .data }], guard := none }) (v := ?_) rfl (by kernel_rfl) (by kernel_rfl) (by kernel_rfl) (fun _ _ _ h => h) (Or.inl ⟨by rfl, ?_⟩) (by assumption) ?_
        rotate_left 1
        · (intro w hSw; (try dsimp only at hSw); go_simp; try with_reducible rfl)
        (try simp only [Act.put, List.setIfInBounds_toArray, List.set_cons_zero, List.set_cons_succ])
        refine wpAnyH_take (i := 24) (oi := { dst := some 3, op := .assign (.tmp 38), type := 9, pos := "l3_fact.go:125", after := #[{ on := 23, ground := .data }, { on := 22, ground := .chain }, { on := 0, ground := .phase }, { on := 1, ground := .phase }, { on := 2, ground := .phase }, { on := 3, ground := .phase }, { on := 4, ground := .phase }, { on := 5, ground := .phase }, { on := 6, ground := .phase }, { on := 7, ground := .phase }, { on := 8, ground := .phase }, { on := 9, ground := .phase }, { on := 10, ground := .phase }, { on := 11, ground := .phase }, { on := 12, ground := .phase }, { on := 13, ground := .phase }, { on := 14, ground := .phase }, { on := 15, ground := .phase }, { on := 16, ground := .phase }, { on := 17, ground := .phase }, { on := 18, ground := .phase }, { on := 19, ground := .phase }, { on := 20, ground := .phase }, { on := 21, ground := .phase }, { on := 22, ground := .phase }, { on := 23, ground := .phase }], guard := none }) (v := ?_) rfl (by kernel_rfl) (by kernel_rfl) (by kernel_rfl) (fun _ _ _ h => h) (Or.inl ⟨by rfl, ?_⟩) (by assumption) ?_
        rotate_left 1
        · (intro w hSw; (try dsimp only at hSw); go_simp; try with_reducible rfl)
        (try simp only [Act.put, List.setIfInBounds_toArray, List.set_cons_zero, List.set_cons_succ])
        refine wpAnyH_done (by kernel_rfl) ?_ _
        have B3 := btrans (btrans (btrans (qd hb) b1) b2) b3
        have d3 := keep_below b3 (keep_below b2 (keep_below b1 (keep_drew c3)))
        clear hHeld b1 b2 b3 c0 c1 c2 c3 hb
        cases hg : f.g
        · have hE : Hid (bs (ttx (seqF F (k + 1))) = y0 ++ x1 ++ bs [58] ++ x2 ++ bs [58] ++ x3) := by
            unfold Hid
            rw [hs.out, hft.out, hg, if_neg (by simp), bs_nil]
            simp [ByteArray.append_assoc]
          rw [hg] at d3
          clear hs hft hg hx1 hx2 hx3
          go_wp2
          go_roundw
          case rel => exact ⟨k + 1, _, by go_num, by omega, rfl, hE, B3⟩
          case measure => simp [intOf]; omega
        · have hE : Hid (bs (ttx (seqF F (k + 1))) = y0 ++ x1 ++ bs [58] ++ x2 ++ bs [58] ++ x3 ++ bs [42]) := by
            unfold Hid
            rw [hs.out, hft.out, hg, if_pos rfl]
            simp [ByteArray.append_assoc]
          rw [hg] at d3
          clear hs hft hg hx1 hx2 hx3
          go_wp2
          go_roundw
          case rel => exact ⟨k + 1, _, by go_num, by omega, rfl, hE, B3⟩
          case measure => simp [intOf]; omega
    · obtain rfl : k = len := by omega
      go_wp2
      go_ret
      exact ⟨by rw [hy.out]; rfl, hb⟩
set_option maxRecDepth 20000 in
theorem stext_any (a : Option Addr) (len cap : Nat) (F : Nat → Fc) (w : World) (h : FSl w a len F) (hl : len ≤ 1048576) :
    Calls Tryz.prog 14 #[.slice a len cap] w fun e w' => e = .returned (.string (txt len F)) ∧ Below w.heap.size w w' := by
  cases hok0 : tokB len F
  · have hok : Hid (tokB len F = false) := hok0
    have e1 : txt len F = bs [] := by unfold txt; rw [hok0]; rfl
    rw [e1]
    clear hok0 e1
    go_enter Tryz.func14, Tryz.ntmps14
    go_wp2_with fail
    refine (stok_litt a len cap F false _ h hl hok.out).mono ?_
    rintro r w1 ⟨rfl, b1⟩
    go_wp2
    go_ret
    exact ⟨rfl, b1⟩
  · have hok : Hid (tokB len F = true) := hok0
    by_cases h0 : len = 0
    · have e1 : txt len F = bs [45] := by unfold txt; rw [hok0, if_pos rfl, if_pos h0]
      rw [e1]
      subst h0
      clear hok0 e1
      go_enter Tryz.func14, Tryz.ntmps14
      go_wp2_with fail
      refine (stok_litt a 0 cap F true _ h hl hok.out).mono ?_
      rintro r w1 ⟨rfl, b1⟩
      go_wp2
      go_ret
      exact ⟨rfl, b1⟩
    · have e1 : txt len F = bs (ttx (seqF F len)) := by unfold txt; rw [hok0, if_pos rfl, if_neg h0]
      have hj : ¬ (len : Int) = 0 := by omega
      have hjb : ((len : Int) == 0) = false := by simpa using hj
      have hl3 := fun w h => l3text_any a len cap F w h hok0
      rw [e1]
      obtain ⟨y, hy⟩ : ∃ y, Hid (bs (ttx (seqF F len)) = y) := ⟨_, rfl⟩
      rw [hy.out] at hl3
      have hl3' : Hid _ := hl3
      clear hok0 e1 hl3
      go_enter Tryz.func14, Tryz.ntmps14
      go_wp2_with fail
      refine (stok_litt a len cap F true _ h hl hok.out).mono ?_
      rintro r w1 ⟨rfl, b1⟩
      go_wp2_with fail
      refine (hl3'.out _ (h.below b1)).mono ?_
      rintro r w2 ⟨rfl, b2⟩
      have B2 := btrans b1 b2
      go_wp2
      go_ret
      exact ⟨by rw [hy.out]; rfl, B2⟩
end Go.Proofs.YtibnojbhoepcdaaGreatDoor
/- Numbers to six figures, and with a sign: the program's way and the model's. -/
namespace Go.Proofs.YtibnojbhoepcdaaGreatDoor
open Go.ChangeShapes Go.WideShapes Go.ChangeAt Go.RowKit
attribute [local go_sem ↓] Go.wp_at_zero Go.wp_at_succ
theorem dd_succ (k n : Nat) (h : (Lib.decDigits (n / 10)).length ≤ k) : (Lib.decDigits n).length ≤ k + 1 := by
  rw [Lib.decDigits]
  split
  · simp
  · simp only [List.length_append, List.length_singleton]
    omega
theorem dd6_len (n : Nat) (h : n < 1000000) : (Lib.decDigits n).length ≤ 6 :=
  dd_succ _ _ (dd_succ _ _ (dd_succ _ _ (dd_len _ (by omega))))
set_option maxRecDepth 20000 in
set_option maxHeartbeats 2000000 in
theorem dec6_any : ∀ (m n : Nat), n < m → n < 1000000 → ∀ (w : World), Calls Tryz.prog 81 #[.int .i64 (n : Int)] w fun e w' => e = .returned (.string (bs (Lib.decDigits n))) ∧ Below w.heap.size w w'
  | 0, _, h, _, _ => absurd h (by omega)
  | m + 1, n, h, h9, w => by
    have i0 : ¬ (n : Int) < -9223372036854775807 := by omega
    have i1 : ¬ (n : Int) < 0 := by omega
    by_cases hn : n < 10
    · have i2 : (n : Int) < 10 := by omega
      have b1 : Below w.heap.size w (w.alloc (.cells #[.int .u8 (48 + (n : Int))] 5)) := balloc _ (Below.refl _ _)
      have cv := conv_one (w.alloc (.cells #[.int .u8 (48 + (n : Int))] 5)) w.heap.size 1 n _ hn rfl (by simp)
      rw [Lib.decDigits, dif_pos hn]
      go_enter Tryz.func81, Tryz.ntmps81
      go_wp2
      go_ret
      exact ⟨rfl, b1⟩
    · have i2 : ¬ (n : Int) < 10 := by omega
      have ih := dec6_any m (n / 10) (by omega) (by omega)
      have hl := dd6_len (n / 10) (by omega)
      rw [Lib.decDigits, dif_neg hn]
      obtain ⟨x, hx⟩ : ∃ x, Hid (bs (Lib.decDigits (n / 10)) = x) := ⟨_, rfl⟩
      have z1 : x.size ≤ 6 := by rw [← hx.out]; simpa [ByteArray.size] using hl
      have ih' : Hid (∀ w, Calls Tryz.prog 81 #[.int .i64 ((n / 10 : Nat) : Int)] w fun e w' => e = .returned (.string x) ∧ Below w.heap.size w w') := by rw [hx.out] at ih; exact ih
      obtain ⟨y, hy⟩ : ∃ y, Hid (UInt8.ofNat (48 + n % 10) = y) := ⟨_, rfl⟩
      have e1 : Hid (bs (Lib.decDigits (n / 10) ++ [UInt8.ofNat (48 + n % 10)]) = x ++ bs [y]) := by
        unfold Hid
        rw [← hx.out, ← hy.out, bs_append]
      have q1 : Int.tdiv (n : Int) 10 = ((n / 10 : Nat) : Int) := by rw [Int.tdiv_eq_ediv_of_nonneg (by omega)]; omega
      have q2 : Int.tmod (n : Int) 10 = ((n % 10 : Nat) : Int) := by rw [Int.tmod_eq_emod_of_nonneg (by omega)]; omega
      have hd : n % 10 < 10 := by omega
      have k1 : ¬ 9223372036854775807 < x.size + 1 := by omega
      have r1 : IntKind.i64.wrap ((n / 10 : Nat) : Int) = ((n / 10 : Nat) : Int) := by rw [IntKind.wrap_i64]; omega
      have r2 : IntKind.i64.wrap (48 + ((n % 10 : Nat) : Int)) = 48 + ((n % 10 : Nat) : Int) := by rw [IntKind.wrap_i64]; omega
      have r3 : IntKind.u8.wrap (48 + ((n % 10 : Nat) : Int)) = 48 + ((n % 10 : Nat) : Int) := by rw [IntKind.wrap_u8]; omega
      clear ih hx hl
      generalize n / 10 = u at *
      generalize n % 10 = d at *
      go_enter Tryz.func81, Tryz.ntmps81
      go_wp2_with fail
      refine wp_region_held_drew (S := fun _ => True) (by kernel_rfl) trivial (fun hHeld => ?_)
      refine wpAnyH_take (i := 0) (oi := { dst := some 18, op := .move (.tmp 0), type := 3, pos := "l1_fix.go:20", after := #[], guard := none }) (v := ?_) rfl (by kernel_rfl) (by kernel_rfl) (by kernel_rfl) (fun _ _ _ h => h) (Or.inl ⟨by rfl, ?_⟩) (by assumption) ?_
      rotate_left 1
      · (intro w hSw; (try dsimp only at hSw); go_simp; try with_reducible rfl)
      (try simp only [Act.put, List.setIfInBounds_toArray, List.set_cons_zero, List.set_cons_succ])
      refine wpAnyH_take (i := 1) (oi := { dst := some 19, op := .binOp .quo 3 (.tmp 18) (.const (.int .i64 10)) 3, type := 3, pos := "l1_fix.go:20", after := #[{ on := 0, ground := .data }], guard := none }) (v := ?_) rfl (by kernel_rfl) (by kernel_rfl) (by kernel_rfl) (fun _ _ _ h => h) (Or.inl ⟨by rfl, ?_⟩) (by assumption) ?_
      rotate_left 1
      · (intro w hSw; (try dsimp only at hSw); go_simp; try with_reducible rfl)
      (try simp only [Act.put, List.setIfInBounds_toArray, List.set_cons_zero, List.set_cons_succ])
      refine wpAnyH_take (i := 3) (oi := { dst := some 21, op := .move (.tmp 0), type := 3, pos := "l1_fix.go:20", after := #[], guard := none }) (v := ?_) rfl (by kernel_rfl) (by kernel_rfl) (by kernel_rfl) (fun _ _ _ h => h) (Or.inl ⟨by rfl, ?_⟩) (by assumption) ?_
      rotate_left 1
      · (intro w hSw; (try dsimp only at hSw); go_simp; try with_reducible rfl)
      (try simp only [Act.put, List.setIfInBounds_toArray, List.set_cons_zero, List.set_cons_succ])
      refine wpAnyH_take (i := 4) (oi := { dst := some 22, op := .binOp .rem 3 (.tmp 21) (.const (.int .i64 10)) 3, type := 3, pos := "l1_fix.go:20", after := #[{ on := 3, ground := .data }], guard := none }) (v := ?_) rfl (by kernel_rfl) (by kernel_rfl) (by kernel_rfl) (fun _ _ _ h => h) (Or.inl ⟨by rfl, ?_⟩) (by assumption) ?_
      rotate_left 1
      · (intro w hSw; (try dsimp only at hSw); go_simp; try with_reducible rfl)
      (try simp only [Act.put, List.setIfInBounds_toArray, List.set_cons_zero, List.set_cons_succ])
      refine wpAnyH_take (i := 5) (oi := { dst := some 23, op := .binOp .add 3 (.const (.int .i64 48)) (.tmp 22) 3, type := 3, pos := "l1_fix.go:20", after := #[{ on := 4, ground := .data }], guard := none }) (v := ?_) rfl (by kernel_rfl) (by kernel_rfl) (by kernel_rfl) (fun _ _ _ h => h) (Or.inl ⟨by rfl, ?_⟩) (by assumption) ?_
      rotate_left 1
      · (intro w hSw; (try dsimp only at hSw); go_simp; try with_reducible rfl)
      (try simp only [Act.put, List.setIfInBounds_toArray, List.set_cons_zero, List.set_cons_succ])
      refine wpAnyH_take (i := 6) (oi := { dst := some 24, op := .convert 3 5 (.tmp 23), type := 5, pos := "l1_fix.go:20", after := #[{ on := 5, ground := .data }], guard := none }) (v := ?_) rfl (by kernel_rfl) (by kernel_rfl) (by kernel_rfl) (fun _ _ _ h => h) (Or.inl ⟨by rfl, ?_⟩) (by assumption) ?_
      rotate_left 1
      · (intro w hSw; (try dsimp only at hSw); go_simp; try with_reducible rfl)
      (try simp only [Act.put, List.setIfInBounds_toArray, List.set_cons_zero, List.set_cons_succ])
      refine wpAnyH_ready (rs := [2, 7]) (by kernel_rfl) (by simp) ?_
      refine AllReadyH.cons (o := { dst := some 20, op := .call { callee := .value (.func 81), args := #[.tmp 19], argTypes := #[3] }, type := 9, pos := "l1_fix.go:20", after := #[{ on := 1, ground := .data }], guard := none }) rfl (fun K hK => ?_) (AllReadyH.cons (o := { dst := some 25, op := .buildSlice 22 1 #[(0, .tmp 24)], type := 22, pos := "l1_fix.go:20", after := #[{ on := 6, ground := .data }], guard := none }) rfl (fun K hK => ?_) AllReadyH.nil)
      · go_simp
        refine (ih'.out _).mono ?_
        rintro e w1 ⟨rfl, b1⟩
        go_wp2_with fail
        refine hK.out _ _ trivial (fun hHeld => ?_)
        clear hK K
        (try simp only [Act.put, List.setIfInBounds_toArray, List.set_cons_zero, List.set_cons_succ])
        refine wpAnyH_ready (rs := [7]) (by kernel_rfl) (by simp) ?_
        refine AllReadyH.cons (o := { dst := some 25, op := .buildSlice 22 1 #[(0, .tmp 24)], type := 22, pos := "l1_fix.go:20", after := #[{ on := 6, ground := .data }], guard := none }) rfl (fun K hK => ?_) AllReadyH.nil
        go_simp
        refine hK.out _ _ trivial (fun hHeld => ?_)
        clear hK K
        (try simp only [Act.put, List.setIfInBounds_toArray, List.set_cons_zero, List.set_cons_succ])
        refine wpAnyH_ready (rs := [8]) (by kernel_rfl) (by simp) ?_
        refine AllReadyH.cons (o := { dst := some 26, op := .convert 22 9 (.tmp 25), type := 9, pos := "l1_fix.go:20", after := #[{ on := 7, ground := .data }], guard := none }) rfl (fun K hK => ?_) AllReadyH.nil
        have cv := conv_one (w1.alloc (.cells #[.int .u8 (48 + (d : Int))] 5)) w1.heap.size 1 d y hd hy.out (by simp)
        go_simp
        refine hK.out _ _ trivial (fun hHeld => ?_)
        clear hK K cv
        (try simp only [Act.put, List.setIfInBounds_toArray, List.set_cons_zero, List.set_cons_succ])
        refine wpAnyH_take (i := 9) (oi := { dst := some 27, op := .binOp .add 9 (.tmp 20) (.tmp 26) 9, type := 9, pos := "l1_fix.go:20", after := #[{ on := 2, ground := .data }, { on := 8, ground := .data }], guard := none }) (v := ?_) rfl (by kernel_rfl) (by kernel_rfl) (by kernel_rfl) (fun _ _ _ h => h) (Or.inl ⟨by rfl, ?_⟩) (by assumption) ?_
        rotate_left 1
        · (intro w hSw; (try dsimp only at hSw); go_simp; try with_reducible rfl)
        (try simp only [Act.put, List.setIfInBounds_toArray, List.set_cons_zero, List.set_cons_succ])
        refine wpAnyH_take (i := 10) (oi := { dst := some 2, op := .assign (.tmp 27), type := 9, pos := "l1_fix.go:20", after := #[{ on := 9, ground := .data }, { on := 2, ground := .chain }, { on := 0, ground := .phase }, { on := 1, ground := .phase }, { on := 2, ground := .phase }, { on := 3, ground := .phase }, { on := 4, ground := .phase }, { on := 5, ground := .phase }, { on := 6, ground := .phase }, { on := 7, ground := .phase }, { on := 8, ground := .phase }, { on := 9, ground := .phase }], guard := none }) (v := ?_) rfl (by kernel_rfl) (by kernel_rfl) (by kernel_rfl) (fun _ _ _ h => h) (Or.inl ⟨by rfl, ?_⟩) (by assumption) ?_
        rotate_left 1
        · (intro w hSw; (try dsimp only at hSw); go_simp; try with_reducible rfl)
        (try simp only [Act.put, List.setIfInBounds_toArray, List.set_cons_zero, List.set_cons_succ])
        refine wpAnyH_done (by kernel_rfl) ?_ _
        have BB : Below w.heap.size w (w1.alloc (.cells #[.int .u8 (48 + (d : Int))] 5)) := balloc _ (btrans (qd (Below.refl _ _)) b1)
        go_wp2
        go_ret
        exact ⟨by rw [e1.out]; rfl, BB⟩
      · go_simp
        refine hK.out _ _ trivial (fun hHeld => ?_)
        clear hK K
        (try simp only [Act.put, List.setIfInBounds_toArray, List.set_cons_zero, List.set_cons_succ])
        have b0 : Below w.heap.size w (w.alloc (.cells #[.int .u8 (48 + (d : Int))] 5)).drew := qd (balloc _ (Below.refl _ _))
        have c0 : (w.alloc (.cells #[.int .u8 (48 + (d : Int))] 5)).drew.cell? ⟨w.heap.size, 0, none⟩ = some (.int .u8 (48 + (d : Int))) := by simp
        generalize (w.alloc (.cells #[.int .u8 (48 + (d : Int))] 5)).drew = w0 at *
        obtain ⟨bb, hbb⟩ : ∃ bb, w.heap.size = bb := ⟨_, rfl⟩
        rw [hbb] at c0 ⊢
        refine wpAnyH_ready (rs := [2, 8]) (by kernel_rfl) (by simp) ?_
        refine AllReadyH.cons (o := { dst := some 20, op := .call { callee := .value (.func 81), args := #[.tmp 19], argTypes := #[3] }, type := 9, pos := "l1_fix.go:20", after := #[{ on := 1, ground := .data }], guard := none }) rfl (fun K hK => ?_) (AllReadyH.cons (o := { dst := some 26, op := .convert 22 9 (.tmp 25), type := 9, pos := "l1_fix.go:20", after := #[{ on := 7, ground := .data }], guard := none }) rfl (fun K hK => ?_) AllReadyH.nil)
        · go_simp
          refine (ih'.out _).mono ?_
          rintro e w1 ⟨rfl, b1⟩
          go_wp2_with fail
          refine hK.out _ _ trivial (fun hHeld => ?_)
          clear hK K
          (try simp only [Act.put, List.setIfInBounds_toArray, List.set_cons_zero, List.set_cons_succ])
          refine wpAnyH_ready (rs := [8]) (by kernel_rfl) (by simp) ?_
          refine AllReadyH.cons (o := { dst := some 26, op := .convert 22 9 (.tmp 25), type := 9, pos := "l1_fix.go:20", after := #[{ on := 7, ground := .data }], guard := none }) rfl (fun K hK => ?_) AllReadyH.nil
          have cv := conv_one w1 bb 1 d y hd hy.out (keep_below b1 c0)
          go_simp
          refine hK.out _ _ trivial (fun hHeld => ?_)
          clear hK K cv
          (try simp only [Act.put, List.setIfInBounds_toArray, List.set_cons_zero, List.set_cons_succ])
          refine wpAnyH_take (i := 9) (oi := { dst := some 27, op := .binOp .add 9 (.tmp 20) (.tmp 26) 9, type := 9, pos := "l1_fix.go:20", after := #[{ on := 2, ground := .data }, { on := 8, ground := .data }], guard := none }) (v := ?_) rfl (by kernel_rfl) (by kernel_rfl) (by kernel_rfl) (fun _ _ _ h => h) (Or.inl ⟨by rfl, ?_⟩) (by assumption) ?_
          rotate_left 1
          · (intro w hSw; (try dsimp only at hSw); go_simp; try with_reducible rfl)
          (try simp only [Act.put, List.setIfInBounds_toArray, List.set_cons_zero, List.set_cons_succ])
          refine wpAnyH_take (i := 10) (oi := { dst := some 2, op := .assign (.tmp 27), type := 9, pos := "l1_fix.go:20", after := #[{ on := 9, ground := .data }, { on := 2, ground := .chain }, { on := 0, ground := .phase }, { on := 1, ground := .phase }, { on := 2, ground := .phase }, { on := 3, ground := .phase }, { on := 4, ground := .phase }, { on := 5, ground := .phase }, { on := 6, ground := .phase }, { on := 7, ground := .phase }, { on := 8, ground := .phase }, { on := 9, ground := .phase }], guard := none }) (v := ?_) rfl (by kernel_rfl) (by kernel_rfl) (by kernel_rfl) (fun _ _ _ h => h) (Or.inl ⟨by rfl, ?_⟩) (by assumption) ?_
          rotate_left 1
          · (intro w hSw; (try dsimp only at hSw); go_simp; try with_reducible rfl)
          (try simp only [Act.put, List.setIfInBounds_toArray, List.set_cons_zero, List.set_cons_succ])
          refine wpAnyH_done (by kernel_rfl) ?_ _
          have BB : Below w.heap.size w w1 := btrans b0 b1
          go_wp2
          go_ret
          exact ⟨by rw [e1.out]; rfl, BB⟩
        · have cv := conv_one w0 bb 1 d y hd hy.out c0
          go_simp
          refine hK.out _ _ trivial (fun hHeld => ?_)
          clear hK K cv
          (try simp only [Act.put, List.setIfInBounds_toArray, List.set_cons_zero, List.set_cons_succ])
          refine wpAnyH_ready (rs := [2]) (by kernel_rfl) (by simp) ?_
          refine AllReadyH.cons (o := { dst := some 20, op := .call { callee := .value (.func 81), args := #[.tmp 19], argTypes := #[3] }, type := 9, pos := "l1_fix.go:20", after := #[{ on := 1, ground := .data }], guard := none }) rfl (fun K hK => ?_) AllReadyH.nil
          go_simp
          refine (ih'.out _).mono ?_
          rintro e w1 ⟨rfl, b1⟩
          go_wp2_with fail
          refine hK.out _ _ trivial (fun hHeld => ?_)
          clear hK K
          (try simp only [Act.put, List.setIfInBounds_toArray, List.set_cons_zero, List.set_cons_succ])
          refine wpAnyH_take (i := 9) (oi := { dst := some 27, op := .binOp .add 9 (.tmp 20) (.tmp 26) 9, type := 9, pos := "l1_fix.go:20", after := #[{ on := 2, ground := .data }, { on := 8, ground := .data }], guard := none }) (v := ?_) rfl (by kernel_rfl) (by kernel_rfl) (by kernel_rfl) (fun _ _ _ h => h) (Or.inl ⟨by rfl, ?_⟩) (by assumption) ?_
          rotate_left 1
          · (intro w hSw; (try dsimp only at hSw); go_simp; try with_reducible rfl)
          (try simp only [Act.put, List.setIfInBounds_toArray, List.set_cons_zero, List.set_cons_succ])
          refine wpAnyH_take (i := 10) (oi := { dst := some 2, op := .assign (.tmp 27), type := 9, pos := "l1_fix.go:20", after := #[{ on := 9, ground := .data }, { on := 2, ground := .chain }, { on := 0, ground := .phase }, { on := 1, ground := .phase }, { on := 2, ground := .phase }, { on := 3, ground := .phase }, { on := 4, ground := .phase }, { on := 5, ground := .phase }, { on := 6, ground := .phase }, { on := 7, ground := .phase }, { on := 8, ground := .phase }, { on := 9, ground := .phase }], guard := none }) (v := ?_) rfl (by kernel_rfl) (by kernel_rfl) (by kernel_rfl) (fun _ _ _ h => h) (Or.inl ⟨by rfl, ?_⟩) (by assumption) ?_
          rotate_left 1
          · (intro w hSw; (try dsimp only at hSw); go_simp; try with_reducible rfl)
          (try simp only [Act.put, List.setIfInBounds_toArray, List.set_cons_zero, List.set_cons_succ])
          refine wpAnyH_done (by kernel_rfl) ?_ _
          have BB : Below w.heap.size w w1 := btrans b0 b1
          go_wp2
          go_ret
          exact ⟨by rw [e1.out]; rfl, BB⟩
theorem sdec6_any (n : Nat) (h : n < 1000000) (w : World) : Calls Tryz.prog 81 #[.int .i64 (n : Int)] w fun e w' => e = .returned (.string (bs (Lib.decDigits n))) ∧ Below w.heap.size w w' := dec6_any (n + 1) n (by omega) h w
theorem itoa6_any (n : Int) (h0 : -999999 ≤ n) (h1 : n ≤ 999999) (w : World) (ht : Tabs w) :
    Calls Tryz.prog 49 #[.int .i64 n] w fun e w' => e = .returned (.string (bs (Lib.itoa n))) ∧ Below w.heap.size w w' :=
  (Tryz.strconv_Itoa n (by omega) (by omega) w ht.p).mono (by rintro e w' ⟨rfl, k, os, rfl⟩; exact ⟨rfl, below_grow k os⟩)
/-- a number with its sign -/
def sgn (n : Int) : List UInt8 := if n < 0 then 45 :: Lib.decDigits n.natAbs else 43 :: Lib.decDigits n.natAbs
theorem sgn_len (n : Int) (h0 : -999999 ≤ n) (h1 : n ≤ 999999) : (sgn n).length ≤ 7 := by
  have := dd6_len n.natAbs (by omega)
  unfold sgn
  split <;> simp only [List.length_cons] <;> omega
theorem sgn_any (n : Int) (h0 : -999999 ≤ n) (h1 : n ≤ 999999) (w : World) (ht : Tabs w) :
    Calls Tryz.prog 50 #[.int .i64 n] w fun e w' => e = .returned (.string (bs (sgn n))) ∧ Below w.heap.size w w' := by
  have hi := itoa6_any n h0 h1
  by_cases hn : n < 0
  · have e : Lib.itoa n = sgn n := by
      obtain ⟨u, rfl⟩ : ∃ u : Nat, n = -(u : Int) := ⟨n.natAbs, by omega⟩
      rw [Lib.itoa_neg u (by omega), sgn, if_pos hn]
      simp
    rw [e] at hi
    generalize bs (sgn n) = x at *
    clear e
    go_enter Tryz.func50, Tryz.ntmps50
    go_wp2_with fail
    refine (hi w ht).mono ?_
    rintro e w1 ⟨rfl, b1⟩
    clear hi
    go_wp2
    go_ret
    exact ⟨rfl, b1⟩
  · have e : sgn n = [43] ++ Lib.itoa n := by
      obtain ⟨u, rfl⟩ : ∃ u : Nat, n = (u : Int) := ⟨n.natAbs, by omega⟩
      rw [Lib.itoa_nonneg, sgn, if_neg hn]
      simp
    have hl := sgn_len n h0 h1
    have e2 : Hid (ByteArray.mk #[43] ++ bs (Lib.itoa n) = bs (sgn n)) := by
      unfold Hid
      rw [e]
      exact bs_append [43] _
    have hs : (bs (Lib.itoa n)).size ≤ 6 := by
      rw [e] at hl
      have : (bs (Lib.itoa n)).size = (Lib.itoa n).length := by simp [ByteArray.size]
      simp only [List.length_append, List.length_singleton] at hl
      omega
    clear e hl
    generalize bs (sgn n) = x at *
    generalize bs (Lib.itoa n) = y at *
    have k1 : ¬ 9223372036854775807 < 1 + y.size := by omega
    go_enter Tryz.func50, Tryz.ntmps50
    go_wp2_with fail
    refine (hi w ht).mono ?_
    rintro e w1 ⟨rfl, b1⟩
    clear hi
    go_wp2
    go_ret
    exact ⟨by rw [← e2.out]; rfl, b1⟩
theorem lsgn_any (n : Int) (h0 : -999999 ≤ n) (h1 : n ≤ 999999) (w : World) :
    Calls Tryz.prog 92 #[.int .i64 n] w fun e w' => e = .returned (.string (bs (sgn n))) ∧ Below w.heap.size w w' := by
  have hi := sdec6_any n.natAbs (by omega)
  have hl := dd6_len n.natAbs (by omega)
  have hs : (bs (Lib.decDigits n.natAbs)).size ≤ 6 := by
    have : (bs (Lib.decDigits n.natAbs)).size = (Lib.decDigits n.natAbs).length := by simp [ByteArray.size]
    omega
  by_cases hn : n < 0
  · have e2 : Hid (ByteArray.mk #[45] ++ bs (Lib.decDigits n.natAbs) = bs (sgn n)) := by
      unfold Hid
      rw [sgn, if_pos hn]
      exact bs_append [45] _
    have en : ((n.natAbs : Nat) : Int) = -n := by omega
    rw [en] at hi
    clear hl
    generalize bs (sgn n) = x at *
    generalize bs (Lib.decDigits n.natAbs) = y at *
    have k1 : ¬ 9223372036854775807 < 1 + y.size := by omega
    have r1 : IntKind.i64.wrap (-n) = -n := by rw [IntKind.wrap_i64]; omega
    clear en
    go_enter Tryz.func92, Tryz.ntmps92
    go_wp2_with fail
    refine (hi w).mono ?_
    rintro e w1 ⟨rfl, b1⟩
    clear hi
    go_wp2
    go_ret
    exact ⟨by rw [← e2.out]; rfl, b1⟩
  · have e2 : Hid (ByteArray.mk #[43] ++ bs (Lib.decDigits n.natAbs) = bs (sgn n)) := by
      unfold Hid
      rw [sgn, if_neg hn]
      exact bs_append [43] _
    have en : ((n.natAbs : Nat) : Int) = n := by omega
    rw [en] at hi
    clear hl
    generalize bs (sgn n) = x at *
    generalize bs (Lib.decDigits n.natAbs) = y at *
    have k1 : ¬ 9223372036854775807 < 1 + y.size := by omega
    clear en
    go_enter Tryz.func92, Tryz.ntmps92
    go_wp2_with fail
    refine (hi w).mono ?_
    rintro e w1 ⟨rfl, b1⟩
    clear hi
    go_wp2
    go_ret
    exact ⟨by rw [← e2.out]; rfl, b1⟩
end Go.Proofs.YtibnojbhoepcdaaGreatDoor
/- The words for pools and kinds. -/
namespace Go.Proofs.YtibnojbhoepcdaaGreatDoor
open Go.ChangeShapes Go.WideShapes Go.ChangeAt Go.RowKit
attribute [local go_sem ↓] Go.wp_at_zero Go.wp_at_succ
def pool1 : List UInt8 := [108, 97, 110]
def pool2 : List UInt8 := [119, 97, 110]
def poolL (s : Int) : List UInt8 := if s = 1 then pool1 else pool2
def poolT : List UInt8 := [108, 97, 110, 32, 119, 97, 110]
theorem pool_ascii : ∀ b ∈ poolT, b.toNat < 128 := by decide
theorem pool_fields : Lib.fields poolT = [pool1, pool2] := by decide
theorem pools_any (w : World) (ht : Tabs w) :
    Calls Tryz.prog 86 #[.string (bs [108, 97, 110, 32, 119, 97, 110])] w fun e w' => e = .returned (.slice (some ⟨w.heap.size, 0, none⟩) 2 2) ∧ w' = w.alloc (.cells #[.string (bs pool1), .string (bs pool2)] 9) := by
  have hf := Tryz.strings_Fields (bs poolT) w (by decide) (fun j b hb => pool_ascii b (List.mem_of_getElem? hb)) ht.s
  have e1 : Lib.fields (bs poolT).data.toList = [pool1, pool2] := pool_fields
  rw [e1] at hf
  go_enter Tryz.func86, Tryz.ntmps86
  go_wp2_with fail
  refine hf.mono ?_
  rintro e w' ⟨rfl, rfl⟩
  go_wp2
  go_ret
  exact ⟨rfl, rfl⟩
theorem pool_of (s : Int) (h1 : 1 ≤ s) (h4 : s ≤ 2) (w : World) (ht : Tabs w) :
    Calls Tryz.prog 48 #[.string (bs [108, 97, 110, 32, 119, 97, 110]), .int .i64 s] w fun e w' => e = .returned (.string (bs (poolL s))) ∧ Below w.heap.size w w' := by
  have b1 : Below w.heap.size w (w.alloc (.cells #[.string (bs pool1), .string (bs pool2)] 9)) := balloc _ (Below.refl _ _)
  have p1 : (w.alloc (.cells #[.string (bs pool1), .string (bs pool2)] 9)).heap[w.heap.size]? = some (.cells #[.string (bs pool1), .string (bs pool2)] 9 (0, 0)) := heap_alloc_new _ _
  have c0 := cell_block (o := 0) (v := .string (bs pool1)) p1 rfl
  have c1 := cell_block (o := 1) (v := .string (bs pool2)) p1 rfl
  have hs : s = 1 ∨ s = 2 := by omega
  clear h1 h4
  rcases hs with rfl | rfl
  all_goals
    go_enter Tryz.func48, Tryz.ntmps48
    go_wp2_with fail
    refine (pools_any w ht).mono ?_
    rintro e w' ⟨rfl, rfl⟩
    go_wp2
    go_ret
    exact ⟨rfl, b1⟩
def kind1 : List UInt8 := [112, 105, 110, 103]
def kind2 : List UInt8 := [97, 99, 107]
def kind3 : List UInt8 := [97, 115, 107]
def kind4 : List UInt8 := [115, 121, 110, 99]
def kind5 : List UInt8 := [98, 97, 99, 107]
def kind6 : List UInt8 := [115, 117, 109]
def kindL (s : Int) : List UInt8 := if s = 1 then kind1 else if s = 2 then kind2 else if s = 3 then kind3 else if s = 4 then kind4 else if s = 5 then kind5 else kind6
def kindT : List UInt8 := [112, 105, 110, 103, 32, 97, 99, 107, 32, 97, 115, 107, 32, 115, 121, 110, 99, 32, 98, 97, 99, 107, 32, 115, 117, 109]
theorem kind_ascii : ∀ b ∈ kindT, b.toNat < 128 := by decide
theorem kind_fields : Lib.fields kindT = [kind1, kind2, kind3, kind4, kind5, kind6] := by decide
theorem kinds_any (w : World) (ht : Tabs w) :
    Calls Tryz.prog 86 #[.string (bs [112, 105, 110, 103, 32, 97, 99, 107, 32, 97, 115, 107, 32, 115, 121, 110, 99, 32, 98, 97, 99, 107, 32, 115, 117, 109])] w fun e w' => e = .returned (.slice (some ⟨w.heap.size, 0, none⟩) 6 6) ∧ w' = w.alloc (.cells #[.string (bs kind1), .string (bs kind2), .string (bs kind3), .string (bs kind4), .string (bs kind5), .string (bs kind6)] 9) := by
  have hf := Tryz.strings_Fields (bs kindT) w (by decide) (fun j b hb => kind_ascii b (List.mem_of_getElem? hb)) ht.s
  have e1 : Lib.fields (bs kindT).data.toList = [kind1, kind2, kind3, kind4, kind5, kind6] := kind_fields
  rw [e1] at hf
  go_enter Tryz.func86, Tryz.ntmps86
  go_wp2_with fail
  refine hf.mono ?_
  rintro e w' ⟨rfl, rfl⟩
  go_wp2
  go_ret
  exact ⟨rfl, rfl⟩
theorem kind_of (s : Int) (h1 : 1 ≤ s) (h4 : s ≤ 6) (w : World) (ht : Tabs w) :
    Calls Tryz.prog 48 #[.string (bs [112, 105, 110, 103, 32, 97, 99, 107, 32, 97, 115, 107, 32, 115, 121, 110, 99, 32, 98, 97, 99, 107, 32, 115, 117, 109]), .int .i64 s] w fun e w' => e = .returned (.string (bs (kindL s))) ∧ Below w.heap.size w w' := by
  have b1 : Below w.heap.size w (w.alloc (.cells #[.string (bs kind1), .string (bs kind2), .string (bs kind3), .string (bs kind4), .string (bs kind5), .string (bs kind6)] 9)) := balloc _ (Below.refl _ _)
  have p1 : (w.alloc (.cells #[.string (bs kind1), .string (bs kind2), .string (bs kind3), .string (bs kind4), .string (bs kind5), .string (bs kind6)] 9)).heap[w.heap.size]? = some (.cells #[.string (bs kind1), .string (bs kind2), .string (bs kind3), .string (bs kind4), .string (bs kind5), .string (bs kind6)] 9 (0, 0)) := heap_alloc_new _ _
  have c0 := cell_block (o := 0) (v := .string (bs kind1)) p1 rfl
  have c1 := cell_block (o := 1) (v := .string (bs kind2)) p1 rfl
  have c2 := cell_block (o := 2) (v := .string (bs kind3)) p1 rfl
  have c3 := cell_block (o := 3) (v := .string (bs kind4)) p1 rfl
  have c4 := cell_block (o := 4) (v := .string (bs kind5)) p1 rfl
  have c5 := cell_block (o := 5) (v := .string (bs kind6)) p1 rfl
  have hs : s = 1 ∨ s = 2 ∨ s = 3 ∨ s = 4 ∨ s = 5 ∨ s = 6 := by omega
  clear h1 h4
  rcases hs with rfl | rfl | rfl | rfl | rfl | rfl
  all_goals
    go_enter Tryz.func48, Tryz.ntmps48
    go_wp2_with fail
    refine (kinds_any w ht).mono ?_
    rintro e w' ⟨rfl, rfl⟩
    go_wp2
    go_ret
    exact ⟨rfl, b1⟩
theorem lkind_any (s : Int) (h1 : 1 ≤ s) (h4 : s ≤ 6) (w : World) :
    Calls Tryz.prog 45 #[.int .i64 s] w fun e w' => e = .returned (.string (bs (kindL s))) ∧ Below w.heap.size w w' := by
  have b1 : Below w.heap.size w (w.alloc (.cells #[.string ⟨#[]⟩, .string ⟨#[112, 105, 110, 103]⟩, .string ⟨#[97, 99, 107]⟩, .string ⟨#[97, 115, 107]⟩, .string ⟨#[115, 121, 110, 99]⟩, .string ⟨#[98, 97, 99, 107]⟩, .string ⟨#[115, 117, 109]⟩] 9)) := balloc _ (Below.refl _ _)
  have hs : s = 1 ∨ s = 2 ∨ s = 3 ∨ s = 4 ∨ s = 5 ∨ s = 6 := by omega
  clear h1 h4
  rcases hs with rfl | rfl | rfl | rfl | rfl | rfl
  all_goals
    go_enter Tryz.func45, Tryz.ntmps45
    go_wp2
    go_ret
    exact ⟨rfl, b1⟩
end Go.Proofs.YtibnojbhoepcdaaGreatDoor
