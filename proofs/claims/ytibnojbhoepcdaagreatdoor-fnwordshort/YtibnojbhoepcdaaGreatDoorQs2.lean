/- Texts of the proof, laid together: STable, ExTable, Gates, Tab, Reg, Sort, Put. -/
import Derived.Test.YtibnojbhoepcdaaGreatDoorQs1
import Derived.Laws.OwnMore
import Derived.Maps.OwnSet
import Derived.Lib.OwnBridge
import Derived.Sort.OwnSortedInts
import Derived.Sort.LotA
/- Tables that are ok, the model's way. -/
namespace Go.Proofs.YtibnojbhoepcdaaGreatDoor
open Go.ChangeShapes Go.WideShapes Go.ChangeAt Go.RowKit
attribute [local go_sem ↓] Go.wp_at_zero Go.wp_at_succ
theorem sfok_lit (n i s : Int) (g b : Bool) (h : fokB n i s = b) (w : World) :
    Calls Tryz.prog 41 #[.agg #[.int .i64 n, .int .i64 i, .int .i64 s, .bool g]] w fun r w' => r = .returned (.bool b) ∧ Below w.heap.size w w' := h ▸ sfok_below n i s g w
set_option maxRecDepth 10000 in
set_option maxHeartbeats 1000000 in
theorem stok_any (a : Option Addr) (len cap : Nat) (F : Nat → Fc) (w : World) (h : FSl w a len F) (hl : len ≤ 1048576) :
    Calls Tryz.prog 15 #[.slice a len cap] w fun e w' => e = .returned (.bool (tokB len F)) ∧ Below w.heap.size w w' := by
  go_enter Tryz.func15, Tryz.ntmps15
  go_wp2
  go_loopw [3] (fun i wr => ∃ k : Nat, k ≤ len ∧ i = .int .i64 k ∧ Below w.heap.size w wr ∧ (∀ j, j < k → fokB (F j).n (F j).i (F j).s = true) ∧ (∀ j, j < k → 0 < j → (F (j - 1)).n < (F j).n)) (fun i _ => len - (intOf i).toNat)
  case atStart => exact ⟨0, by omega, rfl, Below.refl _ _, fun j h1 => by omega, fun j h1 => by omega⟩
  case round =>
    obtain ⟨k, hk, rfl, hb, hall, hasc⟩ := hrel
    by_cases hlt : k < len
    · obtain ⟨b, off, rfl, hbl, hf⟩ := h (by omega)
      obtain ⟨c0, c1, c2, c3⟩ := (hf.below hb hbl) k hlt
      have i0 : (0 : Int) ≤ (k : Int) := by omega
      have i1 : (k : Int) < (len : Int) := by omega
      cases hok : fokB (F k).n (F k).i (F k).s
      · go_wp2_with fail
        have hok' : Hid (fokB (F k).n (F k).i (F k).s = false) := hok
        clear hok
        refine wp_region_held_drew (S := (fun w' => w'.cell? ⟨b, off + k * 4, none⟩ = some (.int .i64 (F k).n) ∧ w'.cell? ⟨b, off + k * 4 + 1, none⟩ = some (.int .i64 (F k).i) ∧ w'.cell? ⟨b, off + k * 4 + 2, none⟩ = some (.int .i64 (F k).s) ∧ w'.cell? ⟨b, off + k * 4 + 3, none⟩ = some (.bool (F k).g))) (by kernel_rfl) ?_ (fun hHeld => ?_)
        · (try dsimp only); (refine ⟨?_, ?_, ?_, ?_⟩ <;> (repeat (first | with_reducible assumption | with_reducible refine keep_drew ?_ | with_reducible refine keep_below (by assumption) ?_)))
        refine wpAnyH_take (i := 0) (oi := { dst := some 10, op := Go.Op.move (Go.Operand.tmp 0), type := 24, pos := "l3_fact.go:29", after := #[], guard := none }) (v := ?_) rfl (by kernel_rfl) (by kernel_rfl) (by kernel_rfl) (fun _ _ _ h => h) (Or.inl ⟨by rfl, ?_⟩) (by assumption) ?_
        rotate_left 1
        · (intro w hSw; (try dsimp only at hSw); go_simp; try with_reducible rfl)
        (try simp only [Act.put, List.setIfInBounds_toArray, List.set_cons_zero, List.set_cons_succ])
        refine wpAnyH_take (i := 1) (oi := { dst := some 11, op := Go.Op.move (Go.Operand.tmp 3), type := 3, pos := "l3_fact.go:29", after := #[], guard := none }) (v := ?_) rfl (by kernel_rfl) (by kernel_rfl) (by kernel_rfl) (fun _ _ _ h => h) (Or.inl ⟨by rfl, ?_⟩) (by assumption) ?_
        rotate_left 1
        · (intro w hSw; (try dsimp only at hSw); go_simp; try with_reducible rfl)
        (try simp only [Act.put, List.setIfInBounds_toArray, List.set_cons_zero, List.set_cons_succ])
        refine wpAnyH_take (i := 2) (oi := { dst := some 12, op := Go.Op.indexAddr 24 (Go.Operand.tmp 10) (Go.Operand.tmp 11), type := 0, pos := "l3_fact.go:29", after := #[{ on := 0, ground := Go.Ground.data }, { on := 1, ground := Go.Ground.data }], guard := none }) (v := ?_) rfl (by kernel_rfl) (by kernel_rfl) (by kernel_rfl) (fun _ _ _ h => h) (Or.inl ⟨by rfl, ?_⟩) (by assumption) ?_
        rotate_left 1
        · (intro w hSw; (try dsimp only at hSw); go_simp; try with_reducible rfl)
        (try simp only [Act.put, List.setIfInBounds_toArray, List.set_cons_zero, List.set_cons_succ])
        refine wpAnyH_take (i := 3) (oi := { dst := some 13, op := Go.Op.load 53 (Go.Operand.tmp 12), type := 53, pos := "l3_fact.go:29", after := #[{ on := 2, ground := Go.Ground.data }], guard := none }) (v := ?_) rfl (by kernel_rfl) (by kernel_rfl) (by kernel_rfl) (fun _ _ _ h => h) (Or.inl ⟨by rfl, ?_⟩) (by assumption) ?_
        rotate_left 1
        · (intro w hSw; (try dsimp only at hSw); go_simp; try with_reducible rfl)
        (try simp only [Act.put, List.setIfInBounds_toArray, List.set_cons_zero, List.set_cons_succ])
        refine wpAnyH_ready (rs := [4]) (by kernel_rfl) (by simp) ?_
        refine AllReadyH.cons (o := { dst := some 14, op := Go.Op.call { callee := Go.Callee.value (Go.Operand.func 41), args := #[Go.Operand.tmp 13], argTypes := #[53] }, type := 4, pos := "l3_fact.go:29", after := #[{ on := 3, ground := Go.Ground.data }], guard := none }) rfl (fun K hK => ?_) AllReadyH.nil
        go_simp
        (refine (sfok_lit _ _ _ _ false hok'.out _).mono ?_; rintro e w1 ⟨rfl, b1⟩)
        go_wp2_with fail
        refine hK.out _ _ ?_ (fun hHeld => ?_)
        · (try dsimp only); (refine ⟨?_, ?_, ?_, ?_⟩ <;> (repeat (first | with_reducible assumption | with_reducible refine keep_drew ?_ | with_reducible refine keep_below (by assumption) ?_)))
        clear hK K
        (try simp only [Act.put, List.setIfInBounds_toArray, List.set_cons_zero, List.set_cons_succ])
        refine wpAnyH_take (i := 5) (oi := { dst := some 15, op := Go.Op.unOp Go.UnOp.not 4 (Go.Operand.tmp 14), type := 4, pos := "l3_fact.go:29", after := #[{ on := 4, ground := Go.Ground.data }], guard := none }) (v := ?_) rfl (by kernel_rfl) (by kernel_rfl) (by kernel_rfl) (fun _ _ _ h => h) (Or.inl ⟨by rfl, ?_⟩) (by assumption) ?_
        rotate_left 1
        · (intro w hSw; (try dsimp only at hSw); go_simp; try with_reducible rfl)
        (try simp only [Act.put, List.setIfInBounds_toArray, List.set_cons_zero, List.set_cons_succ])
        refine wpAnyH_take (i := 6) (oi := { dst := some 16, op := Go.Op.move (Go.Operand.tmp 15), type := 4, pos := "l3_fact.go:29", after := #[{ on := 5, ground := Go.Ground.data }, { on := 4, ground := Go.Ground.chain }], guard := none }) (v := ?_) rfl (by kernel_rfl) (by kernel_rfl) (by kernel_rfl) (fun _ _ _ h => h) (Or.inl ⟨by rfl, ?_⟩) (by assumption) ?_
        rotate_left 1
        · (intro w hSw; (try dsimp only at hSw); go_simp; try with_reducible rfl)
        (try simp only [Act.put, List.setIfInBounds_toArray, List.set_cons_zero, List.set_cons_succ])
        refine wpAnyH_take (i := 7) (oi := { dst := some 17, op := Go.Op.move (Go.Operand.tmp 3), type := 3, pos := "l3_fact.go:29", after := #[{ on := 6, ground := Go.Ground.guard }], guard := some (6, false) }) (v := undef) rfl (by kernel_rfl) (by kernel_rfl) (by kernel_rfl) (fun _ _ _ h => h) (Or.inr ⟨by rfl, rfl⟩) (by assumption) ?_
        (try simp only [Act.put, List.setIfInBounds_toArray, List.set_cons_zero, List.set_cons_succ])
        refine wpAnyH_take (i := 8) (oi := { dst := some 18, op := Go.Op.binOp Go.BinOp.gtr 3 (Go.Operand.tmp 17) (Go.Operand.const (Go.Value.int Go.IntKind.i64 0)) 3, type := 4, pos := "l3_fact.go:29", after := #[{ on := 7, ground := Go.Ground.data }, { on := 6, ground := Go.Ground.guard }], guard := some (6, false) }) (v := undef) rfl (by kernel_rfl) (by kernel_rfl) (by kernel_rfl) (fun _ _ _ h => h) (Or.inr ⟨by rfl, rfl⟩) (by assumption) ?_
        (try simp only [Act.put, List.setIfInBounds_toArray, List.set_cons_zero, List.set_cons_succ])
        refine wpAnyH_take (i := 9) (oi := { dst := some 19, op := Go.Op.move (Go.Operand.tmp 18), type := 4, pos := "l3_fact.go:29", after := #[{ on := 8, ground := Go.Ground.data }, { on := 6, ground := Go.Ground.chain }, { on := 6, ground := Go.Ground.guard }], guard := some (6, false) }) (v := undef) rfl (by kernel_rfl) (by kernel_rfl) (by kernel_rfl) (fun _ _ _ h => h) (Or.inr ⟨by rfl, rfl⟩) (by assumption) ?_
        (try simp only [Act.put, List.setIfInBounds_toArray, List.set_cons_zero, List.set_cons_succ])
        refine wpAnyH_take (i := 10) (oi := { dst := some 20, op := Go.Op.move (Go.Operand.tmp 0), type := 24, pos := "l3_fact.go:29", after := #[{ on := 9, ground := Go.Ground.guard }], guard := some (9, true) }) (v := undef) rfl (by kernel_rfl) (by kernel_rfl) (by kernel_rfl) (fun _ _ _ h => h) (Or.inr ⟨by rfl, rfl⟩) (by assumption) ?_
        (try simp only [Act.put, List.setIfInBounds_toArray, List.set_cons_zero, List.set_cons_succ])
        refine wpAnyH_take (i := 11) (oi := { dst := some 21, op := Go.Op.move (Go.Operand.tmp 3), type := 3, pos := "l3_fact.go:29", after := #[{ on := 9, ground := Go.Ground.guard }], guard := some (9, true) }) (v := undef) rfl (by kernel_rfl) (by kernel_rfl) (by kernel_rfl) (fun _ _ _ h => h) (Or.inr ⟨by rfl, rfl⟩) (by assumption) ?_
        (try simp only [Act.put, List.setIfInBounds_toArray, List.set_cons_zero, List.set_cons_succ])
        refine wpAnyH_take (i := 12) (oi := { dst := some 22, op := Go.Op.binOp Go.BinOp.sub 3 (Go.Operand.tmp 21) (Go.Operand.const (Go.Value.int Go.IntKind.i64 1)) 3, type := 3, pos := "l3_fact.go:29", after := #[{ on := 11, ground := Go.Ground.data }, { on := 9, ground := Go.Ground.guard }], guard := some (9, true) }) (v := undef) rfl (by kernel_rfl) (by kernel_rfl) (by kernel_rfl) (fun _ _ _ h => h) (Or.inr ⟨by rfl, rfl⟩) (by assumption) ?_
        (try simp only [Act.put, List.setIfInBounds_toArray, List.set_cons_zero, List.set_cons_succ])
        refine wpAnyH_take (i := 13) (oi := { dst := some 23, op := Go.Op.indexAddr 24 (Go.Operand.tmp 20) (Go.Operand.tmp 22), type := 0, pos := "l3_fact.go:29", after := #[{ on := 10, ground := Go.Ground.data }, { on := 12, ground := Go.Ground.data }, { on := 9, ground := Go.Ground.guard }], guard := some (9, true) }) (v := undef) rfl (by kernel_rfl) (by kernel_rfl) (by kernel_rfl) (fun _ _ _ h => h) (Or.inr ⟨by rfl, rfl⟩) (by assumption) ?_
        (try simp only [Act.put, List.setIfInBounds_toArray, List.set_cons_zero, List.set_cons_succ])
        refine wpAnyH_take (i := 14) (oi := { dst := some 24, op := Go.Op.fieldAddr 53 (Go.Operand.tmp 23) 0, type := 0, pos := "l3_fact.go:29", after := #[{ on := 13, ground := Go.Ground.data }, { on := 9, ground := Go.Ground.guard }], guard := some (9, true) }) (v := undef) rfl (by kernel_rfl) (by kernel_rfl) (by kernel_rfl) (fun _ _ _ h => h) (Or.inr ⟨by rfl, rfl⟩) (by assumption) ?_
        (try simp only [Act.put, List.setIfInBounds_toArray, List.set_cons_zero, List.set_cons_succ])
        refine wpAnyH_take (i := 15) (oi := { dst := some 25, op := Go.Op.load 3 (Go.Operand.tmp 24), type := 3, pos := "l3_fact.go:29", after := #[{ on := 14, ground := Go.Ground.data }, { on := 9, ground := Go.Ground.guard }], guard := some (9, true) }) (v := undef) rfl (by kernel_rfl) (by kernel_rfl) (by kernel_rfl) (fun _ _ _ h => h) (Or.inr ⟨by rfl, rfl⟩) (by assumption) ?_
        (try simp only [Act.put, List.setIfInBounds_toArray, List.set_cons_zero, List.set_cons_succ])
        refine wpAnyH_take (i := 16) (oi := { dst := some 26, op := Go.Op.move (Go.Operand.tmp 0), type := 24, pos := "l3_fact.go:29", after := #[{ on := 9, ground := Go.Ground.guard }], guard := some (9, true) }) (v := undef) rfl (by kernel_rfl) (by kernel_rfl) (by kernel_rfl) (fun _ _ _ h => h) (Or.inr ⟨by rfl, rfl⟩) (by assumption) ?_
        (try simp only [Act.put, List.setIfInBounds_toArray, List.set_cons_zero, List.set_cons_succ])
        refine wpAnyH_take (i := 17) (oi := { dst := some 27, op := Go.Op.move (Go.Operand.tmp 3), type := 3, pos := "l3_fact.go:29", after := #[{ on := 9, ground := Go.Ground.guard }], guard := some (9, true) }) (v := undef) rfl (by kernel_rfl) (by kernel_rfl) (by kernel_rfl) (fun _ _ _ h => h) (Or.inr ⟨by rfl, rfl⟩) (by assumption) ?_
        (try simp only [Act.put, List.setIfInBounds_toArray, List.set_cons_zero, List.set_cons_succ])
        refine wpAnyH_take (i := 18) (oi := { dst := some 28, op := Go.Op.indexAddr 24 (Go.Operand.tmp 26) (Go.Operand.tmp 27), type := 0, pos := "l3_fact.go:29", after := #[{ on := 16, ground := Go.Ground.data }, { on := 17, ground := Go.Ground.data }, { on := 9, ground := Go.Ground.guard }], guard := some (9, true) }) (v := undef) rfl (by kernel_rfl) (by kernel_rfl) (by kernel_rfl) (fun _ _ _ h => h) (Or.inr ⟨by rfl, rfl⟩) (by assumption) ?_
        (try simp only [Act.put, List.setIfInBounds_toArray, List.set_cons_zero, List.set_cons_succ])
        refine wpAnyH_take (i := 19) (oi := { dst := some 29, op := Go.Op.fieldAddr 53 (Go.Operand.tmp 28) 0, type := 0, pos := "l3_fact.go:29", after := #[{ on := 18, ground := Go.Ground.data }, { on := 9, ground := Go.Ground.guard }], guard := some (9, true) }) (v := undef) rfl (by kernel_rfl) (by kernel_rfl) (by kernel_rfl) (fun _ _ _ h => h) (Or.inr ⟨by rfl, rfl⟩) (by assumption) ?_
        (try simp only [Act.put, List.setIfInBounds_toArray, List.set_cons_zero, List.set_cons_succ])
        refine wpAnyH_take (i := 20) (oi := { dst := some 30, op := Go.Op.load 3 (Go.Operand.tmp 29), type := 3, pos := "l3_fact.go:29", after := #[{ on := 19, ground := Go.Ground.data }, { on := 9, ground := Go.Ground.guard }], guard := some (9, true) }) (v := undef) rfl (by kernel_rfl) (by kernel_rfl) (by kernel_rfl) (fun _ _ _ h => h) (Or.inr ⟨by rfl, rfl⟩) (by assumption) ?_
        (try simp only [Act.put, List.setIfInBounds_toArray, List.set_cons_zero, List.set_cons_succ])
        refine wpAnyH_take (i := 21) (oi := { dst := some 31, op := Go.Op.binOp Go.BinOp.geq 3 (Go.Operand.tmp 25) (Go.Operand.tmp 30) 3, type := 4, pos := "l3_fact.go:29", after := #[{ on := 15, ground := Go.Ground.data }, { on := 20, ground := Go.Ground.data }, { on := 9, ground := Go.Ground.guard }], guard := some (9, true) }) (v := undef) rfl (by kernel_rfl) (by kernel_rfl) (by kernel_rfl) (fun _ _ _ h => h) (Or.inr ⟨by rfl, rfl⟩) (by assumption) ?_
        (try simp only [Act.put, List.setIfInBounds_toArray, List.set_cons_zero, List.set_cons_succ])
        refine wpAnyH_take (i := 22) (oi := { dst := some 32, op := Go.Op.pick (Go.Operand.tmp 19) (Go.Operand.tmp 31) (Go.Operand.const (Go.Value.bool false)), type := 4, pos := "l3_fact.go:29", after := #[{ on := 9, ground := Go.Ground.data }, { on := 21, ground := Go.Ground.data }, { on := 6, ground := Go.Ground.guard }], guard := some (6, false) }) (v := undef) rfl (by kernel_rfl) (by kernel_rfl) (by kernel_rfl) (fun _ _ _ h => h) (Or.inr ⟨by rfl, rfl⟩) (by assumption) ?_
        (try simp only [Act.put, List.setIfInBounds_toArray, List.set_cons_zero, List.set_cons_succ])
        refine wpAnyH_take (i := 23) (oi := { dst := some 33, op := Go.Op.pick (Go.Operand.tmp 16) (Go.Operand.const (Go.Value.bool true)) (Go.Operand.tmp 32), type := 4, pos := "l3_fact.go:29", after := #[{ on := 6, ground := Go.Ground.data }, { on := 22, ground := Go.Ground.data }], guard := none }) (v := ?_) rfl (by kernel_rfl) (by kernel_rfl) (by kernel_rfl) (fun _ _ _ h => h) (Or.inl ⟨by rfl, ?_⟩) (by assumption) ?_
        rotate_left 1
        · (intro w hSw; (try dsimp only at hSw); go_simp; try with_reducible rfl)
        (try simp only [Act.put, List.setIfInBounds_toArray, List.set_cons_zero, List.set_cons_succ])
        refine wpAnyH_done (by kernel_rfl) ?_ _
        go_wp2
        go_ret
        refine ⟨ret_bool ?_, btrans hb.drew b1⟩
        unfold tokB allB
        symm
        rw [Bool.and_eq_false_iff]
        exact .inl (decide_eq_false fun h => by have := h k hlt; rw [hok'.out] at this; cases this)
      · rcases Nat.eq_zero_or_pos k with h0 | h0
        · subst h0
          simp only [Nat.zero_mul, Nat.add_zero] at c0 c1 c2 c3
          go_wp2_with fail
          have hok' : Hid (fokB (F 0).n (F 0).i (F 0).s = true) := hok
          clear hok
          refine wp_region_held_drew (S := (fun w' => w'.cell? ⟨b, off, none⟩ = some (.int .i64 (F 0).n) ∧ w'.cell? ⟨b, off + 1, none⟩ = some (.int .i64 (F 0).i) ∧ w'.cell? ⟨b, off + 2, none⟩ = some (.int .i64 (F 0).s) ∧ w'.cell? ⟨b, off + 3, none⟩ = some (.bool (F 0).g))) (by kernel_rfl) ?_ (fun hHeld => ?_)
          · (try dsimp only); (refine ⟨?_, ?_, ?_, ?_⟩ <;> (repeat (first | with_reducible assumption | with_reducible refine keep_drew ?_ | with_reducible refine keep_below (by assumption) ?_)))
          refine wpAnyH_take (i := 0) (oi := { dst := some 10, op := Go.Op.move (Go.Operand.tmp 0), type := 24, pos := "l3_fact.go:29", after := #[], guard := none }) (v := ?_) rfl (by kernel_rfl) (by kernel_rfl) (by kernel_rfl) (fun _ _ _ h => h) (Or.inl ⟨by rfl, ?_⟩) (by assumption) ?_
          rotate_left 1
          · (intro w hSw; (try dsimp only at hSw); go_simp; try with_reducible rfl)
          (try simp only [Act.put, List.setIfInBounds_toArray, List.set_cons_zero, List.set_cons_succ])
          refine wpAnyH_take (i := 1) (oi := { dst := some 11, op := Go.Op.move (Go.Operand.tmp 3), type := 3, pos := "l3_fact.go:29", after := #[], guard := none }) (v := ?_) rfl (by kernel_rfl) (by kernel_rfl) (by kernel_rfl) (fun _ _ _ h => h) (Or.inl ⟨by rfl, ?_⟩) (by assumption) ?_
          rotate_left 1
          · (intro w hSw; (try dsimp only at hSw); go_simp; try with_reducible rfl)
          (try simp only [Act.put, List.setIfInBounds_toArray, List.set_cons_zero, List.set_cons_succ])
          refine wpAnyH_take (i := 2) (oi := { dst := some 12, op := Go.Op.indexAddr 24 (Go.Operand.tmp 10) (Go.Operand.tmp 11), type := 0, pos := "l3_fact.go:29", after := #[{ on := 0, ground := Go.Ground.data }, { on := 1, ground := Go.Ground.data }], guard := none }) (v := ?_) rfl (by kernel_rfl) (by kernel_rfl) (by kernel_rfl) (fun _ _ _ h => h) (Or.inl ⟨by rfl, ?_⟩) (by assumption) ?_
          rotate_left 1
          · (intro w hSw; (try dsimp only at hSw); go_simp; try with_reducible rfl)
          (try simp only [Act.put, List.setIfInBounds_toArray, List.set_cons_zero, List.set_cons_succ])
          refine wpAnyH_take (i := 3) (oi := { dst := some 13, op := Go.Op.load 53 (Go.Operand.tmp 12), type := 53, pos := "l3_fact.go:29", after := #[{ on := 2, ground := Go.Ground.data }], guard := none }) (v := ?_) rfl (by kernel_rfl) (by kernel_rfl) (by kernel_rfl) (fun _ _ _ h => h) (Or.inl ⟨by rfl, ?_⟩) (by assumption) ?_
          rotate_left 1
          · (intro w hSw; (try dsimp only at hSw); go_simp; try with_reducible rfl)
          (try simp only [Act.put, List.setIfInBounds_toArray, List.set_cons_zero, List.set_cons_succ])
          refine wpAnyH_ready (rs := [4]) (by kernel_rfl) (by simp) ?_
          refine AllReadyH.cons (o := { dst := some 14, op := Go.Op.call { callee := Go.Callee.value (Go.Operand.func 41), args := #[Go.Operand.tmp 13], argTypes := #[53] }, type := 4, pos := "l3_fact.go:29", after := #[{ on := 3, ground := Go.Ground.data }], guard := none }) rfl (fun K hK => ?_) AllReadyH.nil
          go_simp
          (refine (sfok_lit _ _ _ _ true hok'.out _).mono ?_; rintro e w1 ⟨rfl, b1⟩)
          go_wp2_with fail
          refine hK.out _ _ ?_ (fun hHeld => ?_)
          · (try dsimp only); (refine ⟨?_, ?_, ?_, ?_⟩ <;> (repeat (first | with_reducible assumption | with_reducible refine keep_drew ?_ | with_reducible refine keep_below (by assumption) ?_)))
          clear hK K
          (try simp only [Act.put, List.setIfInBounds_toArray, List.set_cons_zero, List.set_cons_succ])
          refine wpAnyH_take (i := 5) (oi := { dst := some 15, op := Go.Op.unOp Go.UnOp.not 4 (Go.Operand.tmp 14), type := 4, pos := "l3_fact.go:29", after := #[{ on := 4, ground := Go.Ground.data }], guard := none }) (v := ?_) rfl (by kernel_rfl) (by kernel_rfl) (by kernel_rfl) (fun _ _ _ h => h) (Or.inl ⟨by rfl, ?_⟩) (by assumption) ?_
          rotate_left 1
          · (intro w hSw; (try dsimp only at hSw); go_simp; try with_reducible rfl)
          (try simp only [Act.put, List.setIfInBounds_toArray, List.set_cons_zero, List.set_cons_succ])
          refine wpAnyH_take (i := 6) (oi := { dst := some 16, op := Go.Op.move (Go.Operand.tmp 15), type := 4, pos := "l3_fact.go:29", after := #[{ on := 5, ground := Go.Ground.data }, { on := 4, ground := Go.Ground.chain }], guard := none }) (v := ?_) rfl (by kernel_rfl) (by kernel_rfl) (by kernel_rfl) (fun _ _ _ h => h) (Or.inl ⟨by rfl, ?_⟩) (by assumption) ?_
          rotate_left 1
          · (intro w hSw; (try dsimp only at hSw); go_simp; try with_reducible rfl)
          (try simp only [Act.put, List.setIfInBounds_toArray, List.set_cons_zero, List.set_cons_succ])
          refine wpAnyH_take (i := 7) (oi := { dst := some 17, op := Go.Op.move (Go.Operand.tmp 3), type := 3, pos := "l3_fact.go:29", after := #[{ on := 6, ground := Go.Ground.guard }], guard := some (6, false) }) (v := ?_) rfl (by kernel_rfl) (by kernel_rfl) (by kernel_rfl) (fun _ _ _ h => h) (Or.inl ⟨by rfl, ?_⟩) (by assumption) ?_
          rotate_left 1
          · (intro w hSw; (try dsimp only at hSw); go_simp; try with_reducible rfl)
          (try simp only [Act.put, List.setIfInBounds_toArray, List.set_cons_zero, List.set_cons_succ])
          refine wpAnyH_take (i := 8) (oi := { dst := some 18, op := Go.Op.binOp Go.BinOp.gtr 3 (Go.Operand.tmp 17) (Go.Operand.const (Go.Value.int Go.IntKind.i64 0)) 3, type := 4, pos := "l3_fact.go:29", after := #[{ on := 7, ground := Go.Ground.data }, { on := 6, ground := Go.Ground.guard }], guard := some (6, false) }) (v := ?_) rfl (by kernel_rfl) (by kernel_rfl) (by kernel_rfl) (fun _ _ _ h => h) (Or.inl ⟨by rfl, ?_⟩) (by assumption) ?_
          rotate_left 1
          · (intro w hSw; (try dsimp only at hSw); go_simp; try with_reducible rfl)
          (try simp only [Act.put, List.setIfInBounds_toArray, List.set_cons_zero, List.set_cons_succ])
          refine wpAnyH_take (i := 9) (oi := { dst := some 19, op := Go.Op.move (Go.Operand.tmp 18), type := 4, pos := "l3_fact.go:29", after := #[{ on := 8, ground := Go.Ground.data }, { on := 6, ground := Go.Ground.chain }, { on := 6, ground := Go.Ground.guard }], guard := some (6, false) }) (v := ?_) rfl (by kernel_rfl) (by kernel_rfl) (by kernel_rfl) (fun _ _ _ h => h) (Or.inl ⟨by rfl, ?_⟩) (by assumption) ?_
          rotate_left 1
          · (intro w hSw; (try dsimp only at hSw); go_simp; try with_reducible rfl)
          (try simp only [Act.put, List.setIfInBounds_toArray, List.set_cons_zero, List.set_cons_succ])
          refine wpAnyH_take (i := 10) (oi := { dst := some 20, op := Go.Op.move (Go.Operand.tmp 0), type := 24, pos := "l3_fact.go:29", after := #[{ on := 9, ground := Go.Ground.guard }], guard := some (9, true) }) (v := undef) rfl (by kernel_rfl) (by kernel_rfl) (by kernel_rfl) (fun _ _ _ h => h) (Or.inr ⟨by rfl, rfl⟩) (by assumption) ?_
          (try simp only [Act.put, List.setIfInBounds_toArray, List.set_cons_zero, List.set_cons_succ])
          refine wpAnyH_take (i := 11) (oi := { dst := some 21, op := Go.Op.move (Go.Operand.tmp 3), type := 3, pos := "l3_fact.go:29", after := #[{ on := 9, ground := Go.Ground.guard }], guard := some (9, true) }) (v := undef) rfl (by kernel_rfl) (by kernel_rfl) (by kernel_rfl) (fun _ _ _ h => h) (Or.inr ⟨by rfl, rfl⟩) (by assumption) ?_
          (try simp only [Act.put, List.setIfInBounds_toArray, List.set_cons_zero, List.set_cons_succ])
          refine wpAnyH_take (i := 12) (oi := { dst := some 22, op := Go.Op.binOp Go.BinOp.sub 3 (Go.Operand.tmp 21) (Go.Operand.const (Go.Value.int Go.IntKind.i64 1)) 3, type := 3, pos := "l3_fact.go:29", after := #[{ on := 11, ground := Go.Ground.data }, { on := 9, ground := Go.Ground.guard }], guard := some (9, true) }) (v := undef) rfl (by kernel_rfl) (by kernel_rfl) (by kernel_rfl) (fun _ _ _ h => h) (Or.inr ⟨by rfl, rfl⟩) (by assumption) ?_
          (try simp only [Act.put, List.setIfInBounds_toArray, List.set_cons_zero, List.set_cons_succ])
          refine wpAnyH_take (i := 13) (oi := { dst := some 23, op := Go.Op.indexAddr 24 (Go.Operand.tmp 20) (Go.Operand.tmp 22), type := 0, pos := "l3_fact.go:29", after := #[{ on := 10, ground := Go.Ground.data }, { on := 12, ground := Go.Ground.data }, { on := 9, ground := Go.Ground.guard }], guard := some (9, true) }) (v := undef) rfl (by kernel_rfl) (by kernel_rfl) (by kernel_rfl) (fun _ _ _ h => h) (Or.inr ⟨by rfl, rfl⟩) (by assumption) ?_
          (try simp only [Act.put, List.setIfInBounds_toArray, List.set_cons_zero, List.set_cons_succ])
          refine wpAnyH_take (i := 14) (oi := { dst := some 24, op := Go.Op.fieldAddr 53 (Go.Operand.tmp 23) 0, type := 0, pos := "l3_fact.go:29", after := #[{ on := 13, ground := Go.Ground.data }, { on := 9, ground := Go.Ground.guard }], guard := some (9, true) }) (v := undef) rfl (by kernel_rfl) (by kernel_rfl) (by kernel_rfl) (fun _ _ _ h => h) (Or.inr ⟨by rfl, rfl⟩) (by assumption) ?_
          (try simp only [Act.put, List.setIfInBounds_toArray, List.set_cons_zero, List.set_cons_succ])
          refine wpAnyH_take (i := 15) (oi := { dst := some 25, op := Go.Op.load 3 (Go.Operand.tmp 24), type := 3, pos := "l3_fact.go:29", after := #[{ on := 14, ground := Go.Ground.data }, { on := 9, ground := Go.Ground.guard }], guard := some (9, true) }) (v := undef) rfl (by kernel_rfl) (by kernel_rfl) (by kernel_rfl) (fun _ _ _ h => h) (Or.inr ⟨by rfl, rfl⟩) (by assumption) ?_
          (try simp only [Act.put, List.setIfInBounds_toArray, List.set_cons_zero, List.set_cons_succ])
          refine wpAnyH_take (i := 16) (oi := { dst := some 26, op := Go.Op.move (Go.Operand.tmp 0), type := 24, pos := "l3_fact.go:29", after := #[{ on := 9, ground := Go.Ground.guard }], guard := some (9, true) }) (v := undef) rfl (by kernel_rfl) (by kernel_rfl) (by kernel_rfl) (fun _ _ _ h => h) (Or.inr ⟨by rfl, rfl⟩) (by assumption) ?_
          (try simp only [Act.put, List.setIfInBounds_toArray, List.set_cons_zero, List.set_cons_succ])
          refine wpAnyH_take (i := 17) (oi := { dst := some 27, op := Go.Op.move (Go.Operand.tmp 3), type := 3, pos := "l3_fact.go:29", after := #[{ on := 9, ground := Go.Ground.guard }], guard := some (9, true) }) (v := undef) rfl (by kernel_rfl) (by kernel_rfl) (by kernel_rfl) (fun _ _ _ h => h) (Or.inr ⟨by rfl, rfl⟩) (by assumption) ?_
          (try simp only [Act.put, List.setIfInBounds_toArray, List.set_cons_zero, List.set_cons_succ])
          refine wpAnyH_take (i := 18) (oi := { dst := some 28, op := Go.Op.indexAddr 24 (Go.Operand.tmp 26) (Go.Operand.tmp 27), type := 0, pos := "l3_fact.go:29", after := #[{ on := 16, ground := Go.Ground.data }, { on := 17, ground := Go.Ground.data }, { on := 9, ground := Go.Ground.guard }], guard := some (9, true) }) (v := undef) rfl (by kernel_rfl) (by kernel_rfl) (by kernel_rfl) (fun _ _ _ h => h) (Or.inr ⟨by rfl, rfl⟩) (by assumption) ?_
          (try simp only [Act.put, List.setIfInBounds_toArray, List.set_cons_zero, List.set_cons_succ])
          refine wpAnyH_take (i := 19) (oi := { dst := some 29, op := Go.Op.fieldAddr 53 (Go.Operand.tmp 28) 0, type := 0, pos := "l3_fact.go:29", after := #[{ on := 18, ground := Go.Ground.data }, { on := 9, ground := Go.Ground.guard }], guard := some (9, true) }) (v := undef) rfl (by kernel_rfl) (by kernel_rfl) (by kernel_rfl) (fun _ _ _ h => h) (Or.inr ⟨by rfl, rfl⟩) (by assumption) ?_
          (try simp only [Act.put, List.setIfInBounds_toArray, List.set_cons_zero, List.set_cons_succ])
          refine wpAnyH_take (i := 20) (oi := { dst := some 30, op := Go.Op.load 3 (Go.Operand.tmp 29), type := 3, pos := "l3_fact.go:29", after := #[{ on := 19, ground := Go.Ground.data }, { on := 9, ground := Go.Ground.guard }], guard := some (9, true) }) (v := undef) rfl (by kernel_rfl) (by kernel_rfl) (by kernel_rfl) (fun _ _ _ h => h) (Or.inr ⟨by rfl, rfl⟩) (by assumption) ?_
          (try simp only [Act.put, List.setIfInBounds_toArray, List.set_cons_zero, List.set_cons_succ])
          refine wpAnyH_take (i := 21) (oi := { dst := some 31, op := Go.Op.binOp Go.BinOp.geq 3 (Go.Operand.tmp 25) (Go.Operand.tmp 30) 3, type := 4, pos := "l3_fact.go:29", after := #[{ on := 15, ground := Go.Ground.data }, { on := 20, ground := Go.Ground.data }, { on := 9, ground := Go.Ground.guard }], guard := some (9, true) }) (v := undef) rfl (by kernel_rfl) (by kernel_rfl) (by kernel_rfl) (fun _ _ _ h => h) (Or.inr ⟨by rfl, rfl⟩) (by assumption) ?_
          (try simp only [Act.put, List.setIfInBounds_toArray, List.set_cons_zero, List.set_cons_succ])
          refine wpAnyH_take (i := 22) (oi := { dst := some 32, op := Go.Op.pick (Go.Operand.tmp 19) (Go.Operand.tmp 31) (Go.Operand.const (Go.Value.bool false)), type := 4, pos := "l3_fact.go:29", after := #[{ on := 9, ground := Go.Ground.data }, { on := 21, ground := Go.Ground.data }, { on := 6, ground := Go.Ground.guard }], guard := some (6, false) }) (v := ?_) rfl (by kernel_rfl) (by kernel_rfl) (by kernel_rfl) (fun _ _ _ h => h) (Or.inl ⟨by rfl, ?_⟩) (by assumption) ?_
          rotate_left 1
          · (intro w hSw; (try dsimp only at hSw); go_simp; try with_reducible rfl)
          (try simp only [Act.put, List.setIfInBounds_toArray, List.set_cons_zero, List.set_cons_succ])
          refine wpAnyH_take (i := 23) (oi := { dst := some 33, op := Go.Op.pick (Go.Operand.tmp 16) (Go.Operand.const (Go.Value.bool true)) (Go.Operand.tmp 32), type := 4, pos := "l3_fact.go:29", after := #[{ on := 6, ground := Go.Ground.data }, { on := 22, ground := Go.Ground.data }], guard := none }) (v := ?_) rfl (by kernel_rfl) (by kernel_rfl) (by kernel_rfl) (fun _ _ _ h => h) (Or.inl ⟨by rfl, ?_⟩) (by assumption) ?_
          rotate_left 1
          · (intro w hSw; (try dsimp only at hSw); go_simp; try with_reducible rfl)
          (try simp only [Act.put, List.setIfInBounds_toArray, List.set_cons_zero, List.set_cons_succ])
          refine wpAnyH_done (by kernel_rfl) ?_ _
          go_wp2
          go_roundw
          case rel => exact ⟨1, by omega, by go_num, btrans hb.drew b1, fun j hj => (show j = 0 by omega) ▸ hok'.out, fun j hj hj0 => by omega⟩
          case measure => simp [intOf]; omega
        · obtain ⟨m, rfl⟩ : ∃ m, k = m + 1 := ⟨k - 1, by omega⟩
          obtain ⟨d0, d1, d2, d3⟩ := (hf.below hb hbl) m (by omega)
          have i2 : (0 : Int) ≤ (m : Int) := by omega
          have i3 : (m : Int) + 1 < (len : Int) := by omega
          have i4 : (m : Int) < (len : Int) := by omega
          have i5 : (0 : Int) ≤ (m : Int) + 1 := by omega
          have i6 : (0 : Int) < (m : Int) + 1 := by omega
          have i7 : IntKind.i64.wrap (m : Int) = (m : Int) := by rw [IntKind.wrap_i64]; omega
          have i8 : IntKind.i64.wrap ((m : Int) + 1 - 1) = (m : Int) := by rw [IntKind.wrap_i64]; omega
          have e1 : ((m + 1 : Nat) : Int) = (m : Int) + 1 := by omega
          clear i0 i1
          rw [e1]
          go_wp2_with fail
          have hok' : Hid (fokB (F (m + 1)).n (F (m + 1)).i (F (m + 1)).s = true) := hok
          clear hok
          refine wp_region_held_drew (S := (fun w' => w'.cell? ⟨b, off + (m + 1) * 4, none⟩ = some (.int .i64 (F (m + 1)).n) ∧ w'.cell? ⟨b, off + (m + 1) * 4 + 1, none⟩ = some (.int .i64 (F (m + 1)).i) ∧ w'.cell? ⟨b, off + (m + 1) * 4 + 2, none⟩ = some (.int .i64 (F (m + 1)).s) ∧ w'.cell? ⟨b, off + (m + 1) * 4 + 3, none⟩ = some (.bool (F (m + 1)).g) ∧ w'.cell? ⟨b, off + m * 4, none⟩ = some (.int .i64 (F m).n) ∧ w'.cell? ⟨b, off + m * 4 + 1, none⟩ = some (.int .i64 (F m).i) ∧ w'.cell? ⟨b, off + m * 4 + 2, none⟩ = some (.int .i64 (F m).s) ∧ w'.cell? ⟨b, off + m * 4 + 3, none⟩ = some (.bool (F m).g))) (by kernel_rfl) ?_ (fun hHeld => ?_)
          · (try dsimp only); (refine ⟨?_, ?_, ?_, ?_, ?_, ?_, ?_, ?_⟩ <;> (repeat (first | with_reducible assumption | with_reducible refine keep_drew ?_ | with_reducible refine keep_below (by assumption) ?_)))
          refine wpAnyH_take (i := 0) (oi := { dst := some 10, op := Go.Op.move (Go.Operand.tmp 0), type := 24, pos := "l3_fact.go:29", after := #[], guard := none }) (v := ?_) rfl (by kernel_rfl) (by kernel_rfl) (by kernel_rfl) (fun _ _ _ h => h) (Or.inl ⟨by rfl, ?_⟩) (by assumption) ?_
          rotate_left 1
          · (intro w hSw; (try dsimp only at hSw); go_simp; try with_reducible rfl)
          (try simp only [Act.put, List.setIfInBounds_toArray, List.set_cons_zero, List.set_cons_succ])
          refine wpAnyH_take (i := 1) (oi := { dst := some 11, op := Go.Op.move (Go.Operand.tmp 3), type := 3, pos := "l3_fact.go:29", after := #[], guard := none }) (v := ?_) rfl (by kernel_rfl) (by kernel_rfl) (by kernel_rfl) (fun _ _ _ h => h) (Or.inl ⟨by rfl, ?_⟩) (by assumption) ?_
          rotate_left 1
          · (intro w hSw; (try dsimp only at hSw); go_simp; try with_reducible rfl)
          (try simp only [Act.put, List.setIfInBounds_toArray, List.set_cons_zero, List.set_cons_succ])
          refine wpAnyH_take (i := 2) (oi := { dst := some 12, op := Go.Op.indexAddr 24 (Go.Operand.tmp 10) (Go.Operand.tmp 11), type := 0, pos := "l3_fact.go:29", after := #[{ on := 0, ground := Go.Ground.data }, { on := 1, ground := Go.Ground.data }], guard := none }) (v := ?_) rfl (by kernel_rfl) (by kernel_rfl) (by kernel_rfl) (fun _ _ _ h => h) (Or.inl ⟨by rfl, ?_⟩) (by assumption) ?_
          rotate_left 1
          · (intro w hSw; (try dsimp only at hSw); go_simp; try with_reducible rfl)
          (try simp only [Act.put, List.setIfInBounds_toArray, List.set_cons_zero, List.set_cons_succ])
          refine wpAnyH_take (i := 3) (oi := { dst := some 13, op := Go.Op.load 53 (Go.Operand.tmp 12), type := 53, pos := "l3_fact.go:29", after := #[{ on := 2, ground := Go.Ground.data }], guard := none }) (v := ?_) rfl (by kernel_rfl) (by kernel_rfl) (by kernel_rfl) (fun _ _ _ h => h) (Or.inl ⟨by rfl, ?_⟩) (by assumption) ?_
          rotate_left 1
          · (intro w hSw; (try dsimp only at hSw); go_simp; try with_reducible rfl)
          (try simp only [Act.put, List.setIfInBounds_toArray, List.set_cons_zero, List.set_cons_succ])
          refine wpAnyH_ready (rs := [4]) (by kernel_rfl) (by simp) ?_
          refine AllReadyH.cons (o := { dst := some 14, op := Go.Op.call { callee := Go.Callee.value (Go.Operand.func 41), args := #[Go.Operand.tmp 13], argTypes := #[53] }, type := 4, pos := "l3_fact.go:29", after := #[{ on := 3, ground := Go.Ground.data }], guard := none }) rfl (fun K hK => ?_) AllReadyH.nil
          go_simp
          (refine (sfok_lit _ _ _ _ true hok'.out _).mono ?_; rintro e w1 ⟨rfl, b1⟩)
          go_wp2_with fail
          refine hK.out _ _ ?_ (fun hHeld => ?_)
          · (try dsimp only); (refine ⟨?_, ?_, ?_, ?_, ?_, ?_, ?_, ?_⟩ <;> (repeat (first | with_reducible assumption | with_reducible refine keep_drew ?_ | with_reducible refine keep_below (by assumption) ?_)))
          clear hK K
          (try simp only [Act.put, List.setIfInBounds_toArray, List.set_cons_zero, List.set_cons_succ])
          refine wpAnyH_take (i := 5) (oi := { dst := some 15, op := Go.Op.unOp Go.UnOp.not 4 (Go.Operand.tmp 14), type := 4, pos := "l3_fact.go:29", after := #[{ on := 4, ground := Go.Ground.data }], guard := none }) (v := ?_) rfl (by kernel_rfl) (by kernel_rfl) (by kernel_rfl) (fun _ _ _ h => h) (Or.inl ⟨by rfl, ?_⟩) (by assumption) ?_
          rotate_left 1
          · (intro w hSw; (try dsimp only at hSw); go_simp; try with_reducible rfl)
          (try simp only [Act.put, List.setIfInBounds_toArray, List.set_cons_zero, List.set_cons_succ])
          refine wpAnyH_take (i := 6) (oi := { dst := some 16, op := Go.Op.move (Go.Operand.tmp 15), type := 4, pos := "l3_fact.go:29", after := #[{ on := 5, ground := Go.Ground.data }, { on := 4, ground := Go.Ground.chain }], guard := none }) (v := ?_) rfl (by kernel_rfl) (by kernel_rfl) (by kernel_rfl) (fun _ _ _ h => h) (Or.inl ⟨by rfl, ?_⟩) (by assumption) ?_
          rotate_left 1
          · (intro w hSw; (try dsimp only at hSw); go_simp; try with_reducible rfl)
          (try simp only [Act.put, List.setIfInBounds_toArray, List.set_cons_zero, List.set_cons_succ])
          refine wpAnyH_take (i := 7) (oi := { dst := some 17, op := Go.Op.move (Go.Operand.tmp 3), type := 3, pos := "l3_fact.go:29", after := #[{ on := 6, ground := Go.Ground.guard }], guard := some (6, false) }) (v := ?_) rfl (by kernel_rfl) (by kernel_rfl) (by kernel_rfl) (fun _ _ _ h => h) (Or.inl ⟨by rfl, ?_⟩) (by assumption) ?_
          rotate_left 1
          · (intro w hSw; (try dsimp only at hSw); go_simp; try with_reducible rfl)
          (try simp only [Act.put, List.setIfInBounds_toArray, List.set_cons_zero, List.set_cons_succ])
          refine wpAnyH_take (i := 8) (oi := { dst := some 18, op := Go.Op.binOp Go.BinOp.gtr 3 (Go.Operand.tmp 17) (Go.Operand.const (Go.Value.int Go.IntKind.i64 0)) 3, type := 4, pos := "l3_fact.go:29", after := #[{ on := 7, ground := Go.Ground.data }, { on := 6, ground := Go.Ground.guard }], guard := some (6, false) }) (v := ?_) rfl (by kernel_rfl) (by kernel_rfl) (by kernel_rfl) (fun _ _ _ h => h) (Or.inl ⟨by rfl, ?_⟩) (by assumption) ?_
          rotate_left 1
          · (intro w hSw; (try dsimp only at hSw); go_simp; try with_reducible rfl)
          (try simp only [Act.put, List.setIfInBounds_toArray, List.set_cons_zero, List.set_cons_succ])
          refine wpAnyH_take (i := 9) (oi := { dst := some 19, op := Go.Op.move (Go.Operand.tmp 18), type := 4, pos := "l3_fact.go:29", after := #[{ on := 8, ground := Go.Ground.data }, { on := 6, ground := Go.Ground.chain }, { on := 6, ground := Go.Ground.guard }], guard := some (6, false) }) (v := ?_) rfl (by kernel_rfl) (by kernel_rfl) (by kernel_rfl) (fun _ _ _ h => h) (Or.inl ⟨by rfl, ?_⟩) (by assumption) ?_
          rotate_left 1
          · (intro w hSw; (try dsimp only at hSw); go_simp; try with_reducible rfl)
          (try simp only [Act.put, List.setIfInBounds_toArray, List.set_cons_zero, List.set_cons_succ])
          refine wpAnyH_take (i := 10) (oi := { dst := some 20, op := Go.Op.move (Go.Operand.tmp 0), type := 24, pos := "l3_fact.go:29", after := #[{ on := 9, ground := Go.Ground.guard }], guard := some (9, true) }) (v := ?_) rfl (by kernel_rfl) (by kernel_rfl) (by kernel_rfl) (fun _ _ _ h => h) (Or.inl ⟨by rfl, ?_⟩) (by assumption) ?_
          rotate_left 1
          · (intro w hSw; (try dsimp only at hSw); go_simp; try with_reducible rfl)
          (try simp only [Act.put, List.setIfInBounds_toArray, List.set_cons_zero, List.set_cons_succ])
          refine wpAnyH_take (i := 11) (oi := { dst := some 21, op := Go.Op.move (Go.Operand.tmp 3), type := 3, pos := "l3_fact.go:29", after := #[{ on := 9, ground := Go.Ground.guard }], guard := some (9, true) }) (v := ?_) rfl (by kernel_rfl) (by kernel_rfl) (by kernel_rfl) (fun _ _ _ h => h) (Or.inl ⟨by rfl, ?_⟩) (by assumption) ?_
          rotate_left 1
          · (intro w hSw; (try dsimp only at hSw); go_simp; try with_reducible rfl)
          (try simp only [Act.put, List.setIfInBounds_toArray, List.set_cons_zero, List.set_cons_succ])
          refine wpAnyH_take (i := 12) (oi := { dst := some 22, op := Go.Op.binOp Go.BinOp.sub 3 (Go.Operand.tmp 21) (Go.Operand.const (Go.Value.int Go.IntKind.i64 1)) 3, type := 3, pos := "l3_fact.go:29", after := #[{ on := 11, ground := Go.Ground.data }, { on := 9, ground := Go.Ground.guard }], guard := some (9, true) }) (v := ?_) rfl (by kernel_rfl) (by kernel_rfl) (by kernel_rfl) (fun _ _ _ h => h) (Or.inl ⟨by rfl, ?_⟩) (by assumption) ?_
          rotate_left 1
          · (intro w hSw; (try dsimp only at hSw); go_simp; try with_reducible rfl)
          (try simp only [Act.put, List.setIfInBounds_toArray, List.set_cons_zero, List.set_cons_succ])
          refine wpAnyH_take (i := 13) (oi := { dst := some 23, op := Go.Op.indexAddr 24 (Go.Operand.tmp 20) (Go.Operand.tmp 22), type := 0, pos := "l3_fact.go:29", after := #[{ on := 10, ground := Go.Ground.data }, { on := 12, ground := Go.Ground.data }, { on := 9, ground := Go.Ground.guard }], guard := some (9, true) }) (v := ?_) rfl (by kernel_rfl) (by kernel_rfl) (by kernel_rfl) (fun _ _ _ h => h) (Or.inl ⟨by rfl, ?_⟩) (by assumption) ?_
          rotate_left 1
          · (intro w hSw; (try dsimp only at hSw); go_simp; try with_reducible rfl)
          (try simp only [Act.put, List.setIfInBounds_toArray, List.set_cons_zero, List.set_cons_succ])
          refine wpAnyH_take (i := 14) (oi := { dst := some 24, op := Go.Op.fieldAddr 53 (Go.Operand.tmp 23) 0, type := 0, pos := "l3_fact.go:29", after := #[{ on := 13, ground := Go.Ground.data }, { on := 9, ground := Go.Ground.guard }], guard := some (9, true) }) (v := ?_) rfl (by kernel_rfl) (by kernel_rfl) (by kernel_rfl) (fun _ _ _ h => h) (Or.inl ⟨by rfl, ?_⟩) (by assumption) ?_
          rotate_left 1
          · (intro w hSw; (try dsimp only at hSw); go_simp; try with_reducible rfl)
          (try simp only [Act.put, List.setIfInBounds_toArray, List.set_cons_zero, List.set_cons_succ])
          refine wpAnyH_take (i := 15) (oi := { dst := some 25, op := Go.Op.load 3 (Go.Operand.tmp 24), type := 3, pos := "l3_fact.go:29", after := #[{ on := 14, ground := Go.Ground.data }, { on := 9, ground := Go.Ground.guard }], guard := some (9, true) }) (v := ?_) rfl (by kernel_rfl) (by kernel_rfl) (by kernel_rfl) (fun _ _ _ h => h) (Or.inl ⟨by rfl, ?_⟩) (by assumption) ?_
          rotate_left 1
          · (intro w hSw; (try dsimp only at hSw); go_simp; try with_reducible rfl)
          (try simp only [Act.put, List.setIfInBounds_toArray, List.set_cons_zero, List.set_cons_succ])
          refine wpAnyH_take (i := 16) (oi := { dst := some 26, op := Go.Op.move (Go.Operand.tmp 0), type := 24, pos := "l3_fact.go:29", after := #[{ on := 9, ground := Go.Ground.guard }], guard := some (9, true) }) (v := ?_) rfl (by kernel_rfl) (by kernel_rfl) (by kernel_rfl) (fun _ _ _ h => h) (Or.inl ⟨by rfl, ?_⟩) (by assumption) ?_
          rotate_left 1
          · (intro w hSw; (try dsimp only at hSw); go_simp; try with_reducible rfl)
          (try simp only [Act.put, List.setIfInBounds_toArray, List.set_cons_zero, List.set_cons_succ])
          refine wpAnyH_take (i := 17) (oi := { dst := some 27, op := Go.Op.move (Go.Operand.tmp 3), type := 3, pos := "l3_fact.go:29", after := #[{ on := 9, ground := Go.Ground.guard }], guard := some (9, true) }) (v := ?_) rfl (by kernel_rfl) (by kernel_rfl) (by kernel_rfl) (fun _ _ _ h => h) (Or.inl ⟨by rfl, ?_⟩) (by assumption) ?_
          rotate_left 1
          · (intro w hSw; (try dsimp only at hSw); go_simp; try with_reducible rfl)
          (try simp only [Act.put, List.setIfInBounds_toArray, List.set_cons_zero, List.set_cons_succ])
          refine wpAnyH_take (i := 18) (oi := { dst := some 28, op := Go.Op.indexAddr 24 (Go.Operand.tmp 26) (Go.Operand.tmp 27), type := 0, pos := "l3_fact.go:29", after := #[{ on := 16, ground := Go.Ground.data }, { on := 17, ground := Go.Ground.data }, { on := 9, ground := Go.Ground.guard }], guard := some (9, true) }) (v := ?_) rfl (by kernel_rfl) (by kernel_rfl) (by kernel_rfl) (fun _ _ _ h => h) (Or.inl ⟨by rfl, ?_⟩) (by assumption) ?_
          rotate_left 1
          · (intro w hSw; (try dsimp only at hSw); go_simp; try with_reducible rfl)
          (try simp only [Act.put, List.setIfInBounds_toArray, List.set_cons_zero, List.set_cons_succ])
          refine wpAnyH_take (i := 19) (oi := { dst := some 29, op := Go.Op.fieldAddr 53 (Go.Operand.tmp 28) 0, type := 0, pos := "l3_fact.go:29", after := #[{ on := 18, ground := Go.Ground.data }, { on := 9, ground := Go.Ground.guard }], guard := some (9, true) }) (v := ?_) rfl (by kernel_rfl) (by kernel_rfl) (by kernel_rfl) (fun _ _ _ h => h) (Or.inl ⟨by rfl, ?_⟩) (by assumption) ?_
          rotate_left 1
          · (intro w hSw; (try dsimp only at hSw); go_simp; try with_reducible rfl)
          (try simp only [Act.put, List.setIfInBounds_toArray, List.set_cons_zero, List.set_cons_succ])
          refine wpAnyH_take (i := 20) (oi := { dst := some 30, op := Go.Op.load 3 (Go.Operand.tmp 29), type := 3, pos := "l3_fact.go:29", after := #[{ on := 19, ground := Go.Ground.data }, { on := 9, ground := Go.Ground.guard }], guard := some (9, true) }) (v := ?_) rfl (by kernel_rfl) (by kernel_rfl) (by kernel_rfl) (fun _ _ _ h => h) (Or.inl ⟨by rfl, ?_⟩) (by assumption) ?_
          rotate_left 1
          · (intro w hSw; (try dsimp only at hSw); go_simp; try with_reducible rfl)
          (try simp only [Act.put, List.setIfInBounds_toArray, List.set_cons_zero, List.set_cons_succ])
          refine wpAnyH_take (i := 21) (oi := { dst := some 31, op := Go.Op.binOp Go.BinOp.geq 3 (Go.Operand.tmp 25) (Go.Operand.tmp 30) 3, type := 4, pos := "l3_fact.go:29", after := #[{ on := 15, ground := Go.Ground.data }, { on := 20, ground := Go.Ground.data }, { on := 9, ground := Go.Ground.guard }], guard := some (9, true) }) (v := ?_) rfl (by kernel_rfl) (by kernel_rfl) (by kernel_rfl) (fun _ _ _ h => h) (Or.inl ⟨by rfl, ?_⟩) (by assumption) ?_
          rotate_left 1
          · (intro w hSw; (try dsimp only at hSw); go_simp; try with_reducible rfl)
          (try simp only [Act.put, List.setIfInBounds_toArray, List.set_cons_zero, List.set_cons_succ])
          refine wpAnyH_take (i := 22) (oi := { dst := some 32, op := Go.Op.pick (Go.Operand.tmp 19) (Go.Operand.tmp 31) (Go.Operand.const (Go.Value.bool false)), type := 4, pos := "l3_fact.go:29", after := #[{ on := 9, ground := Go.Ground.data }, { on := 21, ground := Go.Ground.data }, { on := 6, ground := Go.Ground.guard }], guard := some (6, false) }) (v := ?_) rfl (by kernel_rfl) (by kernel_rfl) (by kernel_rfl) (fun _ _ _ h => h) (Or.inl ⟨by rfl, ?_⟩) (by assumption) ?_
          rotate_left 1
          · (intro w hSw; (try dsimp only at hSw); go_simp; try with_reducible rfl)
          (try simp only [Act.put, List.setIfInBounds_toArray, List.set_cons_zero, List.set_cons_succ])
          refine wpAnyH_take (i := 23) (oi := { dst := some 33, op := Go.Op.pick (Go.Operand.tmp 16) (Go.Operand.const (Go.Value.bool true)) (Go.Operand.tmp 32), type := 4, pos := "l3_fact.go:29", after := #[{ on := 6, ground := Go.Ground.data }, { on := 22, ground := Go.Ground.data }], guard := none }) (v := ?_) rfl (by kernel_rfl) (by kernel_rfl) (by kernel_rfl) (fun _ _ _ h => h) (Or.inl ⟨by rfl, ?_⟩) (by assumption) ?_
          rotate_left 1
          · (intro w hSw; (try dsimp only at hSw); go_simp; try with_reducible rfl)
          (try simp only [Act.put, List.setIfInBounds_toArray, List.set_cons_zero, List.set_cons_succ])
          refine wpAnyH_done (by kernel_rfl) ?_ _
          have bb := btrans hb.drew b1
          by_cases hc : (F (m + 1)).n ≤ (F m).n
          · go_wp2
            go_ret
            refine ⟨ret_bool ?_, bb⟩
            unfold tokB ascB
            symm
            rw [Bool.and_eq_false_iff]
            refine .inr (decide_eq_false fun h => ?_)
            have := h (m + 1) hlt (by omega)
            simp at this
            omega
          · go_wp2
            go_roundw
            case rel => exact ⟨m + 1 + 1, by omega, by go_num, bb, fun j hj => by
                by_cases e : j = m + 1
                · subst e; exact hok'.out
                · exact hall j (by omega), fun j hj h0 => by
                by_cases e : j = m + 1
                · subst e; simp; omega
                · exact hasc j (by omega) h0⟩
            case measure => simp [intOf]; omega
    · go_wp2
      go_ret
      refine ⟨ret_bool ?_, hb⟩
      unfold tokB allB ascB
      rw [decide_eq_true fun j hj => hall j (by omega), decide_eq_true fun j hj h0 => hasc j (by omega) h0]
      rfl
end Go.Proofs.YtibnojbhoepcdaaGreatDoor
/- The exact law of TableOk, walked. -/
namespace Go.Proofs.YtibnojbhoepcdaaGreatDoor
open Go.ChangeShapes Go.WideShapes Go.ChangeAt Go.RowKit
attribute [local go_sem ↓] Go.wp_at_zero Go.wp_at_succ
end Go.Proofs.YtibnojbhoepcdaaGreatDoor
/- Gateways: the program's way and the model's; marks in lists. -/
namespace Go.Proofs.YtibnojbhoepcdaaGreatDoor
open Go.ChangeShapes Go.WideShapes Go.ChangeAt Go.RowKit
attribute [local go_sem ↓] Go.wp_at_zero Go.wp_at_succ
theorem fsl_row {w : World} {b t n : Nat} {F : Nat → Fc} (h : w.rowIs b t (n * 4) (fv F)) : FSl w (some ⟨b, 0, none⟩) n F := fun _ => ⟨b, 0, rfl, h.lt, row_in h⟩
theorem own_mono {w : World} {base base' size n : Nat} {e : TypeId} {v : Value} {xs : List Value} (hbb : base' ≤ base) (h : w.ownsRow base e size v n xs) : w.ownsRow base' e size v n xs := by
  refine ⟨h.1, h.2.imp id ?_⟩
  rintro ⟨g, cap, cur, hv, hg, r⟩
  exact ⟨g, cap, cur, hv, Nat.le_trans hbb hg, r⟩
/-- numbers as cells -/
def lv (L : List Int) : List Value := L.map (Value.int .i64)
theorem lv_append (L : List Int) (x : Int) : lv (L ++ [x]) = lv L ++ [.int .i64 x] := by simp [lv]
theorem own_list {w : World} {base : Nat} {e : TypeId} {v : Value} {L : List Int} (h : w.ownsRow base e 1 v L.length (lv L)) : ∃ a cap, v = .slice a L.length cap ∧ L.length ≤ cap ∧ ISl w a L.length (fun k => L.getD k 0) := by
  have h0 := h
  rcases h.2 with ⟨rfl, hl⟩ | ⟨g, cap, cur, rfl, hg, hh, hc, _⟩
  · exact ⟨none, 0, by rw [hl], by omega, fun h => by omega⟩
  · refine ⟨_, cap, rfl, hc, fun _ => ⟨g, 0, rfl, lt_of_block hh, fun k hk => ?_⟩⟩
    rw [Nat.zero_add]
    refine (h0.cellAt k (by omega)).trans ?_
    simp [lv, hk]
theorem grown_set (w : World) (b o : Nat) (v : Value) : w.grownBy (w.setCell ⟨b, o, none⟩ v) (some b) := ⟨rfl, rfl, rfl, by simp, fun k _ hk => heap_setCell_other w ⟨b, o, none⟩ k v (fun e => hk (by simp [e]))⟩
theorem grown_trans {w1 w2 w3 : World} {r : Option Nat} (h1 : w1.grownBy w2 r) (h2 : w2.grownBy w3 r) : w1.grownBy w3 r := ⟨h2.os.trans h1.os, h2.tape.trans h1.tape, h2.output.trans h1.output, Nat.le_trans h1.size h2.size, fun k hk hr => (h2.block k (Nat.lt_of_lt_of_le hk h1.size) hr).trans (h1.block k hk hr)⟩
theorem own_shape {w : World} {base : Nat} {e : TypeId} {v : Value} {n : Nat} {xs : List Value} (h : w.ownsRow base e 1 v n xs) : (v = .slice none 0 0 ∧ n = 0) ∨ ∃ g cap, v = .slice (some ⟨g, 0, none⟩) n cap ∧ base ≤ g := by
  rcases h.2 with ⟨rfl, hn⟩ | ⟨g, cap, cur, rfl, hg, _⟩
  · exact .inl ⟨rfl, hn⟩
  · exact .inr ⟨g, cap, rfl, hg⟩
/-- the marks -/
def mk (k0 : Nat) (n : Nat) : List Value := (List.range n).map fun j => Value.int .i64 ((k0 + j : Nat) : Int)
theorem mk_len (k0 n : Nat) : (mk k0 n).length = n := by simp [mk]
theorem mk_set (k0 k n : Nat) (xs : List Value) (hx : xs.length = n) (hk : k < n) : (mk k0 k ++ xs.drop k).set k (.int .i64 ((k0 + k : Nat) : Int)) = mk k0 (k + 1) ++ xs.drop (k + 1) := by
  have e1 : xs.drop k = xs[k]'(by omega) :: xs.drop (k + 1) := List.drop_eq_getElem_cons (by omega)
  rw [e1, List.set_append_right _ _ (by rw [mk_len]; exact Nat.le_refl _), mk_len, Nat.sub_self, List.set_cons_zero]
  simp [mk, List.range_succ]
end Go.Proofs.YtibnojbhoepcdaaGreatDoor
/- Tables as lists: a fact more; what is there of a node. -/
namespace Go.Proofs.YtibnojbhoepcdaaGreatDoor
/-- a fact overrides another one of its node -/
def ovr (f g : Fc) : Bool := l3B f.i f.s f.g g.i g.s g.g
/-- ascending by nodes -/
def Asc (T : List Fc) : Prop := T.Pairwise fun f g => f.n < g.n
def fok (f : Fc) : Bool := fokB f.n f.i f.s
/-- a table with a fact more -/
def tput : List Fc → Fc → List Fc
  | [], f => [f]
  | g :: r, f => if g.n < f.n then g :: tput r f else if g.n = f.n then (if ovr f g then f :: r else g :: r) else f :: g :: r
def tget (T : List Fc) (k : Int) : Option Fc := T.find? fun g => decide (g.n = k)
/-- whether that says anything new -/
def tnew (T : List Fc) (f : Fc) : Bool := match tget T f.n with
  | some g => ovr f g
  | none => true
theorem tget_cons (g : Fc) (r : List Fc) (k : Int) : tget (g :: r) k = if g.n = k then some g else tget r k := by
  unfold tget
  rw [List.find?_cons]
  by_cases h : g.n = k <;> simp [h]
theorem tget_mem {T : List Fc} {k : Int} {g : Fc} (h : tget T k = some g) : g ∈ T ∧ g.n = k := by
  have h1 := List.mem_of_find?_eq_some h
  have h2 := List.find?_some h
  exact ⟨h1, by simpa using h2⟩
theorem tget_none {T : List Fc} {k : Int} (h : tget T k = none) : ∀ g ∈ T, g.n ≠ k := by
  intro g hg
  have := List.find?_eq_none.1 h g hg
  simpa using this
theorem tget_low {r : List Fc} {k : Int} (h : ∀ g ∈ r, k < g.n) : tget r k = none := by
  unfold tget
  rw [List.find?_eq_none]
  intro g hg
  have := h g hg
  simp
  omega
theorem asc_cons {g : Fc} {r : List Fc} : Asc (g :: r) ↔ (∀ x ∈ r, g.n < x.n) ∧ Asc r := List.pairwise_cons
theorem tput_mem {T : List Fc} {f x : Fc} (h : x ∈ tput T f) : x = f ∨ x ∈ T := by
  induction T with
  | nil => simp [tput] at h; exact .inl h
  | cons g r ih =>
    unfold tput at h
    split at h
    · rcases List.mem_cons.1 h with h | h
      · exact .inr (by simp [h])
      · exact (ih h).imp id (fun h => List.mem_cons_of_mem _ h)
    · split at h
      · split at h
        · rcases List.mem_cons.1 h with h | h
          · exact .inl h
          · exact .inr (List.mem_cons_of_mem _ h)
        · exact .inr h
      · rcases List.mem_cons.1 h with h | h
        · exact .inl h
        · exact .inr h
theorem tput_asc {T : List Fc} {f : Fc} (h : Asc T) : Asc (tput T f) := by
  induction T with
  | nil => simp [tput, Asc]
  | cons g r ih =>
    obtain ⟨h1, h2⟩ := asc_cons.1 h
    unfold tput
    split
    · rename_i hlt
      refine asc_cons.2 ⟨fun x hx => ?_, ih h2⟩
      rcases tput_mem hx with rfl | hx
      · exact hlt
      · exact h1 x hx
    · split
      · rename_i heq
        split
        · exact asc_cons.2 ⟨fun x hx => by have := h1 x hx; omega, h2⟩
        · exact h
      · refine asc_cons.2 ⟨fun x hx => ?_, h⟩
        rcases List.mem_cons.1 hx with rfl | hx
        · omega
        · have := h1 x hx; omega
theorem tget_tput {T : List Fc} {f : Fc} (h : Asc T) (k : Int) : tget (tput T f) k = if k = f.n ∧ tnew T f = true then some f else tget T k := by
  induction T with
  | nil =>
    have e0 : tnew [] f = true := rfl
    rw [e0, show tput [] f = [f] from rfl, tget_cons]
    by_cases e : f.n = k
    · rw [if_pos e, if_pos ⟨e.symm, rfl⟩]
    · rw [if_neg e, if_neg (fun h => e h.1.symm)]
  | cons g r ih =>
    obtain ⟨h1, h2⟩ := asc_cons.1 h
    unfold tput
    split
    · rename_i hlt
      have e : tnew (g :: r) f = tnew r f := by
        unfold tnew
        rw [tget_cons, if_neg (by omega)]
      rw [tget_cons, ih h2, e, tget_cons]
      by_cases hk : g.n = k
      · rw [if_pos hk, if_pos hk, if_neg (by omega)]
      · rw [if_neg hk, if_neg hk]
    · rename_i hnl
      split
      · rename_i heq
        have e : tnew (g :: r) f = ovr f g := by
          unfold tnew
          rw [tget_cons, if_pos heq]
        rw [e]
        split
        · rename_i ho
          rw [tget_cons, tget_cons]
          by_cases hk : f.n = k
          · rw [if_pos hk, if_pos ⟨hk.symm, ho⟩]
          · rw [if_neg hk, if_neg (fun h => hk h.1.symm), if_neg (by omega)]
        · rename_i ho
          rw [if_neg (fun h => ho h.2)]
      · rename_i hne
        have e : tnew (g :: r) f = true := by
          unfold tnew
          rw [tget_cons, if_neg hne, tget_low (fun x hx => by have := h1 x hx; omega)]
        rw [e, tget_cons]
        by_cases hk : f.n = k
        · rw [if_pos hk, if_pos ⟨hk.symm, rfl⟩]
        · rw [if_neg hk, if_neg (fun h => hk h.1.symm)]
theorem tput_old {T : List Fc} {f g : Fc} (h : Asc T) (hg : tget T f.n = some g) : (tput T f).map (·.n) = T.map (·.n) := by
  induction T with
  | nil => simp [tget] at hg
  | cons x r ih =>
    obtain ⟨h1, h2⟩ := asc_cons.1 h
    rw [tget_cons] at hg
    unfold tput
    split
    · rename_i hlt
      rw [if_neg (by omega)] at hg
      simp [ih h2 hg]
    · rename_i hnl
      split
      · rename_i heq
        split
        · simp [heq]
        · rfl
      · rename_i hne
        rw [if_neg hne] at hg
        have := tget_low (r := r) (k := f.n) (fun y hy => by have := h1 y hy; omega)
        rw [this] at hg
        cases hg
theorem tput_no {T : List Fc} {f g : Fc} (h : Asc T) (hg : tget T f.n = some g) (ho : ovr f g = false) : tput T f = T := by
  induction T with
  | nil => simp [tget] at hg
  | cons x r ih =>
    obtain ⟨h1, h2⟩ := asc_cons.1 h
    rw [tget_cons] at hg
    unfold tput
    split
    · rename_i hlt
      rw [if_neg (by omega)] at hg
      rw [ih h2 hg]
    · rename_i hnl
      split
      · rename_i heq
        rw [if_pos heq] at hg
        cases hg
        simp [ho]
      · rename_i hne
        rw [if_neg hne] at hg
        have := tget_low (r := r) (k := f.n) (fun y hy => by have := h1 y hy; omega)
        rw [this] at hg
        cases hg
theorem tput_perm {T : List Fc} {f : Fc} (hg : tget T f.n = none) : (tput T f).Perm (T ++ [f]) := by
  induction T with
  | nil => exact List.Perm.refl _
  | cons x r ih =>
    rw [tget_cons] at hg
    by_cases hx : x.n = f.n
    · rw [if_pos hx] at hg; cases hg
    · rw [if_neg hx] at hg
      unfold tput
      split
      · exact (ih hg).cons x
      · have : (f :: (x :: r)).Perm ((x :: r) ++ [f]) := (List.perm_append_comm (l₁ := [f]) (l₂ := x :: r))
        exact this
theorem tput_len {T : List Fc} {f : Fc} (hg : tget T f.n = none) : (tput T f).length = T.length + 1 := by
  have := (tput_perm hg).length_eq
  simpa using this
theorem tput_len_le (T : List Fc) (f : Fc) : (tput T f).length ≤ T.length + 1 := by
  induction T with
  | nil => simp [tput]
  | cons g r ih =>
    unfold tput
    split
    · simp; omega
    · split
      · split <;> simp
      · simp
/-- an ascending list of nodes 0 to 7 is short -/
theorem asc_short : ∀ (T : List Fc) (lo : Nat), Asc T → (∀ f ∈ T, (lo : Int) ≤ f.n ∧ f.n ≤ 7) → T.length + lo ≤ 8 ∨ T = []
  | [], _, _, _ => .inr rfl
  | g :: r, lo, h, hall => by
    obtain ⟨h1, h2⟩ := asc_cons.1 h
    have hg := hall g (by simp)
    rcases asc_short r (lo + 1) h2 (fun f hf => by have := h1 f hf; have := hall f (by simp [hf]); omega) with h | h
    · left; simp; omega
    · left; subst h; simp; omega
end Go.Proofs.YtibnojbhoepcdaaGreatDoor
/- The register: a map of facts behind its order, in memory. -/
namespace Go.Proofs.YtibnojbhoepcdaaGreatDoor
open Go.ChangeShapes Go.WideShapes Go.ChangeAt Go.RowKit
attribute [local go_sem ↓] Go.wp_at_zero Go.wp_at_succ
/-- a fact as a value, and as it reads -/
abbrev fval (f : Fc) : Value := .agg #[.int .i64 f.n, .int .i64 f.i, .int .i64 f.s, .bool f.g]
def fd (f : Fc) : DataW Unit := .agg [.lit (.int .i64 f.n), .lit (.int .i64 f.i), .lit (.int .i64 f.s), .lit (.bool f.g)]
def fE : Value → Option (DataW Unit × List MemPlace)
  | .agg ⟨[.int .i64 a, .int .i64 b, .int .i64 c, .bool g]⟩ => some (fd ⟨a, b, c, g⟩, [])
  | _ => none
theorem fE_mk (f : Fc) : fE (fval f) = some (fd f, []) := rfl
theorem fE_inv {v : Value} {z : DataW Unit × List MemPlace} (h : fE v = some z) : ∃ f, v = fval f ∧ z = (fd f, []) := by
  unfold fE at h
  split at h
  · simp only [Option.some.injEq] at h
    exact ⟨⟨_, _, _, _⟩, rfl, h.symm⟩
  · cases h
theorem fd_inj {f g : Fc} (h : fd f = fd g) : f = g := by
  obtain ⟨a, b, c, d⟩ := f
  obtain ⟨a', b', c', d'⟩ := g
  simpa [fd] using h
/-- the map holds the table -/
def Kept (D : DataW Unit) (T : List Fc) : Prop := ∀ k : Int, Maps.has D (.int .i64 k) = (tget T k).isSome ∧ D.atKey (.int .i64 k) (fd Fc.zero) = fd ((tget T k).getD Fc.zero)
theorem kept_nil : Kept (.map []) [] := fun _ => ⟨rfl, rfl⟩
theorem kept_put {D : DataW Unit} {T : List Fc} {f : Fc} (hD : Maps.IsMap D) (h : Kept D T) (ha : Asc T) (hn : tnew T f = true) : Kept (D.put (.int .i64 f.n) (fd f)) (tput T f) := fun k => by
  rw [tget_tput ha]
  by_cases e : k = f.n
  · subst e
    rw [if_pos ⟨rfl, hn⟩]
    exact ⟨Maps.has_put_same hD (by trivial) _, Maps.atKey_put_same hD (by trivial) _ _⟩
  · rw [if_neg (fun h => e h.1)]
    have hne : (Lit.int .i64 k) ≠ .int .i64 f.n := fun h => e (by simpa using h)
    rw [Maps.has_put_other hne, Maps.atKey_put_other hne]
    exact h k
theorem keyed3 : Maps.Keyed Tryz.prog 3 := Maps.int_keyed Tryz.underlying3
theorem zero30 (w : World) : (zeroValue 53).run Tryz.prog w = .ok (fval Fc.zero) w := by kernel_rfl
end Go.Proofs.YtibnojbhoepcdaaGreatDoor
/- The library's sort at the register's order. -/
namespace Go.Proofs.YtibnojbhoepcdaaGreatDoor
open Go.ChangeShapes Go.WideShapes Go.ChangeAt Go.RowKit
attribute [local go_sem ↓] Go.wp_at_zero Go.wp_at_succ
open Go.Shelf Go.Lib Go.Sort
theorem siT : ∃ i, Tryz.prog.info? 90 = some i ∧ i.desc = .slice 3 := ⟨(Tryz.prog.info? 90).get (by kernel_rfl), by kernel_rfl, by kernel_rfl⟩
theorem siE : ∃ i, Tryz.prog.info? 3 = some i ∧ i.size = 1 ∧ i.hasPointers = false ∧ i.bytes = 8 := ⟨(Tryz.prog.info? 3).get (by kernel_rfl), by kernel_rfl, by kernel_rfl, by kernel_rfl, by kernel_rfl⟩
end Go.Proofs.YtibnojbhoepcdaaGreatDoor
/- The register takes a fact: the program's way. -/
namespace Go.Proofs.YtibnojbhoepcdaaGreatDoor
open Go.ChangeShapes Go.WideShapes Go.ChangeAt Go.RowKit
attribute [local go_sem ↓] Go.wp_at_zero Go.wp_at_succ
set_option maxRecDepth 20000 in
theorem over_ok {f g : Fc} (hf : fok f = true) (hg : fok g = true) (e : g.n = f.n) : overB f.n f.i f.s f.g g.n g.i g.s g.g = ovr f g := by
  unfold fok at hf hg
  unfold overB ovr
  rw [hf, hg]
  simp [e]
set_option maxRecDepth 20000 in
theorem cell_block {w : World} {b o : Nat} {cs : Array Value} {t : TypeId} {v : Value} (h : w.heap[b]? = some (.cells cs t (0, 0))) (hc : cs[o]? = some v) : w.cell? ⟨b, o, none⟩ = some v := by
  simp [World.cell?, h, hc]
set_option maxRecDepth 20000 in
theorem fok_wf {f : Fc} (h : fok f = true) : (Lit.int .i64 f.n).wf = true := by
  unfold fok fokB inb at h
  simp at h
  exact WalkArith.wf_i64 (by omega)
set_option maxRecDepth 20000 in
theorem map_ne {w : World} {mb c b o : Nat} {D : DataW Unit} {v : Value} (hm : w.ownsMap Tryz.prog 3 fE mb c D) (h : w.cell? ⟨b, o, none⟩ = some v) : b ≠ mb := fun e => by
  subst e
  obtain ⟨es, cl, h1, _⟩ := hm
  simp [World.cell?, h1] at h
set_option maxRecDepth 20000 in
theorem keep_map {w w' : World} {mb c b o : Nat} {D : DataW Unit} {v : Value} (hm : w.ownsMap Tryz.prog 3 fE mb c D) (hg : w.grownBy w' (some mb)) (h : w.cell? ⟨b, o, none⟩ = some v) : w'.cell? ⟨b, o, none⟩ = some v := hg.cell h (by simpa using map_ne hm h)
set_option maxRecDepth 20000 in
theorem keep_block {w w' : World} {b : Nat} {o : Obj} {r : Option Nat} (hg : w.grownBy w' r) (hr : some b ≠ r) (h : w.heap[b]? = some o) : w'.heap[b]? = some o := (hg.block b (lt_of_block h) hr).trans h
set_option maxRecDepth 20000 in
theorem block_ne {w : World} {mb c b : Nat} {D : DataW Unit} {cs : Array Value} {t : TypeId} {fz : Nat × Nat} (hm : w.ownsMap Tryz.prog 3 fE mb c D) (h : w.heap[b]? = some (.cells cs t fz)) : some b ≠ some mb := fun e => by
  simp only [Option.some.injEq] at e
  subst e
  obtain ⟨es, cl, h1, _⟩ := hm
  rw [h] at h1
  cases h1
set_option maxRecDepth 20000 in
theorem map_below {w w' : World} {mb c : Nat} {D : DataW Unit} (h : w.ownsMap Tryz.prog 3 fE mb c D) (hb : Below w.heap.size w w') : w'.ownsMap Tryz.prog 3 fE mb c D := by
  have hl := h.lt
  obtain ⟨es, clock, e1, r⟩ := h
  exact ⟨es, clock, (hb.block mb hl).trans e1, r⟩
set_option maxRecDepth 20000 in
theorem own_not_map {w : World} {base mb c n : Nat} {D : DataW Unit} {v : Value} {xs : List Value} (h : w.ownsRow base 3 1 v n xs) (hm : w.ownsMap Tryz.prog 3 fE mb c D) : v.ownBlock = none ∨ v.ownBlock ≠ some mb := by
  rcases h.2 with ⟨rfl, _⟩ | ⟨g, cap, cur, rfl, _, hh, _⟩
  · exact .inl rfl
  · exact .inr (block_ne hm hh)
set_option maxRecDepth 20000 in
theorem step_app1 {w : World} {ops : Array Oper} {o : Oper} {a : Act} {K : Act → World → Prop} {Q : Exit → Act → World → Prop} {E : Prop} (hgd : o.guard = none) (s x : Operand)
    (ho : o.op = .call { callee := .builtin .append, args := #[s, x], argTypes := #[90, 90] })
    (base : Nat) (v : Value) (n : Nat) (L : List Int) (hs : a.eval s = v) (hown : w.ownsRow base 3 1 v n (lv L))
    (g : Nat) (k : Int) (hx : a.eval x = .slice (some ⟨g, 0, none⟩) 1 1) (hnew : w.cell? ⟨g, 0, none⟩ = some (.int .i64 k)) (hn : n ≤ 100) (hbase : base ≤ w.heap.size)
    (h : ∀ a' cap' w', w'.ownsRow base 3 1 (.slice a' (n + 1) cap') (n + 1) (lv (L ++ [k])) → w.grownBy w' v.ownBlock → K (a.put o.dst (.slice a' (n + 1) cap')) w') :
    if Region.wanted o (yielded ops a.tmps) = true then Oper.wp Tryz.prog o a w K Q else E := by
  have hw : Region.wanted o (yielded ops a.tmps) = true := by simp [Region.wanted, hgd]
  rw [if_pos hw]
  obtain ⟨ti, hi, hz0, hz1, hz2⟩ := info_parts info3
  refine wp_append_own w s x 90 ho base 3 ti (.int .i64 0) 1 8 Tryz.underlying90 hi hz0 hz1 hz2 rfl (by decide) v n (lv L) hs hown ⟨g, 0, none⟩ 1 1 (lv [k]) hx rfl (fun j u hj => ?_) (fun u hu => ?_) (by unfold maxLen; omega) (by omega) hbase (fun v' w' h1 h2 _ => ?_)
  · match j, hj with
    | 0, hj => simp [lv] at hj; subst hj; simpa [Addr.add] using hnew
  · obtain ⟨y, _, rfl⟩ := List.mem_map.1 hu
    rfl
  · rw [← show lv (L ++ [k]) = lv L ++ lv [k] by simp [lv]] at h1
    rcases own_shape h1 with ⟨_, h0⟩ | ⟨g', cap', rfl, _⟩
    · omega
    · exact h _ cap' w' h1 h2
set_option maxRecDepth 20000 in
theorem not_own {w : World} {base n b : Nat} {t : TypeId} {cs : Array Value} {fz : Nat × Nat} {v : Value} {xs : List Value} (h : w.ownsRow base 3 1 v n xs) (hb : w.heap[b]? = some (.cells cs t fz)) (ht : t ≠ 3) : some b ≠ v.ownBlock := fun e => by
  rcases h.2 with ⟨rfl, _⟩ | ⟨g, cap, cur, rfl, _, hh, _⟩
  · cases e
  · simp only [Value.ownBlock, Option.some.injEq] at e
    subst e
    rw [hb] at hh
    simp at hh
    exact ht hh.2.1
set_option maxRecDepth 20000 in
theorem own_not_map' {w : World} {base mb c n : Nat} {D : DataW Unit} {v : Value} {xs : List Value} (h : w.ownsRow base 3 1 v n xs) (hm : w.ownsMap Tryz.prog 3 fE mb c D) : some mb ≠ v.ownBlock := fun e => by
  rcases own_not_map h hm with h | h
  · rw [h] at e; cases e
  · exact h e.symm
set_option maxRecDepth 20000 in
theorem block_alloc {w : World} {b : Nat} {o : Obj} (x : Obj) (h : w.heap[b]? = some o) : (w.alloc x).heap[b]? = some o := (Below.heap_alloc w x b (lt_of_block h)).trans h
set_option maxRecDepth 20000 in
theorem sorted_new {T : List Fc} {f : Fc} (hT : Asc T) (hg : tget T f.n = none) : (T.map (·.n) ++ [f.n]).mergeSort (fun x y => decide (x ≤ y)) = (tput T f).map (·.n) := by
  have h1 : ((tput T f).map (·.n)).Perm (T.map (·.n) ++ [f.n]) := by simpa using (tput_perm hg).map (·.n)
  have h2 : ((tput T f).map (·.n)).Pairwise (fun x y => x ≤ y) := by
    rw [List.pairwise_map]
    exact (tput_asc hT).imp (fun {a b} h => by omega)
  have h3 : ((T.map (·.n) ++ [f.n]).mergeSort (fun x y => decide (x ≤ y))).Pairwise (fun x y => x ≤ y) := by
    have := List.pairwise_mergeSort (le := fun (x y : Int) => decide (x ≤ y)) (fun a b c h1 h2 => by simp at *; omega) (fun a b => by simp; omega) (T.map (·.n) ++ [f.n])
    exact this.imp (fun {a b} h => by simpa using h)
  exact List.Perm.eq_of_pairwise (fun a b _ _ h1 h2 => by omega) h3 h2 ((List.mergeSort_perm _ _).trans h1.symm)
end Go.Proofs.YtibnojbhoepcdaaGreatDoor
