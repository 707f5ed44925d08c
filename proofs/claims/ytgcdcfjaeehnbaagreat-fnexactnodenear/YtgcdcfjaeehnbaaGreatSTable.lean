/- Tables that are ok, the model's way. -/
import Derived.Test.YtgcdcfjaeehnbaaGreatTable
namespace Go.Proofs.YtgcdcfjaeehnbaaGreat
open Go.ChangeShapes Go.WideShapes Go.ChangeAt Go.RowKit
attribute [local go_sem ↓] Go.wp_at_zero Go.wp_at_succ
theorem sfok_lit (n i s : Int) (g b : Bool) (h : fokB n i s = b) (w : World) :
    Calls Tryz.prog 139 #[.agg #[.int .i64 n, .int .i64 i, .int .i64 s, .bool g]] w fun r w' => r = .returned (.bool b) ∧ Below w.heap.size w w' := h ▸ sfok_below n i s g w
set_option maxRecDepth 10000 in
set_option maxHeartbeats 1000000 in
theorem stok_any (a : Option Addr) (len cap : Nat) (F : Nat → Fc) (w : World) (h : FSl w a len F) (hl : len ≤ 1048576) :
    Calls Tryz.prog 79 #[.slice a len cap] w fun e w' => e = .returned (.bool (tokB len F)) ∧ Below w.heap.size w w' := by
  go_enter Tryz.func79, Tryz.ntmps79
  go_wp2
  go_loopw [3] (fun i wr => ∃ k : Nat, k ≤ len ∧ i = .int .i64 k ∧ Below w.heap.size w wr ∧ (∀ j, j < k → fokB (F j).n (F j).i (F j).s = true) ∧ (∀ j, j < k → 0 < j → (F (j - 1)).n < (F j).n)) (fun i _ => len - (intOf i).toNat)
  case atStart => exact ⟨0, by omega, rfl, Below.refl _ _, fun j h1 => by omega, fun j h1 => by omega⟩
  case round =>
    obtain ⟨k, hk, rfl, hb, hall, hasc⟩ := hrel
    by_cases hlt : k < len
    · obtain ⟨b, off, rfl, hbl, hf⟩ := h (by omega)
      obtain ⟨c0, c1, c2, c3⟩ := (hf.below hb hbl) k hlt
      have i0 : (0 : Int) ≤ (k : Int) := by omega
      have i1 : (k : Int) < (len : Int) := by omega
      cases hok : fokB (F k).n (F k).i (F k).s
      · go_wp2_with fail
        have hok' : Hid (fokB (F k).n (F k).i (F k).s = false) := hok
        clear hok
        refine wp_region_held_drew (S := (fun w' => w'.cell? ⟨b, off + k * 4, none⟩ = some (.int .i64 (F k).n) ∧ w'.cell? ⟨b, off + k * 4 + 1, none⟩ = some (.int .i64 (F k).i) ∧ w'.cell? ⟨b, off + k * 4 + 2, none⟩ = some (.int .i64 (F k).s) ∧ w'.cell? ⟨b, off + k * 4 + 3, none⟩ = some (.bool (F k).g))) (by kernel_rfl) ?_ (fun hHeld => ?_)
        · (try dsimp only); (refine ⟨?_, ?_, ?_, ?_⟩ <;> (repeat (first | with_reducible assumption | with_reducible refine keep_drew ?_ | with_reducible refine keep_below (by assumption) ?_)))
        refine tlQ (i := 0) (oi := { dst := some 10, op := .move (.tmp 0), type := 34, pos := "l3_fact.go:29", after := #[], guard := none }) ?_; try simp only [putP]; refine tlQ (i := 1) (oi := { dst := some 11, op := .move (.tmp 3), type := 3, pos := "l3_fact.go:29", after := #[], guard := none }) ?_; try simp only [putP]; refine tlQ (i := 2) (oi := { dst := some 12, op := .indexAddr 34 (.tmp 10) (.tmp 11), type := 0, pos := "l3_fact.go:29", after := #[{ on := 0, ground := .data }, { on := 1, ground := .data }], guard := none }) ?_; try simp only [putP]; refine tlQ (i := 3) (oi := { dst := some 13, op := .load 96 (.tmp 12), type := 96, pos := "l3_fact.go:29", after := #[{ on := 2, ground := .data }], guard := none }) ?_; try simp only [putP]
        refine wpAnyH_ready (rs := [4]) (by kernel_rfl) (by simp) ?_
        refine AllReadyH.cons (o := { dst := some 14, op := .call { callee := .value (.func 139), args := #[.tmp 13], argTypes := #[96] }, type := 4, pos := "l3_fact.go:29", after := #[{ on := 3, ground := .data }], guard := none }) rfl (fun K hK => ?_) AllReadyH.nil
        go_simp
        (refine (sfok_lit _ _ _ _ false hok'.out _).mono ?_; rintro e w1 ⟨rfl, b1⟩)
        go_wp2_with fail
        refine hK.out _ _ ?_ (fun hHeld => ?_)
        · (try dsimp only); (refine ⟨?_, ?_, ?_, ?_⟩ <;> (repeat (first | with_reducible assumption | with_reducible refine keep_drew ?_ | with_reducible refine keep_below (by assumption) ?_)))
        clear hK K
        (try simp only [putP]); refine tlQ (i := 5) (oi := { dst := some 15, op := .unOp .not 4 (.tmp 14), type := 4, pos := "l3_fact.go:29", after := #[{ on := 4, ground := .data }], guard := none }) ?_; try simp only [putP]; refine tlQ (i := 6) (oi := { dst := some 16, op := .move (.tmp 15), type := 4, pos := "l3_fact.go:29", after := #[{ on := 5, ground := .data }, { on := 4, ground := .chain }], guard := none }) ?_; try simp only [putP]; refine tzQ (i := 7) (oi := { dst := some 17, op := .move (.tmp 3), type := 3, pos := "l3_fact.go:29", after := #[{ on := 6, ground := .guard }], guard := some (6, false) }) ?_; try simp only [putP]; refine tzQ (i := 8) (oi := { dst := some 18, op := .binOp .gtr 3 (.tmp 17) (.const (.int .i64 0)) 3, type := 4, pos := "l3_fact.go:29", after := #[{ on := 7, ground := .data }, { on := 6, ground := .guard }], guard := some (6, false) }) ?_; try simp only [putP]; refine tzQ (i := 9) (oi := { dst := some 19, op := .move (.tmp 18), type := 4, pos := "l3_fact.go:29", after := #[{ on := 8, ground := .data }, { on := 6, ground := .chain }, { on := 6, ground := .guard }], guard := some (6, false) }) ?_; try simp only [putP]; refine tzQ (i := 10) (oi := { dst := some 20, op := .move (.tmp 0), type := 34, pos := "l3_fact.go:29", after := #[{ on := 9, ground := .guard }], guard := some (9, true) }) ?_; try simp only [putP]; refine tzQ (i := 11) (oi := { dst := some 21, op := .move (.tmp 3), type := 3, pos := "l3_fact.go:29", after := #[{ on := 9, ground := .guard }], guard := some (9, true) }) ?_; try simp only [putP]; refine tzQ (i := 12) (oi := { dst := some 22, op := .binOp .sub 3 (.tmp 21) (.const (.int .i64 1)) 3, type := 3, pos := "l3_fact.go:29", after := #[{ on := 11, ground := .data }, { on := 9, ground := .guard }], guard := some (9, true) }) ?_; try simp only [putP]; refine tzQ (i := 13) (oi := { dst := some 23, op := .indexAddr 34 (.tmp 20) (.tmp 22), type := 0, pos := "l3_fact.go:29", after := #[{ on := 10, ground := .data }, { on := 12, ground := .data }, { on := 9, ground := .guard }], guard := some (9, true) }) ?_; try simp only [putP]; refine tzQ (i := 14) (oi := { dst := some 24, op := .fieldAddr 96 (.tmp 23) 0, type := 0, pos := "l3_fact.go:29", after := #[{ on := 13, ground := .data }, { on := 9, ground := .guard }], guard := some (9, true) }) ?_; try simp only [putP]; refine tzQ (i := 15) (oi := { dst := some 25, op := .load 3 (.tmp 24), type := 3, pos := "l3_fact.go:29", after := #[{ on := 14, ground := .data }, { on := 9, ground := .guard }], guard := some (9, true) }) ?_; try simp only [putP]; refine tzQ (i := 16) (oi := { dst := some 26, op := .move (.tmp 0), type := 34, pos := "l3_fact.go:29", after := #[{ on := 9, ground := .guard }], guard := some (9, true) }) ?_; try simp only [putP]; refine tzQ (i := 17) (oi := { dst := some 27, op := .move (.tmp 3), type := 3, pos := "l3_fact.go:29", after := #[{ on := 9, ground := .guard }], guard := some (9, true) }) ?_; try simp only [putP]; refine tzQ (i := 18) (oi := { dst := some 28, op := .indexAddr 34 (.tmp 26) (.tmp 27), type := 0, pos := "l3_fact.go:29", after := #[{ on := 16, ground := .data }, { on := 17, ground := .data }, { on := 9, ground := .guard }], guard := some (9, true) }) ?_; try simp only [putP]; refine tzQ (i := 19) (oi := { dst := some 29, op := .fieldAddr 96 (.tmp 28) 0, type := 0, pos := "l3_fact.go:29", after := #[{ on := 18, ground := .data }, { on := 9, ground := .guard }], guard := some (9, true) }) ?_; try simp only [putP]; refine tzQ (i := 20) (oi := { dst := some 30, op := .load 3 (.tmp 29), type := 3, pos := "l3_fact.go:29", after := #[{ on := 19, ground := .data }, { on := 9, ground := .guard }], guard := some (9, true) }) ?_; try simp only [putP]; refine tzQ (i := 21) (oi := { dst := some 31, op := .binOp .geq 3 (.tmp 25) (.tmp 30) 3, type := 4, pos := "l3_fact.go:29", after := #[{ on := 15, ground := .data }, { on := 20, ground := .data }, { on := 9, ground := .guard }], guard := some (9, true) }) ?_; try simp only [putP]; refine tzQ (i := 22) (oi := { dst := some 32, op := .pick (.tmp 19) (.tmp 31) (.const (.bool false)), type := 4, pos := "l3_fact.go:29", after := #[{ on := 9, ground := .data }, { on := 21, ground := .data }, { on := 6, ground := .guard }], guard := some (6, false) }) ?_; try simp only [putP]; refine tlQ (i := 23) (oi := { dst := some 33, op := .pick (.tmp 16) (.const (.bool true)) (.tmp 32), type := 4, pos := "l3_fact.go:29", after := #[{ on := 6, ground := .data }, { on := 22, ground := .data }], guard := none }) ?_; try simp only [putP]
        refine wpAnyH_done (by kernel_rfl) ?_ _
        go_wp2
        go_ret
        refine ⟨ret_bool ?_, btrans hb.drew b1⟩
        unfold tokB allB
        symm
        rw [Bool.and_eq_false_iff]
        exact .inl (decide_eq_false fun h => by have := h k hlt; rw [hok'.out] at this; cases this)
      · rcases Nat.eq_zero_or_pos k with h0 | h0
        · subst h0
          simp only [Nat.zero_mul, Nat.add_zero] at c0 c1 c2 c3
          go_wp2_with fail
          have hok' : Hid (fokB (F 0).n (F 0).i (F 0).s = true) := hok
          clear hok
          refine wp_region_held_drew (S := (fun w' => w'.cell? ⟨b, off, none⟩ = some (.int .i64 (F 0).n) ∧ w'.cell? ⟨b, off + 1, none⟩ = some (.int .i64 (F 0).i) ∧ w'.cell? ⟨b, off + 2, none⟩ = some (.int .i64 (F 0).s) ∧ w'.cell? ⟨b, off + 3, none⟩ = some (.bool (F 0).g))) (by kernel_rfl) ?_ (fun hHeld => ?_)
          · (try dsimp only); (refine ⟨?_, ?_, ?_, ?_⟩ <;> (repeat (first | with_reducible assumption | with_reducible refine keep_drew ?_ | with_reducible refine keep_below (by assumption) ?_)))
          refine tlQ (i := 0) (oi := { dst := some 10, op := .move (.tmp 0), type := 34, pos := "l3_fact.go:29", after := #[], guard := none }) ?_; try simp only [putP]; refine tlQ (i := 1) (oi := { dst := some 11, op := .move (.tmp 3), type := 3, pos := "l3_fact.go:29", after := #[], guard := none }) ?_; try simp only [putP]; refine tlQ (i := 2) (oi := { dst := some 12, op := .indexAddr 34 (.tmp 10) (.tmp 11), type := 0, pos := "l3_fact.go:29", after := #[{ on := 0, ground := .data }, { on := 1, ground := .data }], guard := none }) ?_; try simp only [putP]; refine tlQ (i := 3) (oi := { dst := some 13, op := .load 96 (.tmp 12), type := 96, pos := "l3_fact.go:29", after := #[{ on := 2, ground := .data }], guard := none }) ?_; try simp only [putP]
          refine wpAnyH_ready (rs := [4]) (by kernel_rfl) (by simp) ?_
          refine AllReadyH.cons (o := { dst := some 14, op := .call { callee := .value (.func 139), args := #[.tmp 13], argTypes := #[96] }, type := 4, pos := "l3_fact.go:29", after := #[{ on := 3, ground := .data }], guard := none }) rfl (fun K hK => ?_) AllReadyH.nil
          go_simp
          (refine (sfok_lit _ _ _ _ true hok'.out _).mono ?_; rintro e w1 ⟨rfl, b1⟩)
          go_wp2_with fail
          refine hK.out _ _ ?_ (fun hHeld => ?_)
          · (try dsimp only); (refine ⟨?_, ?_, ?_, ?_⟩ <;> (repeat (first | with_reducible assumption | with_reducible refine keep_drew ?_ | with_reducible refine keep_below (by assumption) ?_)))
          clear hK K
          (try simp only [putP]); refine tlQ (i := 5) (oi := { dst := some 15, op := .unOp .not 4 (.tmp 14), type := 4, pos := "l3_fact.go:29", after := #[{ on := 4, ground := .data }], guard := none }) ?_; try simp only [putP]; refine tlQ (i := 6) (oi := { dst := some 16, op := .move (.tmp 15), type := 4, pos := "l3_fact.go:29", after := #[{ on := 5, ground := .data }, { on := 4, ground := .chain }], guard := none }) ?_; try simp only [putP]; refine tlQ (i := 7) (oi := { dst := some 17, op := .move (.tmp 3), type := 3, pos := "l3_fact.go:29", after := #[{ on := 6, ground := .guard }], guard := some (6, false) }) ?_; try simp only [putP]; refine tlQ (i := 8) (oi := { dst := some 18, op := .binOp .gtr 3 (.tmp 17) (.const (.int .i64 0)) 3, type := 4, pos := "l3_fact.go:29", after := #[{ on := 7, ground := .data }, { on := 6, ground := .guard }], guard := some (6, false) }) ?_; try simp only [putP]; refine tlQ (i := 9) (oi := { dst := some 19, op := .move (.tmp 18), type := 4, pos := "l3_fact.go:29", after := #[{ on := 8, ground := .data }, { on := 6, ground := .chain }, { on := 6, ground := .guard }], guard := some (6, false) }) ?_; try simp only [putP]; refine tzQ (i := 10) (oi := { dst := some 20, op := .move (.tmp 0), type := 34, pos := "l3_fact.go:29", after := #[{ on := 9, ground := .guard }], guard := some (9, true) }) ?_; try simp only [putP]; refine tzQ (i := 11) (oi := { dst := some 21, op := .move (.tmp 3), type := 3, pos := "l3_fact.go:29", after := #[{ on := 9, ground := .guard }], guard := some (9, true) }) ?_; try simp only [putP]; refine tzQ (i := 12) (oi := { dst := some 22, op := .binOp .sub 3 (.tmp 21) (.const (.int .i64 1)) 3, type := 3, pos := "l3_fact.go:29", after := #[{ on := 11, ground := .data }, { on := 9, ground := .guard }], guard := some (9, true) }) ?_; try simp only [putP]; refine tzQ (i := 13) (oi := { dst := some 23, op := .indexAddr 34 (.tmp 20) (.tmp 22), type := 0, pos := "l3_fact.go:29", after := #[{ on := 10, ground := .data }, { on := 12, ground := .data }, { on := 9, ground := .guard }], guard := some (9, true) }) ?_; try simp only [putP]; refine tzQ (i := 14) (oi := { dst := some 24, op := .fieldAddr 96 (.tmp 23) 0, type := 0, pos := "l3_fact.go:29", after := #[{ on := 13, ground := .data }, { on := 9, ground := .guard }], guard := some (9, true) }) ?_; try simp only [putP]; refine tzQ (i := 15) (oi := { dst := some 25, op := .load 3 (.tmp 24), type := 3, pos := "l3_fact.go:29", after := #[{ on := 14, ground := .data }, { on := 9, ground := .guard }], guard := some (9, true) }) ?_; try simp only [putP]; refine tzQ (i := 16) (oi := { dst := some 26, op := .move (.tmp 0), type := 34, pos := "l3_fact.go:29", after := #[{ on := 9, ground := .guard }], guard := some (9, true) }) ?_; try simp only [putP]; refine tzQ (i := 17) (oi := { dst := some 27, op := .move (.tmp 3), type := 3, pos := "l3_fact.go:29", after := #[{ on := 9, ground := .guard }], guard := some (9, true) }) ?_; try simp only [putP]; refine tzQ (i := 18) (oi := { dst := some 28, op := .indexAddr 34 (.tmp 26) (.tmp 27), type := 0, pos := "l3_fact.go:29", after := #[{ on := 16, ground := .data }, { on := 17, ground := .data }, { on := 9, ground := .guard }], guard := some (9, true) }) ?_; try simp only [putP]; refine tzQ (i := 19) (oi := { dst := some 29, op := .fieldAddr 96 (.tmp 28) 0, type := 0, pos := "l3_fact.go:29", after := #[{ on := 18, ground := .data }, { on := 9, ground := .guard }], guard := some (9, true) }) ?_; try simp only [putP]; refine tzQ (i := 20) (oi := { dst := some 30, op := .load 3 (.tmp 29), type := 3, pos := "l3_fact.go:29", after := #[{ on := 19, ground := .data }, { on := 9, ground := .guard }], guard := some (9, true) }) ?_; try simp only [putP]; refine tzQ (i := 21) (oi := { dst := some 31, op := .binOp .geq 3 (.tmp 25) (.tmp 30) 3, type := 4, pos := "l3_fact.go:29", after := #[{ on := 15, ground := .data }, { on := 20, ground := .data }, { on := 9, ground := .guard }], guard := some (9, true) }) ?_; try simp only [putP]; refine tlQ (i := 22) (oi := { dst := some 32, op := .pick (.tmp 19) (.tmp 31) (.const (.bool false)), type := 4, pos := "l3_fact.go:29", after := #[{ on := 9, ground := .data }, { on := 21, ground := .data }, { on := 6, ground := .guard }], guard := some (6, false) }) ?_; try simp only [putP]; refine tlQ (i := 23) (oi := { dst := some 33, op := .pick (.tmp 16) (.const (.bool true)) (.tmp 32), type := 4, pos := "l3_fact.go:29", after := #[{ on := 6, ground := .data }, { on := 22, ground := .data }], guard := none }) ?_; try simp only [putP]
          refine wpAnyH_done (by kernel_rfl) ?_ _
          go_wp2
          go_roundw
          case rel => exact ⟨1, by omega, by go_num, btrans hb.drew b1, fun j hj => (show j = 0 by omega) ▸ hok'.out, fun j hj hj0 => by omega⟩
          case measure => simp [intOf]; omega
        · obtain ⟨m, rfl⟩ : ∃ m, k = m + 1 := ⟨k - 1, by omega⟩
          obtain ⟨d0, d1, d2, d3⟩ := (hf.below hb hbl) m (by omega)
          have i2 : (0 : Int) ≤ (m : Int) := by omega
          have i3 : (m : Int) + 1 < (len : Int) := by omega
          have i4 : (m : Int) < (len : Int) := by omega
          have i5 : (0 : Int) ≤ (m : Int) + 1 := by omega
          have i6 : (0 : Int) < (m : Int) + 1 := by omega
          have i7 : IntKind.i64.wrap (m : Int) = (m : Int) := by rw [IntKind.wrap_i64]; omega
          have i8 : IntKind.i64.wrap ((m : Int) + 1 - 1) = (m : Int) := by rw [IntKind.wrap_i64]; omega
          have e1 : ((m + 1 : Nat) : Int) = (m : Int) + 1 := by omega
          clear i0 i1
          rw [e1]
          go_wp2_with fail
          have hok' : Hid (fokB (F (m + 1)).n (F (m + 1)).i (F (m + 1)).s = true) := hok
          clear hok
          refine wp_region_held_drew (S := (fun w' => w'.cell? ⟨b, off + (m + 1) * 4, none⟩ = some (.int .i64 (F (m + 1)).n) ∧ w'.cell? ⟨b, off + (m + 1) * 4 + 1, none⟩ = some (.int .i64 (F (m + 1)).i) ∧ w'.cell? ⟨b, off + (m + 1) * 4 + 2, none⟩ = some (.int .i64 (F (m + 1)).s) ∧ w'.cell? ⟨b, off + (m + 1) * 4 + 3, none⟩ = some (.bool (F (m + 1)).g) ∧ w'.cell? ⟨b, off + m * 4, none⟩ = some (.int .i64 (F m).n) ∧ w'.cell? ⟨b, off + m * 4 + 1, none⟩ = some (.int .i64 (F m).i) ∧ w'.cell? ⟨b, off + m * 4 + 2, none⟩ = some (.int .i64 (F m).s) ∧ w'.cell? ⟨b, off + m * 4 + 3, none⟩ = some (.bool (F m).g))) (by kernel_rfl) ?_ (fun hHeld => ?_)
          · (try dsimp only); (refine ⟨?_, ?_, ?_, ?_, ?_, ?_, ?_, ?_⟩ <;> (repeat (first | with_reducible assumption | with_reducible refine keep_drew ?_ | with_reducible refine keep_below (by assumption) ?_)))
          refine tlQ (i := 0) (oi := { dst := some 10, op := .move (.tmp 0), type := 34, pos := "l3_fact.go:29", after := #[], guard := none }) ?_; try simp only [putP]; refine tlQ (i := 1) (oi := { dst := some 11, op := .move (.tmp 3), type := 3, pos := "l3_fact.go:29", after := #[], guard := none }) ?_; try simp only [putP]; refine tlQ (i := 2) (oi := { dst := some 12, op := .indexAddr 34 (.tmp 10) (.tmp 11), type := 0, pos := "l3_fact.go:29", after := #[{ on := 0, ground := .data }, { on := 1, ground := .data }], guard := none }) ?_; try simp only [putP]; refine tlQ (i := 3) (oi := { dst := some 13, op := .load 96 (.tmp 12), type := 96, pos := "l3_fact.go:29", after := #[{ on := 2, ground := .data }], guard := none }) ?_; try simp only [putP]
          refine wpAnyH_ready (rs := [4]) (by kernel_rfl) (by simp) ?_
          refine AllReadyH.cons (o := { dst := some 14, op := .call { callee := .value (.func 139), args := #[.tmp 13], argTypes := #[96] }, type := 4, pos := "l3_fact.go:29", after := #[{ on := 3, ground := .data }], guard := none }) rfl (fun K hK => ?_) AllReadyH.nil
          go_simp
          (refine (sfok_lit _ _ _ _ true hok'.out _).mono ?_; rintro e w1 ⟨rfl, b1⟩)
          go_wp2_with fail
          refine hK.out _ _ ?_ (fun hHeld => ?_)
          · (try dsimp only); (refine ⟨?_, ?_, ?_, ?_, ?_, ?_, ?_, ?_⟩ <;> (repeat (first | with_reducible assumption | with_reducible refine keep_drew ?_ | with_reducible refine keep_below (by assumption) ?_)))
          clear hK K
          (try simp only [putP]); refine tlQ (i := 5) (oi := { dst := some 15, op := .unOp .not 4 (.tmp 14), type := 4, pos := "l3_fact.go:29", after := #[{ on := 4, ground := .data }], guard := none }) ?_; try simp only [putP]; refine tlQ (i := 6) (oi := { dst := some 16, op := .move (.tmp 15), type := 4, pos := "l3_fact.go:29", after := #[{ on := 5, ground := .data }, { on := 4, ground := .chain }], guard := none }) ?_; try simp only [putP]; refine tlQ (i := 7) (oi := { dst := some 17, op := .move (.tmp 3), type := 3, pos := "l3_fact.go:29", after := #[{ on := 6, ground := .guard }], guard := some (6, false) }) ?_; try simp only [putP]; refine tlQ (i := 8) (oi := { dst := some 18, op := .binOp .gtr 3 (.tmp 17) (.const (.int .i64 0)) 3, type := 4, pos := "l3_fact.go:29", after := #[{ on := 7, ground := .data }, { on := 6, ground := .guard }], guard := some (6, false) }) ?_; try simp only [putP]; refine tlQ (i := 9) (oi := { dst := some 19, op := .move (.tmp 18), type := 4, pos := "l3_fact.go:29", after := #[{ on := 8, ground := .data }, { on := 6, ground := .chain }, { on := 6, ground := .guard }], guard := some (6, false) }) ?_; try simp only [putP]; refine tlQ (i := 10) (oi := { dst := some 20, op := .move (.tmp 0), type := 34, pos := "l3_fact.go:29", after := #[{ on := 9, ground := .guard }], guard := some (9, true) }) ?_; try simp only [putP]; refine tlQ (i := 11) (oi := { dst := some 21, op := .move (.tmp 3), type := 3, pos := "l3_fact.go:29", after := #[{ on := 9, ground := .guard }], guard := some (9, true) }) ?_; try simp only [putP]; refine tlQ (i := 12) (oi := { dst := some 22, op := .binOp .sub 3 (.tmp 21) (.const (.int .i64 1)) 3, type := 3, pos := "l3_fact.go:29", after := #[{ on := 11, ground := .data }, { on := 9, ground := .guard }], guard := some (9, true) }) ?_; try simp only [putP]; refine tlQ (i := 13) (oi := { dst := some 23, op := .indexAddr 34 (.tmp 20) (.tmp 22), type := 0, pos := "l3_fact.go:29", after := #[{ on := 10, ground := .data }, { on := 12, ground := .data }, { on := 9, ground := .guard }], guard := some (9, true) }) ?_; try simp only [putP]; refine tlQ (i := 14) (oi := { dst := some 24, op := .fieldAddr 96 (.tmp 23) 0, type := 0, pos := "l3_fact.go:29", after := #[{ on := 13, ground := .data }, { on := 9, ground := .guard }], guard := some (9, true) }) ?_; try simp only [putP]; refine tlQ (i := 15) (oi := { dst := some 25, op := .load 3 (.tmp 24), type := 3, pos := "l3_fact.go:29", after := #[{ on := 14, ground := .data }, { on := 9, ground := .guard }], guard := some (9, true) }) ?_; try simp only [putP]; refine tlQ (i := 16) (oi := { dst := some 26, op := .move (.tmp 0), type := 34, pos := "l3_fact.go:29", after := #[{ on := 9, ground := .guard }], guard := some (9, true) }) ?_; try simp only [putP]; refine tlQ (i := 17) (oi := { dst := some 27, op := .move (.tmp 3), type := 3, pos := "l3_fact.go:29", after := #[{ on := 9, ground := .guard }], guard := some (9, true) }) ?_; try simp only [putP]; refine tlQ (i := 18) (oi := { dst := some 28, op := .indexAddr 34 (.tmp 26) (.tmp 27), type := 0, pos := "l3_fact.go:29", after := #[{ on := 16, ground := .data }, { on := 17, ground := .data }, { on := 9, ground := .guard }], guard := some (9, true) }) ?_; try simp only [putP]; refine tlQ (i := 19) (oi := { dst := some 29, op := .fieldAddr 96 (.tmp 28) 0, type := 0, pos := "l3_fact.go:29", after := #[{ on := 18, ground := .data }, { on := 9, ground := .guard }], guard := some (9, true) }) ?_; try simp only [putP]; refine tlQ (i := 20) (oi := { dst := some 30, op := .load 3 (.tmp 29), type := 3, pos := "l3_fact.go:29", after := #[{ on := 19, ground := .data }, { on := 9, ground := .guard }], guard := some (9, true) }) ?_; try simp only [putP]; refine tlQ (i := 21) (oi := { dst := some 31, op := .binOp .geq 3 (.tmp 25) (.tmp 30) 3, type := 4, pos := "l3_fact.go:29", after := #[{ on := 15, ground := .data }, { on := 20, ground := .data }, { on := 9, ground := .guard }], guard := some (9, true) }) ?_; try simp only [putP]; refine tlQ (i := 22) (oi := { dst := some 32, op := .pick (.tmp 19) (.tmp 31) (.const (.bool false)), type := 4, pos := "l3_fact.go:29", after := #[{ on := 9, ground := .data }, { on := 21, ground := .data }, { on := 6, ground := .guard }], guard := some (6, false) }) ?_; try simp only [putP]; refine tlQ (i := 23) (oi := { dst := some 33, op := .pick (.tmp 16) (.const (.bool true)) (.tmp 32), type := 4, pos := "l3_fact.go:29", after := #[{ on := 6, ground := .data }, { on := 22, ground := .data }], guard := none }) ?_; try simp only [putP]
          refine wpAnyH_done (by kernel_rfl) ?_ _
          have bb := btrans hb.drew b1
          by_cases hc : (F (m + 1)).n ≤ (F m).n
          · go_wp2
            go_ret
            refine ⟨ret_bool ?_, bb⟩
            unfold tokB ascB
            symm
            rw [Bool.and_eq_false_iff]
            refine .inr (decide_eq_false fun h => ?_)
            have := h (m + 1) hlt (by omega)
            simp at this
            omega
          · go_wp2
            go_roundw
            case rel => exact ⟨m + 1 + 1, by omega, by go_num, bb, fun j hj => by
                by_cases e : j = m + 1
                · subst e; exact hok'.out
                · exact hall j (by omega), fun j hj h0 => by
                by_cases e : j = m + 1
                · subst e; simp; omega
                · exact hasc j (by omega) h0⟩
            case measure => simp [intOf]; omega
    · go_wp2
      go_ret
      refine ⟨ret_bool ?_, hb⟩
      unfold tokB allB ascB
      rw [decide_eq_true fun j hj => hall j (by omega), decide_eq_true fun j hj h0 => hasc j (by omega) h0]
      rfl
end Go.Proofs.YtgcdcfjaeehnbaaGreat
