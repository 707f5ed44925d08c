/- The line of an event, the model's way. -/
import Derived.Test.YtlebggbbhkiokaaGreatDoorRTxt
namespace Go.Proofs.YtlebggbbhkiokaaGreatDoor
open Go.ChangeShapes Go.WideShapes Go.ChangeAt Go.RowKit
attribute [local go_sem ↓] Go.wp_at_zero Go.wp_at_succ
/-- an event's line by its numbers -/
def lineN (m u d : Nat) (g : Bool) : List UInt8 := kindsL.getD m [] ++ [32] ++ Lib.decDigits u ++ (if g = true then [32, 107, 101, 101, 112] else if 0 < d then [32] ++ Lib.decDigits d else [])
set_option maxRecDepth 20000 in
set_option maxHeartbeats 4000000 in
theorem sll_nat (m u d : Nat) (g : Bool) (hm : m < 10) (hu : u < 1000000) (hd : d < 1000000) (w : World) :
    Calls Tryz.prog 11 #[.agg #[.int .i64 (m : Int), .int .i64 (u : Int), .int .i64 (d : Int), .bool g]] w fun e w' => e = .returned (.string (bs (lineN m u d g ++ [10]))) ∧ Below w.heap.size w w' := by
  have b0 : Below w.heap.size w (w.alloc (.cells #[.int .i64 (m : Int), .int .i64 (u : Int), .int .i64 (d : Int), .bool g] 31)) := balloc _ (Below.refl _ _)
  have p0 : (w.alloc (.cells #[.int .i64 (m : Int), .int .i64 (u : Int), .int .i64 (d : Int), .bool g] 31)).heap[w.heap.size]? = some (.cells #[.int .i64 (m : Int), .int .i64 (u : Int), .int .i64 (d : Int), .bool g] 31 (0, 0)) := heap_alloc_new _ _
  go_enter Tryz.func11, Tryz.ntmps11
  go_wp2_with fail
  generalize (w.alloc (.cells #[.int .i64 (m : Int), .int .i64 (u : Int), .int .i64 (d : Int), .bool g] 31)) = W0 at *
  have c0 := cell_block (o := 0) (v := .int .i64 (m : Int)) p0 rfl
  have c1 := cell_block (o := 1) (v := .int .i64 (u : Int)) p0 rfl
  have c2 := cell_block (o := 2) (v := .int .i64 (d : Int)) p0 rfl
  have c3 := cell_block (o := 3) (v := .bool g) p0 rfl
  have z1 := dd_len 5 u (by omega)
  have z2 := dd_len 5 d (by omega)
  have z3 : (bs (kindsL.getD m [])).size ≤ 5 := by
    have : ∀ k, k < 10 → (bs (kindsL.getD k [])).size ≤ 5 := by decide
    exact this _ hm
  have dc1 := dec_any (u + 1) u (by omega) hu
  have dc2 := dec_any (d + 1) d (by omega) hd
  have E1 : Hid (g = false → d = 0 → bs (lineN m u d g ++ [10]) = bs (kindsL.getD m []) ++ bs [32] ++ bs (Lib.decDigits u) ++ bs [10]) := by
    rintro rfl rfl
    rw [bs_append, bs_append, bs_append]
    simp [lineN]
  have E2 : Hid (g = false → 0 < d → bs (lineN m u d g ++ [10]) = bs (kindsL.getD m []) ++ bs [32] ++ bs (Lib.decDigits u) ++ bs [32] ++ bs (Lib.decDigits d) ++ bs [10]) := by
    rintro rfl h
    rw [bs_append, bs_append, bs_append, bs_append, bs_append]
    simp [lineN, h]
  have E3 : Hid (g = true → bs (lineN m u d g ++ [10]) = bs (kindsL.getD m []) ++ bs [32] ++ bs (Lib.decDigits u) ++ bs [32, 107, 101, 101, 112] ++ bs [10]) := by
    rintro rfl
    rw [bs_append, bs_append, bs_append, bs_append]
    simp [lineN]
  obtain ⟨x1, hx1⟩ : ∃ x, bs (Lib.decDigits u) = x := ⟨_, rfl⟩
  obtain ⟨x2, hx2⟩ : ∃ x, bs (Lib.decDigits d) = x := ⟨_, rfl⟩
  obtain ⟨x3, hx3'⟩ : ∃ x, bs (kindsL.getD m []) = x := ⟨_, rfl⟩
  have hx3 : Hid (m < 10 ∧ bs (kindsL.getD m []) = x3) := ⟨hm, hx3'⟩
  have y1 : x1.size ≤ 6 := by rw [← hx1]; simpa [ByteArray.size] using z1
  have y2 : x2.size ≤ 6 := by rw [← hx2]; simpa [ByteArray.size] using z2
  have y3 : x3.size ≤ 5 := by rw [← hx3']; exact z3
  rw [hx1] at dc1 E1 E2 E3
  rw [hx2] at dc2 E2
  rw [hx3'] at E1 E2 E3
  have hdec : Hid _ := dc1
  have hdec2 : Hid _ := dc2
  clear dc1 dc2 hx1 hx2 hx3' z1 z2 z3
  have k1 : ¬ 9223372036854775807 < x3.size + 1 := by omega
  have k2 : ¬ 9223372036854775807 < x3.size + 1 + x1.size := by omega
  have k3 : ¬ 9223372036854775807 < x3.size + 1 + x1.size + 5 := by omega
  have k4 : ¬ 9223372036854775807 < x3.size + 1 + x1.size + 1 := by omega
  have k5 : ¬ 9223372036854775807 < x3.size + 1 + x1.size + 1 + x2.size := by omega
  have k6 : ¬ 9223372036854775807 < x3.size + 1 + x1.size + 5 + 1 := by omega
  have k7 : ¬ 9223372036854775807 < x3.size + 1 + x1.size + 1 + x2.size + 1 := by omega
  have j0 : (0 : Int) ≤ (m : Int) := by omega
  have j1 : (m : Int) < 10 := by omega
  have b0d := qd b0
  obtain ⟨b0, hb0⟩ : ∃ b, Hid (w.heap.size = b) := ⟨_, rfl⟩
  rw [hb0.out] at c0 c1 c2 c3 ⊢
  clear p0
  refine wp_region_held_drew (S := fun w' => w'.cell? ⟨b0, 0, none⟩ = some (.int .i64 (m : Int)) ∧ w'.cell? ⟨b0, 1, none⟩ = some (.int .i64 (u : Int)) ∧ w'.cell? ⟨b0, 2, none⟩ = some (.int .i64 (d : Int)) ∧ w'.cell? ⟨b0, 3, none⟩ = some (.bool g)) (by kernel_rfl) ?_ (fun hHeld => ?_)
  · (try dsimp only); (refine ⟨?_, ?_, ?_, ?_⟩ <;> (repeat (first | with_reducible assumption | with_reducible refine keep_drew ?_ | with_reducible refine keep_below (by assumption) ?_)))
  refine wpAnyH_take (i := 1) (oi := { dst := some 5, op := Go.Op.fieldAddr 31 (Go.Operand.tmp 1) 0, type := 0, pos := "l54_script.go:12", after := #[], guard := none }) (v := ?_) rfl (by kernel_rfl) (by kernel_rfl) (by kernel_rfl) (fun _ _ _ h => h) (Or.inl ⟨by rfl, ?_⟩) (by assumption) ?_
  rotate_left 1
  · (intro w hSw; (try dsimp only at hSw); go_simp; try with_reducible rfl)
  (try simp only [Act.put, List.setIfInBounds_toArray, List.set_cons_zero, List.set_cons_succ])
  refine wpAnyH_take (i := 2) (oi := { dst := some 6, op := Go.Op.load 3 (Go.Operand.tmp 5), type := 3, pos := "l54_script.go:12", after := #[{ on := 1, ground := Go.Ground.data }], guard := none }) (v := ?_) rfl (by kernel_rfl) (by kernel_rfl) (by kernel_rfl) (fun _ _ _ h => h) (Or.inl ⟨by rfl, ?_⟩) (by assumption) ?_
  rotate_left 1
  · (intro w hSw; (try dsimp only at hSw); go_simp; try with_reducible rfl)
  (try simp only [Act.put, List.setIfInBounds_toArray, List.set_cons_zero, List.set_cons_succ])
  refine wpAnyH_take (i := 6) (oi := { dst := some 10, op := Go.Op.fieldAddr 31 (Go.Operand.tmp 1) 1, type := 0, pos := "l54_script.go:12", after := #[], guard := none }) (v := ?_) rfl (by kernel_rfl) (by kernel_rfl) (by kernel_rfl) (fun _ _ _ h => h) (Or.inl ⟨by rfl, ?_⟩) (by assumption) ?_
  rotate_left 1
  · (intro w hSw; (try dsimp only at hSw); go_simp; try with_reducible rfl)
  (try simp only [Act.put, List.setIfInBounds_toArray, List.set_cons_zero, List.set_cons_succ])
  refine wpAnyH_take (i := 7) (oi := { dst := some 11, op := Go.Op.load 3 (Go.Operand.tmp 10), type := 3, pos := "l54_script.go:12", after := #[{ on := 6, ground := Go.Ground.data }], guard := none }) (v := ?_) rfl (by kernel_rfl) (by kernel_rfl) (by kernel_rfl) (fun _ _ _ h => h) (Or.inl ⟨by rfl, ?_⟩) (by assumption) ?_
  rotate_left 1
  · (intro w hSw; (try dsimp only at hSw); go_simp; try with_reducible rfl)
  (try simp only [Act.put, List.setIfInBounds_toArray, List.set_cons_zero, List.set_cons_succ])
  refine wpAnyH_ready (rs := [0]) (by kernel_rfl) (by simp) ?_
  refine AllReadyH.cons (o := { dst := some 4, op := Go.Op.call { callee := Go.Callee.value (Go.Operand.func 16), args := #[], argTypes := #[] }, type := 28, pos := "l54_script.go:12", after := #[], guard := none }) rfl (fun K hK => ?_) (AllReadyH.nil)
  go_simp
  refine (kinds_any _).mono ?_
  rintro e w1 ⟨rfl, b1, q1⟩
  have q2 : w1.cell? ⟨W0.heap.size, m, none⟩ = some (.string x3) := q1 m x3 hx3
  clear q1
  go_wp2_with fail
  refine hK.out _ _ ?_ (fun hHeld => ?_)
  · (try dsimp only); (refine ⟨?_, ?_, ?_, ?_⟩ <;> (repeat (first | with_reducible assumption | with_reducible refine keep_drew ?_ | with_reducible refine keep_below (by assumption) ?_)))
  clear hK K
  (try simp only [Act.put, List.setIfInBounds_toArray, List.set_cons_zero, List.set_cons_succ])
  refine wpAnyH_take (i := 3) (oi := { dst := some 7, op := Go.Op.indexAddr 28 (Go.Operand.tmp 4) (Go.Operand.tmp 6), type := 0, pos := "l54_script.go:12", after := #[{ on := 0, ground := Go.Ground.data }, { on := 2, ground := Go.Ground.data }], guard := none }) (v := ?_) rfl (by kernel_rfl) (by kernel_rfl) (by kernel_rfl) (fun _ _ _ h => h) (Or.inl ⟨by rfl, ?_⟩) (by assumption) ?_
  rotate_left 1
  · (intro w hSw; (try dsimp only at hSw); go_simp; try with_reducible rfl)
  (try simp only [Act.put, List.setIfInBounds_toArray, List.set_cons_zero, List.set_cons_succ])
  refine wpAnyH_ready (rs := [4, 8]) (by kernel_rfl) (by simp) ?_
  refine AllReadyH.cons (o := { dst := some 8, op := Go.Op.load 9 (Go.Operand.tmp 7), type := 9, pos := "l54_script.go:12", after := #[{ on := 3, ground := Go.Ground.data }], guard := none }) rfl (fun K hK => ?_) (AllReadyH.cons (o := { dst := some 12, op := Go.Op.call { callee := Go.Callee.value (Go.Operand.func 17), args := #[Go.Operand.tmp 11], argTypes := #[3] }, type := 9, pos := "l54_script.go:12", after := #[{ on := 7, ground := Go.Ground.data }, { on := 0, ground := Go.Ground.chain }], guard := none }) rfl (fun K hK => ?_) (AllReadyH.nil))
  · go_simp
    refine hK.out _ _ ?_ (fun hHeld => ?_)
    · (try dsimp only); (refine ⟨?_, ?_, ?_, ?_⟩ <;> (repeat (first | with_reducible assumption | with_reducible refine keep_drew ?_ | with_reducible refine keep_below (by assumption) ?_)))
    clear hK K
    (try simp only [Act.put, List.setIfInBounds_toArray, List.set_cons_zero, List.set_cons_succ])
    refine wpAnyH_take (i := 5) (oi := { dst := some 9, op := Go.Op.binOp Go.BinOp.add 9 (Go.Operand.tmp 8) (Go.Operand.const (Go.Value.string { data := #[32] })) 9, type := 9, pos := "l54_script.go:12", after := #[{ on := 4, ground := Go.Ground.data }], guard := none }) (v := ?_) rfl (by kernel_rfl) (by kernel_rfl) (by kernel_rfl) (fun _ _ _ h => h) (Or.inl ⟨by rfl, ?_⟩) (by assumption) ?_
    rotate_left 1
    · (intro w hSw; (try dsimp only at hSw); go_simp; try with_reducible rfl)
    (try simp only [Act.put, List.setIfInBounds_toArray, List.set_cons_zero, List.set_cons_succ])
    refine wpAnyH_ready (rs := [8]) (by kernel_rfl) (by simp) ?_
    refine AllReadyH.cons (o := { dst := some 12, op := Go.Op.call { callee := Go.Callee.value (Go.Operand.func 17), args := #[Go.Operand.tmp 11], argTypes := #[3] }, type := 9, pos := "l54_script.go:12", after := #[{ on := 7, ground := Go.Ground.data }, { on := 0, ground := Go.Ground.chain }], guard := none }) rfl (fun K hK => ?_) (AllReadyH.nil)
    go_simp
    refine (hdec.out _).mono ?_
    rintro e w2 ⟨rfl, b2⟩
    go_wp2_with fail
    refine hK.out _ _ ?_ (fun hHeld => ?_)
    · (try dsimp only); (refine ⟨?_, ?_, ?_, ?_⟩ <;> (repeat (first | with_reducible assumption | with_reducible refine keep_drew ?_ | with_reducible refine keep_below (by assumption) ?_)))
    clear hK K
    (try simp only [Act.put, List.setIfInBounds_toArray, List.set_cons_zero, List.set_cons_succ])
    refine wpAnyH_take (i := 9) (oi := { dst := some 13, op := Go.Op.binOp Go.BinOp.add 9 (Go.Operand.tmp 9) (Go.Operand.tmp 12) 9, type := 9, pos := "l54_script.go:12", after := #[{ on := 5, ground := Go.Ground.data }, { on := 8, ground := Go.Ground.data }], guard := none }) (v := ?_) rfl (by kernel_rfl) (by kernel_rfl) (by kernel_rfl) (fun _ _ _ h => h) (Or.inl ⟨by rfl, ?_⟩) (by assumption) ?_
    rotate_left 1
    · (intro w hSw; (try dsimp only at hSw); go_simp; try with_reducible rfl)
    (try simp only [Act.put, List.setIfInBounds_toArray, List.set_cons_zero, List.set_cons_succ])
    refine wpAnyH_take (i := 10) (oi := { dst := some 3, op := Go.Op.assign (Go.Operand.tmp 13), type := 9, pos := "l54_script.go:12", after := #[{ on := 9, ground := Go.Ground.data }, { on := 8, ground := Go.Ground.chain }, { on := 0, ground := Go.Ground.phase }, { on := 1, ground := Go.Ground.phase }, { on := 2, ground := Go.Ground.phase }, { on := 3, ground := Go.Ground.phase }, { on := 4, ground := Go.Ground.phase }, { on := 5, ground := Go.Ground.phase }, { on := 6, ground := Go.Ground.phase }, { on := 7, ground := Go.Ground.phase }, { on := 8, ground := Go.Ground.phase }, { on := 9, ground := Go.Ground.phase }], guard := none }) (v := ?_) rfl (by kernel_rfl) (by kernel_rfl) (by kernel_rfl) (fun _ _ _ h => h) (Or.inl ⟨by rfl, ?_⟩) (by assumption) ?_
    rotate_left 1
    · (intro w hSw; (try dsimp only at hSw); go_simp; try with_reducible rfl)
    (try simp only [Act.put, List.setIfInBounds_toArray, List.set_cons_zero, List.set_cons_succ])
    refine wpAnyH_done (by kernel_rfl) ?_ _
    have B2 : Below w.heap.size w w2 := btrans (btrans b0d b1) b2
    have d2 := keep_below b2 (keep_below b1 (keep_drew c2))
    have d3 := keep_below b2 (keep_below b1 (keep_drew c3))
    clear hHeld b1 b2 b0d c0 c1 c2 c3 q2
    cases g
    · by_cases hs : d = 0
      · subst hs
        have e2 : Hid _ := E1.out rfl rfl
        have g0 : ¬ (0 : Int) < ((0 : Nat) : Int) := by omega
        clear E1 E2 E3 hdec hdec2 hx3
        go_wp2
        go_ret
        exact ⟨by rw [e2.out]; rfl, B2⟩
      · have e2 : Hid _ := E2.out rfl (by omega)
        have g0 : (0 : Int) < (d : Int) := by omega
        clear E1 E2 E3 hdec hx3
        go_wp2_with fail
        refine (hdec2.out _).mono ?_
        rintro e w3 ⟨rfl, b3⟩
        have B3 := btrans B2 b3
        clear b3 B2 d2 d3
        go_wp2
        go_ret
        exact ⟨by rw [e2.out]; rfl, B3⟩
    · have e2 : Hid _ := E3.out rfl
      clear E1 E2 E3 hdec hdec2 hx3
      go_wp2
      go_ret
      exact ⟨by rw [e2.out]; rfl, B2⟩
  · go_simp
    refine (hdec.out _).mono ?_
    rintro e w2 ⟨rfl, b2⟩
    go_wp2_with fail
    refine hK.out _ _ ?_ (fun hHeld => ?_)
    · (try dsimp only); (refine ⟨?_, ?_, ?_, ?_⟩ <;> (repeat (first | with_reducible assumption | with_reducible refine keep_drew ?_ | with_reducible refine keep_below (by assumption) ?_)))
    clear hK K
    (try simp only [Act.put, List.setIfInBounds_toArray, List.set_cons_zero, List.set_cons_succ])
    have q3 := keep_below b2 q2
    refine wpAnyH_ready (rs := [4]) (by kernel_rfl) (by simp) ?_
    refine AllReadyH.cons (o := { dst := some 8, op := Go.Op.load 9 (Go.Operand.tmp 7), type := 9, pos := "l54_script.go:12", after := #[{ on := 3, ground := Go.Ground.data }], guard := none }) rfl (fun K hK => ?_) (AllReadyH.nil)
    go_simp
    refine hK.out _ _ ?_ (fun hHeld => ?_)
    · (try dsimp only); (refine ⟨?_, ?_, ?_, ?_⟩ <;> (repeat (first | with_reducible assumption | with_reducible refine keep_drew ?_ | with_reducible refine keep_below (by assumption) ?_)))
    clear hK K
    (try simp only [Act.put, List.setIfInBounds_toArray, List.set_cons_zero, List.set_cons_succ])
    refine wpAnyH_take (i := 5) (oi := { dst := some 9, op := Go.Op.binOp Go.BinOp.add 9 (Go.Operand.tmp 8) (Go.Operand.const (Go.Value.string { data := #[32] })) 9, type := 9, pos := "l54_script.go:12", after := #[{ on := 4, ground := Go.Ground.data }], guard := none }) (v := ?_) rfl (by kernel_rfl) (by kernel_rfl) (by kernel_rfl) (fun _ _ _ h => h) (Or.inl ⟨by rfl, ?_⟩) (by assumption) ?_
    rotate_left 1
    · (intro w hSw; (try dsimp only at hSw); go_simp; try with_reducible rfl)
    (try simp only [Act.put, List.setIfInBounds_toArray, List.set_cons_zero, List.set_cons_succ])
    refine wpAnyH_take (i := 9) (oi := { dst := some 13, op := Go.Op.binOp Go.BinOp.add 9 (Go.Operand.tmp 9) (Go.Operand.tmp 12) 9, type := 9, pos := "l54_script.go:12", after := #[{ on := 5, ground := Go.Ground.data }, { on := 8, ground := Go.Ground.data }], guard := none }) (v := ?_) rfl (by kernel_rfl) (by kernel_rfl) (by kernel_rfl) (fun _ _ _ h => h) (Or.inl ⟨by rfl, ?_⟩) (by assumption) ?_
    rotate_left 1
    · (intro w hSw; (try dsimp only at hSw); go_simp; try with_reducible rfl)
    (try simp only [Act.put, List.setIfInBounds_toArray, List.set_cons_zero, List.set_cons_succ])
    refine wpAnyH_take (i := 10) (oi := { dst := some 3, op := Go.Op.assign (Go.Operand.tmp 13), type := 9, pos := "l54_script.go:12", after := #[{ on := 9, ground := Go.Ground.data }, { on := 8, ground := Go.Ground.chain }, { on := 0, ground := Go.Ground.phase }, { on := 1, ground := Go.Ground.phase }, { on := 2, ground := Go.Ground.phase }, { on := 3, ground := Go.Ground.phase }, { on := 4, ground := Go.Ground.phase }, { on := 5, ground := Go.Ground.phase }, { on := 6, ground := Go.Ground.phase }, { on := 7, ground := Go.Ground.phase }, { on := 8, ground := Go.Ground.phase }, { on := 9, ground := Go.Ground.phase }], guard := none }) (v := ?_) rfl (by kernel_rfl) (by kernel_rfl) (by kernel_rfl) (fun _ _ _ h => h) (Or.inl ⟨by rfl, ?_⟩) (by assumption) ?_
    rotate_left 1
    · (intro w hSw; (try dsimp only at hSw); go_simp; try with_reducible rfl)
    (try simp only [Act.put, List.setIfInBounds_toArray, List.set_cons_zero, List.set_cons_succ])
    refine wpAnyH_done (by kernel_rfl) ?_ _
    clear q3
    have B2 : Below w.heap.size w w2 := btrans (btrans b0d b1) b2
    have d2 := keep_below b2 (keep_below b1 (keep_drew c2))
    have d3 := keep_below b2 (keep_below b1 (keep_drew c3))
    clear hHeld b1 b2 b0d c0 c1 c2 c3 q2
    cases g
    · by_cases hs : d = 0
      · subst hs
        have e2 : Hid _ := E1.out rfl rfl
        have g0 : ¬ (0 : Int) < ((0 : Nat) : Int) := by omega
        clear E1 E2 E3 hdec hdec2 hx3
        go_wp2
        go_ret
        exact ⟨by rw [e2.out]; rfl, B2⟩
      · have e2 : Hid _ := E2.out rfl (by omega)
        have g0 : (0 : Int) < (d : Int) := by omega
        clear E1 E2 E3 hdec hx3
        go_wp2_with fail
        refine (hdec2.out _).mono ?_
        rintro e w3 ⟨rfl, b3⟩
        have B3 := btrans B2 b3
        clear b3 B2 d2 d3
        go_wp2
        go_ret
        exact ⟨by rw [e2.out]; rfl, B3⟩
    · have e2 : Hid _ := E3.out rfl
      clear E1 E2 E3 hdec hdec2 hx3
      go_wp2
      go_ret
      exact ⟨by rw [e2.out]; rfl, B2⟩
end Go.Proofs.YtlebggbbhkiokaaGreatDoor
