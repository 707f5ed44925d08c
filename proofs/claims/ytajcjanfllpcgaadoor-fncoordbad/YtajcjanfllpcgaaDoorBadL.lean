/- What cannot be changes nothing: the law, walked. -/
import Derived.Test.YtajcjanfllpcgaaDoorDrawMove
import Derived.Test.YtajcjanfllpcgaaDoorExMove
import Derived.Test.YtajcjanfllpcgaaDoorMoves
namespace Go.Proofs.YtajcjanfllpcgaaDoor
open Go.ChangeShapes Go.WideShapes Go.ChangeAt Go.RowKit
attribute [local go_sem ↓] Go.wp_at_zero Go.wp_at_succ
theorem sq_bd (t : Int) (h : -1 ≤ t ∧ t ≤ 60001) : 0 ≤ t * t ∧ t * t ≤ 3600120001 := by
  by_cases h0 : 0 ≤ t
  · exact ⟨Int.mul_nonneg h0 h0, Int.le_trans (Int.mul_le_mul h.2 h.2 h0 (by omega)) (by omega)⟩
  · obtain rfl : t = -1 := by omega
    omega
theorem stay_e (bx b_y bh trip : Int) : (cok bx b_y bh 0 && inb trip 1 60000) = false := by
  have : cok bx b_y bh 0 = false := by unfold cok; rw [show inb 0 1 1500 = false by decide, Bool.and_false]
  rw [this, Bool.false_and]
theorem stay_t (bx b_y bh be t : Int) (h : t < 1 ∨ 60000 < t) : (cok bx b_y bh be && inb t 1 60000) = false := by
  have : inb t 1 60000 = false := by
    unfold inb
    rcases h with h | h
    · rw [decide_eq_false (by omega : ¬ 1 ≤ t), Bool.false_and]
    · rw [decide_eq_false (by omega : ¬ t ≤ 60000), Bool.and_false]
  rw [this, Bool.and_false]
set_option maxRecDepth 10000 in
set_option maxHeartbeats 8000000 in
theorem bad_walk (a : Option Addr) (len cap : Nat) (w : World) (h : Bytes w.heap.size w a len) (hl : len ≤ cap) (hm : len ≤ maxLen) (ht : Turns w) :
    Calls Tryd.prog 4 #[.slice a len cap] w fun e w' => e = .returned (.bool true) ∧ Below w.heap.size w w' := by
  unfold maxLen at hm
  by_cases hlen : 1048576 < len
  · go_enter Tryd.func4, Tryd.ntmps4
    go_wp2
    go_ret
    exact ⟨rfl, Below.refl _ _⟩
  go_enter Tryd.func4, Tryd.ntmps4
  go_wp2_with fail
  refine (drawMove_any a len cap _ h hl).mono ?_
  rintro r w1 ⟨ax, ay, ah, ae, bx, b_y, bh, be, trip, turn, rfl, htrip, hturn, b1⟩
  have b2 := balloc (.cells #[.int .i64 bx, .int .i64 b_y, .int .i64 bh, .int .i64 be] 24) (balloc (.cells #[.int .i64 ax, .int .i64 ay, .int .i64 ah, .int .i64 ae] 24) b1)
  go_wp2_with fail
  have P0 : ((w1.alloc (.cells #[.int .i64 ax, .int .i64 ay, .int .i64 ah, .int .i64 ae] 24)).alloc (.cells #[.int .i64 bx, .int .i64 b_y, .int .i64 bh, .int .i64 be] 24)).cell? ⟨w1.heap.size, 0, none⟩ = some (.int .i64 ax) := by simp [go_sem]
  have P1 : ((w1.alloc (.cells #[.int .i64 ax, .int .i64 ay, .int .i64 ah, .int .i64 ae] 24)).alloc (.cells #[.int .i64 bx, .int .i64 b_y, .int .i64 bh, .int .i64 be] 24)).cell? ⟨w1.heap.size, 1, none⟩ = some (.int .i64 ay) := by simp [go_sem]
  have P2 : ((w1.alloc (.cells #[.int .i64 ax, .int .i64 ay, .int .i64 ah, .int .i64 ae] 24)).alloc (.cells #[.int .i64 bx, .int .i64 b_y, .int .i64 bh, .int .i64 be] 24)).cell? ⟨w1.heap.size, 2, none⟩ = some (.int .i64 ah) := by simp [go_sem]
  have P3 : ((w1.alloc (.cells #[.int .i64 ax, .int .i64 ay, .int .i64 ah, .int .i64 ae] 24)).alloc (.cells #[.int .i64 bx, .int .i64 b_y, .int .i64 bh, .int .i64 be] 24)).cell? ⟨w1.heap.size, 3, none⟩ = some (.int .i64 ae) := by simp [go_sem]
  have Q0 : ((w1.alloc (.cells #[.int .i64 ax, .int .i64 ay, .int .i64 ah, .int .i64 ae] 24)).alloc (.cells #[.int .i64 bx, .int .i64 b_y, .int .i64 bh, .int .i64 be] 24)).cell? ⟨w1.heap.size + 1, 0, none⟩ = some (.int .i64 bx) := by simp [go_sem]
  have Q1 : ((w1.alloc (.cells #[.int .i64 ax, .int .i64 ay, .int .i64 ah, .int .i64 ae] 24)).alloc (.cells #[.int .i64 bx, .int .i64 b_y, .int .i64 bh, .int .i64 be] 24)).cell? ⟨w1.heap.size + 1, 1, none⟩ = some (.int .i64 b_y) := by simp [go_sem]
  have Q2 : ((w1.alloc (.cells #[.int .i64 ax, .int .i64 ay, .int .i64 ah, .int .i64 ae] 24)).alloc (.cells #[.int .i64 bx, .int .i64 b_y, .int .i64 bh, .int .i64 be] 24)).cell? ⟨w1.heap.size + 1, 2, none⟩ = some (.int .i64 bh) := by simp [go_sem]
  have Q3 : ((w1.alloc (.cells #[.int .i64 ax, .int .i64 ay, .int .i64 ah, .int .i64 ae] 24)).alloc (.cells #[.int .i64 bx, .int .i64 b_y, .int .i64 bh, .int .i64 be] 24)).cell? ⟨w1.heap.size + 1, 3, none⟩ = some (.int .i64 be) := by simp [go_sem]
  generalize ((w1.alloc (.cells #[.int .i64 ax, .int .i64 ay, .int .i64 ah, .int .i64 ae] 24)).alloc (.cells #[.int .i64 bx, .int .i64 b_y, .int .i64 bh, .int .i64 be] 24)) = W at *
  generalize w1.heap.size + 1 = KB at *
  generalize w1.heap.size = KA at *
  have T1 := turns_below ht b2
  clear b1
  obtain ⟨X, Y, H, E, hS, hF, hcok⟩ := moves2 ax ay ah ae bx b_y bh be trip turn
  refine (hF _ T1).mono ?_
  rintro r w2 ⟨rfl, b3⟩
  replace P0 := keep_below b3 (P0)
  replace P1 := keep_below b3 (P1)
  replace P2 := keep_below b3 (P2)
  replace P3 := keep_below b3 (P3)
  replace Q0 := keep_below b3 (Q0)
  replace Q1 := keep_below b3 (Q1)
  replace Q2 := keep_below b3 (Q2)
  replace Q3 := keep_below b3 (Q3)
  replace P0 := keep_alloc (.cells #[.int .i64 X, .int .i64 Y, .int .i64 H, .int .i64 E] 24) P0
  replace P1 := keep_alloc (.cells #[.int .i64 X, .int .i64 Y, .int .i64 H, .int .i64 E] 24) P1
  replace P2 := keep_alloc (.cells #[.int .i64 X, .int .i64 Y, .int .i64 H, .int .i64 E] 24) P2
  replace P3 := keep_alloc (.cells #[.int .i64 X, .int .i64 Y, .int .i64 H, .int .i64 E] 24) P3
  replace Q0 := keep_alloc (.cells #[.int .i64 X, .int .i64 Y, .int .i64 H, .int .i64 E] 24) Q0
  replace Q1 := keep_alloc (.cells #[.int .i64 X, .int .i64 Y, .int .i64 H, .int .i64 E] 24) Q1
  replace Q2 := keep_alloc (.cells #[.int .i64 X, .int .i64 Y, .int .i64 H, .int .i64 E] 24) Q2
  replace Q3 := keep_alloc (.cells #[.int .i64 X, .int .i64 Y, .int .i64 H, .int .i64 E] 24) Q3
  have B3 := balloc (.cells #[.int .i64 X, .int .i64 Y, .int .i64 H, .int .i64 E] 24) (btrans b2 b3)
  have T2 := turns_below ht B3
  go_wp2_with fail
  have R0 : (w2.alloc (.cells #[.int .i64 X, .int .i64 Y, .int .i64 H, .int .i64 E] 24)).cell? ⟨w2.heap.size, 0, none⟩ = some (.int .i64 X) := by simp [go_sem]
  have R1 : (w2.alloc (.cells #[.int .i64 X, .int .i64 Y, .int .i64 H, .int .i64 E] 24)).cell? ⟨w2.heap.size, 1, none⟩ = some (.int .i64 Y) := by simp [go_sem]
  have R2 : (w2.alloc (.cells #[.int .i64 X, .int .i64 Y, .int .i64 H, .int .i64 E] 24)).cell? ⟨w2.heap.size, 2, none⟩ = some (.int .i64 H) := by simp [go_sem]
  have R3 : (w2.alloc (.cells #[.int .i64 X, .int .i64 Y, .int .i64 H, .int .i64 E] 24)).cell? ⟨w2.heap.size, 3, none⟩ = some (.int .i64 E) := by simp [go_sem]
  generalize (w2.alloc (.cells #[.int .i64 X, .int .i64 Y, .int .i64 H, .int .i64 E] 24)) = W2 at *
  generalize w2.heap.size = KC at *
  clear b2 b3 T1
  obtain ⟨cc, hcc0⟩ : ∃ b, cok ax ay ah ae = b := ⟨_, rfl⟩
  have hcc : Hid (cok ax ay ah ae = cc) := hcc0
  have s0 := sq_bd trip htrip
  clear hcc0 hcok hF T2
  cases cc
  · skip
    refine wp_region_held_drew (S := (fun w' => w'.cell? ⟨KA, 0, none⟩ = some (.int .i64 ax) ∧ w'.cell? ⟨KA, 1, none⟩ = some (.int .i64 ay) ∧ w'.cell? ⟨KA, 2, none⟩ = some (.int .i64 ah) ∧ w'.cell? ⟨KA, 3, none⟩ = some (.int .i64 ae) ∧ w'.cell? ⟨KB, 0, none⟩ = some (.int .i64 bx) ∧ w'.cell? ⟨KB, 1, none⟩ = some (.int .i64 b_y) ∧ w'.cell? ⟨KB, 2, none⟩ = some (.int .i64 bh) ∧ w'.cell? ⟨KB, 3, none⟩ = some (.int .i64 be) ∧ w'.cell? ⟨KC, 0, none⟩ = some (.int .i64 X) ∧ w'.cell? ⟨KC, 1, none⟩ = some (.int .i64 Y) ∧ w'.cell? ⟨KC, 2, none⟩ = some (.int .i64 H) ∧ w'.cell? ⟨KC, 3, none⟩ = some (.int .i64 E))) (by kernel_rfl) ?_ (fun hHeld => ?_)
    · (try dsimp only); (refine ⟨?_, ?_, ?_, ?_, ?_, ?_, ?_, ?_, ?_, ?_, ?_, ?_⟩ <;> (repeat (first | with_reducible assumption | with_reducible refine keep_drew ?_ | with_reducible refine keep_below (by assumption) ?_)))
    refine wpAnyH_take (i := 0) (oi := { dst := some 24, op := Go.Op.load 24 (Go.Operand.tmp 7), type := 24, pos := "laws.go:149", after := #[], guard := none }) (v := ?_) rfl (by kernel_rfl) (by kernel_rfl) (by kernel_rfl) (fun _ _ _ h => h) (Or.inl ⟨by rfl, ?_⟩) (by assumption) ?_
    rotate_left 1
    · (intro w hSw; (try dsimp only at hSw); go_simp; try with_reducible rfl)
    (try simp only [Act.put, List.setIfInBounds_toArray, List.set_cons_zero, List.set_cons_succ])
    refine wpAnyH_take (i := 1) (oi := { dst := some 25, op := Go.Op.load 24 (Go.Operand.tmp 3), type := 24, pos := "laws.go:149", after := #[], guard := none }) (v := ?_) rfl (by kernel_rfl) (by kernel_rfl) (by kernel_rfl) (fun _ _ _ h => h) (Or.inl ⟨by rfl, ?_⟩) (by assumption) ?_
    rotate_left 1
    · (intro w hSw; (try dsimp only at hSw); go_simp; try with_reducible rfl)
    (try simp only [Act.put, List.setIfInBounds_toArray, List.set_cons_zero, List.set_cons_succ])
    refine wpAnyH_take (i := 2) (oi := { dst := some 26, op := Go.Op.load 24 (Go.Operand.tmp 4), type := 24, pos := "laws.go:149", after := #[], guard := none }) (v := ?_) rfl (by kernel_rfl) (by kernel_rfl) (by kernel_rfl) (fun _ _ _ h => h) (Or.inl ⟨by rfl, ?_⟩) (by assumption) ?_
    rotate_left 1
    · (intro w hSw; (try dsimp only at hSw); go_simp; try with_reducible rfl)
    (try simp only [Act.put, List.setIfInBounds_toArray, List.set_cons_zero, List.set_cons_succ])
    refine wpAnyH_take (i := 3) (oi := { dst := some 27, op := Go.Op.move (Go.Operand.tmp 5), type := 3, pos := "laws.go:149", after := #[], guard := none }) (v := ?_) rfl (by kernel_rfl) (by kernel_rfl) (by kernel_rfl) (fun _ _ _ h => h) (Or.inl ⟨by rfl, ?_⟩) (by assumption) ?_
    rotate_left 1
    · (intro w hSw; (try dsimp only at hSw); go_simp; try with_reducible rfl)
    (try simp only [Act.put, List.setIfInBounds_toArray, List.set_cons_zero, List.set_cons_succ])
    refine wpAnyH_take (i := 4) (oi := { dst := some 28, op := Go.Op.move (Go.Operand.tmp 6), type := 3, pos := "laws.go:149", after := #[], guard := none }) (v := ?_) rfl (by kernel_rfl) (by kernel_rfl) (by kernel_rfl) (fun _ _ _ h => h) (Or.inl ⟨by rfl, ?_⟩) (by assumption) ?_
    rotate_left 1
    · (intro w hSw; (try dsimp only at hSw); go_simp; try with_reducible rfl)
    (try simp only [Act.put, List.setIfInBounds_toArray, List.set_cons_zero, List.set_cons_succ])
    refine wpAnyH_ready (rs := [5]) (by kernel_rfl) (by simp) ?_
    refine AllReadyH.cons (o := { dst := some 29, op := Go.Op.call { callee := Go.Callee.value (Go.Operand.func 11), args := #[Go.Operand.tmp 25, Go.Operand.tmp 26, Go.Operand.tmp 27, Go.Operand.tmp 28], argTypes := #[24, 24, 3, 3] }, type := 24, pos := "laws.go:149", after := #[{ on := 1, ground := Go.Ground.data }, { on := 2, ground := Go.Ground.data }, { on := 3, ground := Go.Ground.data }, { on := 4, ground := Go.Ground.data }], guard := none }) rfl (fun K hK => ?_) AllReadyH.nil
    go_simp
    (refine (hS _).mono ?_; rintro e w11 ⟨rfl, b11⟩)
    go_wp2_with fail
    refine hK.out _ _ ?_ (fun hHeld => ?_)
    · (try dsimp only); (refine ⟨?_, ?_, ?_, ?_, ?_, ?_, ?_, ?_, ?_, ?_, ?_, ?_⟩ <;> (repeat (first | with_reducible assumption | with_reducible refine keep_drew ?_ | with_reducible refine keep_below (by assumption) ?_)))
    clear hK K
    (try simp only [Act.put, List.setIfInBounds_toArray, List.set_cons_zero, List.set_cons_succ])
    refine wpAnyH_take (i := 6) (oi := { dst := some 30, op := Go.Op.binOp Go.BinOp.neq 24 (Go.Operand.tmp 24) (Go.Operand.tmp 29) 24, type := 4, pos := "laws.go:149", after := #[{ on := 0, ground := Go.Ground.data }, { on := 5, ground := Go.Ground.data }], guard := none }) (v := ?_) rfl (by kernel_rfl) (by kernel_rfl) (by kernel_rfl) (fun _ _ _ h => h) (Or.inl ⟨by rfl, ?_⟩) (by assumption) ?_
    rotate_left 1
    · (intro w hSw; (try dsimp only at hSw); go_simp; try with_reducible rfl)
    (try simp only [Act.put, List.setIfInBounds_toArray, List.set_cons_zero, List.set_cons_succ])
    refine wpAnyH_take (i := 7) (oi := { dst := some 31, op := Go.Op.move (Go.Operand.tmp 30), type := 4, pos := "laws.go:149", after := #[{ on := 6, ground := Go.Ground.data }, { on := 5, ground := Go.Ground.chain }], guard := none }) (v := ?_) rfl (by kernel_rfl) (by kernel_rfl) (by kernel_rfl) (fun _ _ _ h => h) (Or.inl ⟨by rfl, ?_⟩) (by assumption) ?_
    rotate_left 1
    · (intro w hSw; (try dsimp only at hSw); go_simp; try with_reducible rfl)
    (try simp only [Act.put, List.setIfInBounds_toArray, List.set_cons_zero, List.set_cons_succ])
    refine wpAnyH_take (i := 8) (oi := { dst := some 32, op := Go.Op.load 24 (Go.Operand.tmp 3), type := 24, pos := "laws.go:149", after := #[{ on := 7, ground := Go.Ground.guard }], guard := some (7, false) }) (v := ?_) rfl (by kernel_rfl) (by kernel_rfl) (by kernel_rfl) (fun _ _ _ h => h) (Or.inl ⟨by rfl, ?_⟩) (by assumption) ?_
    rotate_left 1
    · (intro w hSw; (try dsimp only at hSw); go_simp; try with_reducible rfl)
    (try simp only [Act.put, List.setIfInBounds_toArray, List.set_cons_zero, List.set_cons_succ])
    refine wpAnyH_ready (rs := [9]) (by kernel_rfl) (by simp) ?_
    refine AllReadyH.cons (o := { dst := some 33, op := Go.Op.call { callee := Go.Callee.value (Go.Operand.func 13), args := #[Go.Operand.tmp 32], argTypes := #[24] }, type := 4, pos := "laws.go:149", after := #[{ on := 8, ground := Go.Ground.data }, { on := 7, ground := Go.Ground.chain }, { on := 7, ground := Go.Ground.guard }], guard := some (7, false) }) rfl (fun K hK => ?_) AllReadyH.nil
    go_simp
    (refine (sok_lit ax ay ah ae false hcc.out _).mono ?_; rintro e w12 ⟨rfl, b12⟩)
    go_wp2_with fail
    refine hK.out _ _ ?_ (fun hHeld => ?_)
    · (try dsimp only); (refine ⟨?_, ?_, ?_, ?_, ?_, ?_, ?_, ?_, ?_, ?_, ?_, ?_⟩ <;> (repeat (first | with_reducible assumption | with_reducible refine keep_drew ?_ | with_reducible refine keep_below (by assumption) ?_)))
    clear hK K
    (try simp only [Act.put, List.setIfInBounds_toArray, List.set_cons_zero, List.set_cons_succ])
    refine wpAnyH_take (i := 10) (oi := { dst := some 34, op := Go.Op.unOp Go.UnOp.not 4 (Go.Operand.tmp 33), type := 4, pos := "laws.go:149", after := #[{ on := 9, ground := Go.Ground.data }, { on := 7, ground := Go.Ground.guard }], guard := some (7, false) }) (v := ?_) rfl (by kernel_rfl) (by kernel_rfl) (by kernel_rfl) (fun _ _ _ h => h) (Or.inl ⟨by rfl, ?_⟩) (by assumption) ?_
    rotate_left 1
    · (intro w hSw; (try dsimp only at hSw); go_simp; try with_reducible rfl)
    (try simp only [Act.put, List.setIfInBounds_toArray, List.set_cons_zero, List.set_cons_succ])
    refine wpAnyH_take (i := 11) (oi := { dst := some 35, op := Go.Op.pick (Go.Operand.tmp 31) (Go.Operand.const (Go.Value.bool true)) (Go.Operand.tmp 34), type := 4, pos := "laws.go:149", after := #[{ on := 7, ground := Go.Ground.data }, { on := 10, ground := Go.Ground.data }], guard := none }) (v := ?_) rfl (by kernel_rfl) (by kernel_rfl) (by kernel_rfl) (fun _ _ _ h => h) (Or.inl ⟨by rfl, ?_⟩) (by assumption) ?_
    rotate_left 1
    · (intro w hSw; (try dsimp only at hSw); go_simp; try with_reducible rfl)
    (try simp only [Act.put, List.setIfInBounds_toArray, List.set_cons_zero, List.set_cons_succ])
    refine wpAnyH_done (by kernel_rfl) ?_ _
    replace P0 := keep_below b12 (keep_below b11 (keep_drew (P0)))
    replace P1 := keep_below b12 (keep_below b11 (keep_drew (P1)))
    replace P2 := keep_below b12 (keep_below b11 (keep_drew (P2)))
    replace P3 := keep_below b12 (keep_below b11 (keep_drew (P3)))
    replace Q0 := keep_below b12 (keep_below b11 (keep_drew (Q0)))
    replace Q1 := keep_below b12 (keep_below b11 (keep_drew (Q1)))
    replace Q2 := keep_below b12 (keep_below b11 (keep_drew (Q2)))
    replace Q3 := keep_below b12 (keep_below b11 (keep_drew (Q3)))
    replace R0 := keep_below b12 (keep_below b11 (keep_drew (R0)))
    replace R1 := keep_below b12 (keep_below b11 (keep_drew (R1)))
    replace R2 := keep_below b12 (keep_below b11 (keep_drew (R2)))
    replace R3 := keep_below b12 (keep_below b11 (keep_drew (R3)))
    have B4 := btrans (btrans B3.drew b11) b12
    clear b11 b12 B3 hHeld
    go_wp2_with fail
    refine wp_region_held_drew (S := (fun w' => w'.cell? ⟨KA, 0, none⟩ = some (.int .i64 ax) ∧ w'.cell? ⟨KA, 1, none⟩ = some (.int .i64 ay) ∧ w'.cell? ⟨KA, 2, none⟩ = some (.int .i64 ah) ∧ w'.cell? ⟨KA, 3, none⟩ = some (.int .i64 ae) ∧ w'.cell? ⟨KB, 0, none⟩ = some (.int .i64 bx) ∧ w'.cell? ⟨KB, 1, none⟩ = some (.int .i64 b_y) ∧ w'.cell? ⟨KB, 2, none⟩ = some (.int .i64 bh) ∧ w'.cell? ⟨KB, 3, none⟩ = some (.int .i64 be) ∧ w'.cell? ⟨KC, 0, none⟩ = some (.int .i64 X) ∧ w'.cell? ⟨KC, 1, none⟩ = some (.int .i64 Y) ∧ w'.cell? ⟨KC, 2, none⟩ = some (.int .i64 H) ∧ w'.cell? ⟨KC, 3, none⟩ = some (.int .i64 E))) (by kernel_rfl) ?_ (fun hHeld => ?_)
    · (try dsimp only); (refine ⟨?_, ?_, ?_, ?_, ?_, ?_, ?_, ?_, ?_, ?_, ?_, ?_⟩ <;> (repeat (first | with_reducible assumption | with_reducible refine keep_drew ?_ | with_reducible refine keep_below (by assumption) ?_)))
    refine wpAnyH_take (i := 0) (oi := { dst := some 36, op := Go.Op.load 24 (Go.Operand.tmp 7), type := 24, pos := "laws.go:150", after := #[], guard := none }) (v := ?_) rfl (by kernel_rfl) (by kernel_rfl) (by kernel_rfl) (fun _ _ _ h => h) (Or.inl ⟨by rfl, ?_⟩) (by assumption) ?_
    rotate_left 1
    · (intro w hSw; (try dsimp only at hSw); go_simp; try with_reducible rfl)
    (try simp only [Act.put, List.setIfInBounds_toArray, List.set_cons_zero, List.set_cons_succ])
    refine wpAnyH_take (i := 1) (oi := { dst := some 37, op := Go.Op.load 24 (Go.Operand.tmp 3), type := 24, pos := "laws.go:150", after := #[], guard := none }) (v := ?_) rfl (by kernel_rfl) (by kernel_rfl) (by kernel_rfl) (fun _ _ _ h => h) (Or.inl ⟨by rfl, ?_⟩) (by assumption) ?_
    rotate_left 1
    · (intro w hSw; (try dsimp only at hSw); go_simp; try with_reducible rfl)
    (try simp only [Act.put, List.setIfInBounds_toArray, List.set_cons_zero, List.set_cons_succ])
    refine wpAnyH_take (i := 2) (oi := { dst := some 38, op := Go.Op.load 24 (Go.Operand.tmp 4), type := 24, pos := "laws.go:150", after := #[], guard := none }) (v := ?_) rfl (by kernel_rfl) (by kernel_rfl) (by kernel_rfl) (fun _ _ _ h => h) (Or.inl ⟨by rfl, ?_⟩) (by assumption) ?_
    rotate_left 1
    · (intro w hSw; (try dsimp only at hSw); go_simp; try with_reducible rfl)
    (try simp only [Act.put, List.setIfInBounds_toArray, List.set_cons_zero, List.set_cons_succ])
    refine wpAnyH_take (i := 3) (oi := { dst := some 39, op := Go.Op.move (Go.Operand.tmp 5), type := 3, pos := "laws.go:150", after := #[], guard := none }) (v := ?_) rfl (by kernel_rfl) (by kernel_rfl) (by kernel_rfl) (fun _ _ _ h => h) (Or.inl ⟨by rfl, ?_⟩) (by assumption) ?_
    rotate_left 1
    · (intro w hSw; (try dsimp only at hSw); go_simp; try with_reducible rfl)
    (try simp only [Act.put, List.setIfInBounds_toArray, List.set_cons_zero, List.set_cons_succ])
    refine wpAnyH_take (i := 4) (oi := { dst := some 40, op := Go.Op.move (Go.Operand.tmp 6), type := 3, pos := "laws.go:150", after := #[], guard := none }) (v := ?_) rfl (by kernel_rfl) (by kernel_rfl) (by kernel_rfl) (fun _ _ _ h => h) (Or.inl ⟨by rfl, ?_⟩) (by assumption) ?_
    rotate_left 1
    · (intro w hSw; (try dsimp only at hSw); go_simp; try with_reducible rfl)
    (try simp only [Act.put, List.setIfInBounds_toArray, List.set_cons_zero, List.set_cons_succ])
    refine wpAnyH_ready (rs := [5]) (by kernel_rfl) (by simp) ?_
    refine AllReadyH.cons (o := { dst := some 41, op := Go.Op.call { callee := Go.Callee.value (Go.Operand.func 11), args := #[Go.Operand.tmp 37, Go.Operand.tmp 38, Go.Operand.tmp 39, Go.Operand.tmp 40], argTypes := #[24, 24, 3, 3] }, type := 24, pos := "laws.go:150", after := #[{ on := 1, ground := Go.Ground.data }, { on := 2, ground := Go.Ground.data }, { on := 3, ground := Go.Ground.data }, { on := 4, ground := Go.Ground.data }], guard := none }) rfl (fun K hK => ?_) AllReadyH.nil
    go_simp
    (refine (hS _).mono ?_; rintro e w13 ⟨rfl, b13⟩)
    go_wp2_with fail
    refine hK.out _ _ ?_ (fun hHeld => ?_)
    · (try dsimp only); (refine ⟨?_, ?_, ?_, ?_, ?_, ?_, ?_, ?_, ?_, ?_, ?_, ?_⟩ <;> (repeat (first | with_reducible assumption | with_reducible refine keep_drew ?_ | with_reducible refine keep_below (by assumption) ?_)))
    clear hK K
    (try simp only [Act.put, List.setIfInBounds_toArray, List.set_cons_zero, List.set_cons_succ])
    refine wpAnyH_take (i := 6) (oi := { dst := some 42, op := Go.Op.binOp Go.BinOp.eql 24 (Go.Operand.tmp 36) (Go.Operand.tmp 41) 24, type := 4, pos := "laws.go:150", after := #[{ on := 0, ground := Go.Ground.data }, { on := 5, ground := Go.Ground.data }], guard := none }) (v := ?_) rfl (by kernel_rfl) (by kernel_rfl) (by kernel_rfl) (fun _ _ _ h => h) (Or.inl ⟨by rfl, ?_⟩) (by assumption) ?_
    rotate_left 1
    · (intro w hSw; (try dsimp only at hSw); go_simp; try with_reducible rfl)
    (try simp only [Act.put, List.setIfInBounds_toArray, List.set_cons_zero, List.set_cons_succ])
    refine wpAnyH_take (i := 7) (oi := { dst := some 2, op := Go.Op.assign (Go.Operand.tmp 42), type := 4, pos := "laws.go:150", after := #[{ on := 6, ground := Go.Ground.data }, { on := 5, ground := Go.Ground.chain }, { on := 0, ground := Go.Ground.phase }, { on := 1, ground := Go.Ground.phase }, { on := 2, ground := Go.Ground.phase }, { on := 3, ground := Go.Ground.phase }, { on := 4, ground := Go.Ground.phase }, { on := 5, ground := Go.Ground.phase }, { on := 6, ground := Go.Ground.phase }], guard := none }) (v := ?_) rfl (by kernel_rfl) (by kernel_rfl) (by kernel_rfl) (fun _ _ _ h => h) (Or.inl ⟨by rfl, ?_⟩) (by assumption) ?_
    rotate_left 1
    · (intro w hSw; (try dsimp only at hSw); go_simp; try with_reducible rfl)
    (try simp only [Act.put, List.setIfInBounds_toArray, List.set_cons_zero, List.set_cons_succ])
    refine wpAnyH_done (by kernel_rfl) ?_ _
    go_wp2
    go_ret
    exact ⟨rfl, btrans B4.drew b13⟩
  · skip
    refine wp_region_held_drew (S := (fun w' => w'.cell? ⟨KA, 0, none⟩ = some (.int .i64 ax) ∧ w'.cell? ⟨KA, 1, none⟩ = some (.int .i64 ay) ∧ w'.cell? ⟨KA, 2, none⟩ = some (.int .i64 ah) ∧ w'.cell? ⟨KA, 3, none⟩ = some (.int .i64 ae) ∧ w'.cell? ⟨KB, 0, none⟩ = some (.int .i64 bx) ∧ w'.cell? ⟨KB, 1, none⟩ = some (.int .i64 b_y) ∧ w'.cell? ⟨KB, 2, none⟩ = some (.int .i64 bh) ∧ w'.cell? ⟨KB, 3, none⟩ = some (.int .i64 be) ∧ w'.cell? ⟨KC, 0, none⟩ = some (.int .i64 X) ∧ w'.cell? ⟨KC, 1, none⟩ = some (.int .i64 Y) ∧ w'.cell? ⟨KC, 2, none⟩ = some (.int .i64 H) ∧ w'.cell? ⟨KC, 3, none⟩ = some (.int .i64 E))) (by kernel_rfl) ?_ (fun hHeld => ?_)
    · (try dsimp only); (refine ⟨?_, ?_, ?_, ?_, ?_, ?_, ?_, ?_, ?_, ?_, ?_, ?_⟩ <;> (repeat (first | with_reducible assumption | with_reducible refine keep_drew ?_ | with_reducible refine keep_below (by assumption) ?_)))
    refine wpAnyH_take (i := 0) (oi := { dst := some 24, op := Go.Op.load 24 (Go.Operand.tmp 7), type := 24, pos := "laws.go:149", after := #[], guard := none }) (v := ?_) rfl (by kernel_rfl) (by kernel_rfl) (by kernel_rfl) (fun _ _ _ h => h) (Or.inl ⟨by rfl, ?_⟩) (by assumption) ?_
    rotate_left 1
    · (intro w hSw; (try dsimp only at hSw); go_simp; try with_reducible rfl)
    (try simp only [Act.put, List.setIfInBounds_toArray, List.set_cons_zero, List.set_cons_succ])
    refine wpAnyH_take (i := 1) (oi := { dst := some 25, op := Go.Op.load 24 (Go.Operand.tmp 3), type := 24, pos := "laws.go:149", after := #[], guard := none }) (v := ?_) rfl (by kernel_rfl) (by kernel_rfl) (by kernel_rfl) (fun _ _ _ h => h) (Or.inl ⟨by rfl, ?_⟩) (by assumption) ?_
    rotate_left 1
    · (intro w hSw; (try dsimp only at hSw); go_simp; try with_reducible rfl)
    (try simp only [Act.put, List.setIfInBounds_toArray, List.set_cons_zero, List.set_cons_succ])
    refine wpAnyH_take (i := 2) (oi := { dst := some 26, op := Go.Op.load 24 (Go.Operand.tmp 4), type := 24, pos := "laws.go:149", after := #[], guard := none }) (v := ?_) rfl (by kernel_rfl) (by kernel_rfl) (by kernel_rfl) (fun _ _ _ h => h) (Or.inl ⟨by rfl, ?_⟩) (by assumption) ?_
    rotate_left 1
    · (intro w hSw; (try dsimp only at hSw); go_simp; try with_reducible rfl)
    (try simp only [Act.put, List.setIfInBounds_toArray, List.set_cons_zero, List.set_cons_succ])
    refine wpAnyH_take (i := 3) (oi := { dst := some 27, op := Go.Op.move (Go.Operand.tmp 5), type := 3, pos := "laws.go:149", after := #[], guard := none }) (v := ?_) rfl (by kernel_rfl) (by kernel_rfl) (by kernel_rfl) (fun _ _ _ h => h) (Or.inl ⟨by rfl, ?_⟩) (by assumption) ?_
    rotate_left 1
    · (intro w hSw; (try dsimp only at hSw); go_simp; try with_reducible rfl)
    (try simp only [Act.put, List.setIfInBounds_toArray, List.set_cons_zero, List.set_cons_succ])
    refine wpAnyH_take (i := 4) (oi := { dst := some 28, op := Go.Op.move (Go.Operand.tmp 6), type := 3, pos := "laws.go:149", after := #[], guard := none }) (v := ?_) rfl (by kernel_rfl) (by kernel_rfl) (by kernel_rfl) (fun _ _ _ h => h) (Or.inl ⟨by rfl, ?_⟩) (by assumption) ?_
    rotate_left 1
    · (intro w hSw; (try dsimp only at hSw); go_simp; try with_reducible rfl)
    (try simp only [Act.put, List.setIfInBounds_toArray, List.set_cons_zero, List.set_cons_succ])
    refine wpAnyH_ready (rs := [5]) (by kernel_rfl) (by simp) ?_
    refine AllReadyH.cons (o := { dst := some 29, op := Go.Op.call { callee := Go.Callee.value (Go.Operand.func 11), args := #[Go.Operand.tmp 25, Go.Operand.tmp 26, Go.Operand.tmp 27, Go.Operand.tmp 28], argTypes := #[24, 24, 3, 3] }, type := 24, pos := "laws.go:149", after := #[{ on := 1, ground := Go.Ground.data }, { on := 2, ground := Go.Ground.data }, { on := 3, ground := Go.Ground.data }, { on := 4, ground := Go.Ground.data }], guard := none }) rfl (fun K hK => ?_) AllReadyH.nil
    go_simp
    (refine (hS _).mono ?_; rintro e w11 ⟨rfl, b11⟩)
    go_wp2_with fail
    refine hK.out _ _ ?_ (fun hHeld => ?_)
    · (try dsimp only); (refine ⟨?_, ?_, ?_, ?_, ?_, ?_, ?_, ?_, ?_, ?_, ?_, ?_⟩ <;> (repeat (first | with_reducible assumption | with_reducible refine keep_drew ?_ | with_reducible refine keep_below (by assumption) ?_)))
    clear hK K
    (try simp only [Act.put, List.setIfInBounds_toArray, List.set_cons_zero, List.set_cons_succ])
    refine wpAnyH_take (i := 6) (oi := { dst := some 30, op := Go.Op.binOp Go.BinOp.neq 24 (Go.Operand.tmp 24) (Go.Operand.tmp 29) 24, type := 4, pos := "laws.go:149", after := #[{ on := 0, ground := Go.Ground.data }, { on := 5, ground := Go.Ground.data }], guard := none }) (v := ?_) rfl (by kernel_rfl) (by kernel_rfl) (by kernel_rfl) (fun _ _ _ h => h) (Or.inl ⟨by rfl, ?_⟩) (by assumption) ?_
    rotate_left 1
    · (intro w hSw; (try dsimp only at hSw); go_simp; try with_reducible rfl)
    (try simp only [Act.put, List.setIfInBounds_toArray, List.set_cons_zero, List.set_cons_succ])
    refine wpAnyH_take (i := 7) (oi := { dst := some 31, op := Go.Op.move (Go.Operand.tmp 30), type := 4, pos := "laws.go:149", after := #[{ on := 6, ground := Go.Ground.data }, { on := 5, ground := Go.Ground.chain }], guard := none }) (v := ?_) rfl (by kernel_rfl) (by kernel_rfl) (by kernel_rfl) (fun _ _ _ h => h) (Or.inl ⟨by rfl, ?_⟩) (by assumption) ?_
    rotate_left 1
    · (intro w hSw; (try dsimp only at hSw); go_simp; try with_reducible rfl)
    (try simp only [Act.put, List.setIfInBounds_toArray, List.set_cons_zero, List.set_cons_succ])
    refine wpAnyH_take (i := 8) (oi := { dst := some 32, op := Go.Op.load 24 (Go.Operand.tmp 3), type := 24, pos := "laws.go:149", after := #[{ on := 7, ground := Go.Ground.guard }], guard := some (7, false) }) (v := ?_) rfl (by kernel_rfl) (by kernel_rfl) (by kernel_rfl) (fun _ _ _ h => h) (Or.inl ⟨by rfl, ?_⟩) (by assumption) ?_
    rotate_left 1
    · (intro w hSw; (try dsimp only at hSw); go_simp; try with_reducible rfl)
    (try simp only [Act.put, List.setIfInBounds_toArray, List.set_cons_zero, List.set_cons_succ])
    refine wpAnyH_ready (rs := [9]) (by kernel_rfl) (by simp) ?_
    refine AllReadyH.cons (o := { dst := some 33, op := Go.Op.call { callee := Go.Callee.value (Go.Operand.func 13), args := #[Go.Operand.tmp 32], argTypes := #[24] }, type := 4, pos := "laws.go:149", after := #[{ on := 8, ground := Go.Ground.data }, { on := 7, ground := Go.Ground.chain }, { on := 7, ground := Go.Ground.guard }], guard := some (7, false) }) rfl (fun K hK => ?_) AllReadyH.nil
    go_simp
    (refine (sok_lit ax ay ah ae true hcc.out _).mono ?_; rintro e w12 ⟨rfl, b12⟩)
    go_wp2_with fail
    refine hK.out _ _ ?_ (fun hHeld => ?_)
    · (try dsimp only); (refine ⟨?_, ?_, ?_, ?_, ?_, ?_, ?_, ?_, ?_, ?_, ?_, ?_⟩ <;> (repeat (first | with_reducible assumption | with_reducible refine keep_drew ?_ | with_reducible refine keep_below (by assumption) ?_)))
    clear hK K
    (try simp only [Act.put, List.setIfInBounds_toArray, List.set_cons_zero, List.set_cons_succ])
    refine wpAnyH_take (i := 10) (oi := { dst := some 34, op := Go.Op.unOp Go.UnOp.not 4 (Go.Operand.tmp 33), type := 4, pos := "laws.go:149", after := #[{ on := 9, ground := Go.Ground.data }, { on := 7, ground := Go.Ground.guard }], guard := some (7, false) }) (v := ?_) rfl (by kernel_rfl) (by kernel_rfl) (by kernel_rfl) (fun _ _ _ h => h) (Or.inl ⟨by rfl, ?_⟩) (by assumption) ?_
    rotate_left 1
    · (intro w hSw; (try dsimp only at hSw); go_simp; try with_reducible rfl)
    (try simp only [Act.put, List.setIfInBounds_toArray, List.set_cons_zero, List.set_cons_succ])
    refine wpAnyH_take (i := 11) (oi := { dst := some 35, op := Go.Op.pick (Go.Operand.tmp 31) (Go.Operand.const (Go.Value.bool true)) (Go.Operand.tmp 34), type := 4, pos := "laws.go:149", after := #[{ on := 7, ground := Go.Ground.data }, { on := 10, ground := Go.Ground.data }], guard := none }) (v := ?_) rfl (by kernel_rfl) (by kernel_rfl) (by kernel_rfl) (fun _ _ _ h => h) (Or.inl ⟨by rfl, ?_⟩) (by assumption) ?_
    rotate_left 1
    · (intro w hSw; (try dsimp only at hSw); go_simp; try with_reducible rfl)
    (try simp only [Act.put, List.setIfInBounds_toArray, List.set_cons_zero, List.set_cons_succ])
    refine wpAnyH_done (by kernel_rfl) ?_ _
    replace P0 := keep_below b12 (keep_below b11 (keep_drew (P0)))
    replace P1 := keep_below b12 (keep_below b11 (keep_drew (P1)))
    replace P2 := keep_below b12 (keep_below b11 (keep_drew (P2)))
    replace P3 := keep_below b12 (keep_below b11 (keep_drew (P3)))
    replace Q0 := keep_below b12 (keep_below b11 (keep_drew (Q0)))
    replace Q1 := keep_below b12 (keep_below b11 (keep_drew (Q1)))
    replace Q2 := keep_below b12 (keep_below b11 (keep_drew (Q2)))
    replace Q3 := keep_below b12 (keep_below b11 (keep_drew (Q3)))
    replace R0 := keep_below b12 (keep_below b11 (keep_drew (R0)))
    replace R1 := keep_below b12 (keep_below b11 (keep_drew (R1)))
    replace R2 := keep_below b12 (keep_below b11 (keep_drew (R2)))
    replace R3 := keep_below b12 (keep_below b11 (keep_drew (R3)))
    have B4 := btrans (btrans B3.drew b11) b12
    clear b11 b12 B3 hHeld
    have n1 : IntKind.i64.wrap (-trip) = -trip := by rw [IntKind.wrap_i64]; omega
    have n2 : IntKind.i64.wrap (-(trip * trip)) = -(trip * trip) := by rw [IntKind.wrap_i64]; omega
    have n3 : IntKind.i64.wrap (-trip * trip) = -(trip * trip) := by rw [Int.neg_mul]; exact n2
    go_wp2_with fail
    replace P0 := keep_alloc (.cells #[.int .i64 bx, .int .i64 b_y, .int .i64 bh, .int .i64 0] 24) P0
    replace P1 := keep_alloc (.cells #[.int .i64 bx, .int .i64 b_y, .int .i64 bh, .int .i64 0] 24) P1
    replace P2 := keep_alloc (.cells #[.int .i64 bx, .int .i64 b_y, .int .i64 bh, .int .i64 0] 24) P2
    replace P3 := keep_alloc (.cells #[.int .i64 bx, .int .i64 b_y, .int .i64 bh, .int .i64 0] 24) P3
    replace Q0 := keep_alloc (.cells #[.int .i64 bx, .int .i64 b_y, .int .i64 bh, .int .i64 0] 24) Q0
    replace Q1 := keep_alloc (.cells #[.int .i64 bx, .int .i64 b_y, .int .i64 bh, .int .i64 0] 24) Q1
    replace Q2 := keep_alloc (.cells #[.int .i64 bx, .int .i64 b_y, .int .i64 bh, .int .i64 0] 24) Q2
    replace Q3 := keep_alloc (.cells #[.int .i64 bx, .int .i64 b_y, .int .i64 bh, .int .i64 0] 24) Q3
    have U0 : (w12.alloc (.cells #[.int .i64 bx, .int .i64 b_y, .int .i64 bh, .int .i64 0] 24)).cell? ⟨w12.heap.size, 0, none⟩ = some (.int .i64 bx) := by simp [go_sem]
    have U1 : (w12.alloc (.cells #[.int .i64 bx, .int .i64 b_y, .int .i64 bh, .int .i64 0] 24)).cell? ⟨w12.heap.size, 1, none⟩ = some (.int .i64 b_y) := by simp [go_sem]
    have U2 : (w12.alloc (.cells #[.int .i64 bx, .int .i64 b_y, .int .i64 bh, .int .i64 0] 24)).cell? ⟨w12.heap.size, 2, none⟩ = some (.int .i64 bh) := by simp [go_sem]
    have U3 : (w12.alloc (.cells #[.int .i64 bx, .int .i64 b_y, .int .i64 bh, .int .i64 0] 24)).cell? ⟨w12.heap.size, 3, none⟩ = some (.int .i64 0) := by simp [go_sem]
    have B5 := balloc (.cells #[.int .i64 bx, .int .i64 b_y, .int .i64 bh, .int .i64 0] 24) B4
    generalize (w12.alloc (.cells #[.int .i64 bx, .int .i64 b_y, .int .i64 bh, .int .i64 0] 24)) = W5 at *
    generalize w12.heap.size = KD at *
    clear B4
    refine wp_region_held_drew (S := (fun w' => w'.cell? ⟨KA, 0, none⟩ = some (.int .i64 ax) ∧ w'.cell? ⟨KA, 1, none⟩ = some (.int .i64 ay) ∧ w'.cell? ⟨KA, 2, none⟩ = some (.int .i64 ah) ∧ w'.cell? ⟨KA, 3, none⟩ = some (.int .i64 ae) ∧ w'.cell? ⟨KB, 0, none⟩ = some (.int .i64 bx) ∧ w'.cell? ⟨KB, 1, none⟩ = some (.int .i64 b_y) ∧ w'.cell? ⟨KB, 2, none⟩ = some (.int .i64 bh) ∧ w'.cell? ⟨KB, 3, none⟩ = some (.int .i64 be) ∧ w'.cell? ⟨KD, 0, none⟩ = some (.int .i64 bx) ∧ w'.cell? ⟨KD, 1, none⟩ = some (.int .i64 b_y) ∧ w'.cell? ⟨KD, 2, none⟩ = some (.int .i64 bh) ∧ w'.cell? ⟨KD, 3, none⟩ = some (.int .i64 0))) (by kernel_rfl) ?_ (fun hHeld => ?_)
    · (try dsimp only); (refine ⟨?_, ?_, ?_, ?_, ?_, ?_, ?_, ?_, ?_, ?_, ?_, ?_⟩ <;> (repeat (first | with_reducible assumption | with_reducible refine keep_drew ?_ | with_reducible refine keep_below (by assumption) ?_)))
    refine wpAnyH_take (i := 0) (oi := { dst := some 45, op := Go.Op.load 24 (Go.Operand.tmp 3), type := 24, pos := "laws.go:154", after := #[], guard := none }) (v := ?_) rfl (by kernel_rfl) (by kernel_rfl) (by kernel_rfl) (fun _ _ _ h => h) (Or.inl ⟨by rfl, ?_⟩) (by assumption) ?_
    rotate_left 1
    · (intro w hSw; (try dsimp only at hSw); go_simp; try with_reducible rfl)
    (try simp only [Act.put, List.setIfInBounds_toArray, List.set_cons_zero, List.set_cons_succ])
    refine wpAnyH_take (i := 1) (oi := { dst := some 46, op := Go.Op.load 24 (Go.Operand.tmp 8), type := 24, pos := "laws.go:154", after := #[], guard := none }) (v := ?_) rfl (by kernel_rfl) (by kernel_rfl) (by kernel_rfl) (fun _ _ _ h => h) (Or.inl ⟨by rfl, ?_⟩) (by assumption) ?_
    rotate_left 1
    · (intro w hSw; (try dsimp only at hSw); go_simp; try with_reducible rfl)
    (try simp only [Act.put, List.setIfInBounds_toArray, List.set_cons_zero, List.set_cons_succ])
    refine wpAnyH_take (i := 2) (oi := { dst := some 47, op := Go.Op.move (Go.Operand.tmp 5), type := 3, pos := "laws.go:154", after := #[], guard := none }) (v := ?_) rfl (by kernel_rfl) (by kernel_rfl) (by kernel_rfl) (fun _ _ _ h => h) (Or.inl ⟨by rfl, ?_⟩) (by assumption) ?_
    rotate_left 1
    · (intro w hSw; (try dsimp only at hSw); go_simp; try with_reducible rfl)
    (try simp only [Act.put, List.setIfInBounds_toArray, List.set_cons_zero, List.set_cons_succ])
    refine wpAnyH_take (i := 3) (oi := { dst := some 48, op := Go.Op.move (Go.Operand.tmp 6), type := 3, pos := "laws.go:154", after := #[], guard := none }) (v := ?_) rfl (by kernel_rfl) (by kernel_rfl) (by kernel_rfl) (fun _ _ _ h => h) (Or.inl ⟨by rfl, ?_⟩) (by assumption) ?_
    rotate_left 1
    · (intro w hSw; (try dsimp only at hSw); go_simp; try with_reducible rfl)
    (try simp only [Act.put, List.setIfInBounds_toArray, List.set_cons_zero, List.set_cons_succ])
    refine wpAnyH_take (i := 5) (oi := { dst := some 50, op := Go.Op.load 24 (Go.Operand.tmp 3), type := 24, pos := "laws.go:154", after := #[], guard := none }) (v := ?_) rfl (by kernel_rfl) (by kernel_rfl) (by kernel_rfl) (fun _ _ _ h => h) (Or.inl ⟨by rfl, ?_⟩) (by assumption) ?_
    rotate_left 1
    · (intro w hSw; (try dsimp only at hSw); go_simp; try with_reducible rfl)
    (try simp only [Act.put, List.setIfInBounds_toArray, List.set_cons_zero, List.set_cons_succ])
    refine wpAnyH_ready (rs := [4]) (by kernel_rfl) (by simp) ?_
    refine AllReadyH.cons (o := { dst := some 49, op := Go.Op.call { callee := Go.Callee.value (Go.Operand.func 10), args := #[Go.Operand.tmp 45, Go.Operand.tmp 46, Go.Operand.tmp 47, Go.Operand.tmp 48], argTypes := #[24, 24, 3, 3] }, type := 24, pos := "laws.go:154", after := #[{ on := 0, ground := Go.Ground.data }, { on := 1, ground := Go.Ground.data }, { on := 2, ground := Go.Ground.data }, { on := 3, ground := Go.Ground.data }], guard := none }) rfl (fun K hK => ?_) AllReadyH.nil
    go_simp
    (refine (fmove_stay ax ay ah ae bx b_y bh 0 trip turn _ hcc.out (stay_e _ _ _ _)).mono ?_; rintro e w21 ⟨rfl, b21⟩)
    go_wp2_with fail
    refine hK.out _ _ ?_ (fun hHeld => ?_)
    · (try dsimp only); (refine ⟨?_, ?_, ?_, ?_, ?_, ?_, ?_, ?_, ?_, ?_, ?_, ?_⟩ <;> (repeat (first | with_reducible assumption | with_reducible refine keep_drew ?_ | with_reducible refine keep_below (by assumption) ?_)))
    clear hK K
    (try simp only [Act.put, List.setIfInBounds_toArray, List.set_cons_zero, List.set_cons_succ])
    refine wpAnyH_take (i := 6) (oi := { dst := some 51, op := Go.Op.binOp Go.BinOp.eql 24 (Go.Operand.tmp 49) (Go.Operand.tmp 50) 24, type := 4, pos := "laws.go:154", after := #[{ on := 4, ground := Go.Ground.data }, { on := 5, ground := Go.Ground.data }], guard := none }) (v := ?_) rfl (by kernel_rfl) (by kernel_rfl) (by kernel_rfl) (fun _ _ _ h => h) (Or.inl ⟨by rfl, ?_⟩) (by assumption) ?_
    rotate_left 1
    · (intro w hSw; (try dsimp only at hSw); go_simp; try with_reducible rfl)
    (try simp only [Act.put, List.setIfInBounds_toArray, List.set_cons_zero, List.set_cons_succ])
    refine wpAnyH_take (i := 7) (oi := { dst := some 52, op := Go.Op.move (Go.Operand.tmp 51), type := 4, pos := "laws.go:154", after := #[{ on := 6, ground := Go.Ground.data }, { on := 4, ground := Go.Ground.chain }], guard := none }) (v := ?_) rfl (by kernel_rfl) (by kernel_rfl) (by kernel_rfl) (fun _ _ _ h => h) (Or.inl ⟨by rfl, ?_⟩) (by assumption) ?_
    rotate_left 1
    · (intro w hSw; (try dsimp only at hSw); go_simp; try with_reducible rfl)
    (try simp only [Act.put, List.setIfInBounds_toArray, List.set_cons_zero, List.set_cons_succ])
    refine wpAnyH_take (i := 8) (oi := { dst := some 53, op := Go.Op.load 24 (Go.Operand.tmp 3), type := 24, pos := "laws.go:154", after := #[{ on := 7, ground := Go.Ground.guard }], guard := some (7, true) }) (v := ?_) rfl (by kernel_rfl) (by kernel_rfl) (by kernel_rfl) (fun _ _ _ h => h) (Or.inl ⟨by rfl, ?_⟩) (by assumption) ?_
    rotate_left 1
    · (intro w hSw; (try dsimp only at hSw); go_simp; try with_reducible rfl)
    (try simp only [Act.put, List.setIfInBounds_toArray, List.set_cons_zero, List.set_cons_succ])
    refine wpAnyH_take (i := 9) (oi := { dst := some 54, op := Go.Op.load 24 (Go.Operand.tmp 4), type := 24, pos := "laws.go:154", after := #[{ on := 7, ground := Go.Ground.guard }], guard := some (7, true) }) (v := ?_) rfl (by kernel_rfl) (by kernel_rfl) (by kernel_rfl) (fun _ _ _ h => h) (Or.inl ⟨by rfl, ?_⟩) (by assumption) ?_
    rotate_left 1
    · (intro w hSw; (try dsimp only at hSw); go_simp; try with_reducible rfl)
    (try simp only [Act.put, List.setIfInBounds_toArray, List.set_cons_zero, List.set_cons_succ])
    refine wpAnyH_take (i := 10) (oi := { dst := some 55, op := Go.Op.move (Go.Operand.tmp 6), type := 3, pos := "laws.go:154", after := #[{ on := 7, ground := Go.Ground.guard }], guard := some (7, true) }) (v := ?_) rfl (by kernel_rfl) (by kernel_rfl) (by kernel_rfl) (fun _ _ _ h => h) (Or.inl ⟨by rfl, ?_⟩) (by assumption) ?_
    rotate_left 1
    · (intro w hSw; (try dsimp only at hSw); go_simp; try with_reducible rfl)
    (try simp only [Act.put, List.setIfInBounds_toArray, List.set_cons_zero, List.set_cons_succ])
    refine wpAnyH_take (i := 12) (oi := { dst := some 57, op := Go.Op.load 24 (Go.Operand.tmp 3), type := 24, pos := "laws.go:154", after := #[{ on := 7, ground := Go.Ground.guard }], guard := some (7, true) }) (v := ?_) rfl (by kernel_rfl) (by kernel_rfl) (by kernel_rfl) (fun _ _ _ h => h) (Or.inl ⟨by rfl, ?_⟩) (by assumption) ?_
    rotate_left 1
    · (intro w hSw; (try dsimp only at hSw); go_simp; try with_reducible rfl)
    (try simp only [Act.put, List.setIfInBounds_toArray, List.set_cons_zero, List.set_cons_succ])
    refine wpAnyH_ready (rs := [11]) (by kernel_rfl) (by simp) ?_
    refine AllReadyH.cons (o := { dst := some 56, op := Go.Op.call { callee := Go.Callee.value (Go.Operand.func 10), args := #[Go.Operand.tmp 53, Go.Operand.tmp 54, Go.Operand.const (Go.Value.int Go.IntKind.i64 0), Go.Operand.tmp 55], argTypes := #[24, 24, 3, 3] }, type := 24, pos := "laws.go:154", after := #[{ on := 8, ground := Go.Ground.data }, { on := 9, ground := Go.Ground.data }, { on := 10, ground := Go.Ground.data }, { on := 7, ground := Go.Ground.chain }, { on := 7, ground := Go.Ground.guard }], guard := some (7, true) }) rfl (fun K hK => ?_) AllReadyH.nil
    go_simp
    (refine (fmove_stay ax ay ah ae bx b_y bh be 0 turn _ hcc.out (stay_t _ _ _ _ _ (by omega))).mono ?_; rintro e w22 ⟨rfl, b22⟩)
    go_wp2_with fail
    refine hK.out _ _ ?_ (fun hHeld => ?_)
    · (try dsimp only); (refine ⟨?_, ?_, ?_, ?_, ?_, ?_, ?_, ?_, ?_, ?_, ?_, ?_⟩ <;> (repeat (first | with_reducible assumption | with_reducible refine keep_drew ?_ | with_reducible refine keep_below (by assumption) ?_)))
    clear hK K
    (try simp only [Act.put, List.setIfInBounds_toArray, List.set_cons_zero, List.set_cons_succ])
    refine wpAnyH_take (i := 13) (oi := { dst := some 58, op := Go.Op.binOp Go.BinOp.eql 24 (Go.Operand.tmp 56) (Go.Operand.tmp 57) 24, type := 4, pos := "laws.go:154", after := #[{ on := 11, ground := Go.Ground.data }, { on := 12, ground := Go.Ground.data }, { on := 7, ground := Go.Ground.guard }], guard := some (7, true) }) (v := ?_) rfl (by kernel_rfl) (by kernel_rfl) (by kernel_rfl) (fun _ _ _ h => h) (Or.inl ⟨by rfl, ?_⟩) (by assumption) ?_
    rotate_left 1
    · (intro w hSw; (try dsimp only at hSw); go_simp; try with_reducible rfl)
    (try simp only [Act.put, List.setIfInBounds_toArray, List.set_cons_zero, List.set_cons_succ])
    refine wpAnyH_take (i := 14) (oi := { dst := some 59, op := Go.Op.pick (Go.Operand.tmp 52) (Go.Operand.tmp 58) (Go.Operand.const (Go.Value.bool false)), type := 4, pos := "laws.go:154", after := #[{ on := 7, ground := Go.Ground.data }, { on := 13, ground := Go.Ground.data }], guard := none }) (v := ?_) rfl (by kernel_rfl) (by kernel_rfl) (by kernel_rfl) (fun _ _ _ h => h) (Or.inl ⟨by rfl, ?_⟩) (by assumption) ?_
    rotate_left 1
    · (intro w hSw; (try dsimp only at hSw); go_simp; try with_reducible rfl)
    (try simp only [Act.put, List.setIfInBounds_toArray, List.set_cons_zero, List.set_cons_succ])
    refine wpAnyH_take (i := 15) (oi := { dst := some 60, op := Go.Op.move (Go.Operand.tmp 59), type := 4, pos := "laws.go:154", after := #[{ on := 14, ground := Go.Ground.data }, { on := 11, ground := Go.Ground.chain }], guard := none }) (v := ?_) rfl (by kernel_rfl) (by kernel_rfl) (by kernel_rfl) (fun _ _ _ h => h) (Or.inl ⟨by rfl, ?_⟩) (by assumption) ?_
    rotate_left 1
    · (intro w hSw; (try dsimp only at hSw); go_simp; try with_reducible rfl)
    (try simp only [Act.put, List.setIfInBounds_toArray, List.set_cons_zero, List.set_cons_succ])
    refine wpAnyH_take (i := 16) (oi := { dst := some 61, op := Go.Op.load 24 (Go.Operand.tmp 3), type := 24, pos := "laws.go:154", after := #[{ on := 15, ground := Go.Ground.guard }], guard := some (15, true) }) (v := ?_) rfl (by kernel_rfl) (by kernel_rfl) (by kernel_rfl) (fun _ _ _ h => h) (Or.inl ⟨by rfl, ?_⟩) (by assumption) ?_
    rotate_left 1
    · (intro w hSw; (try dsimp only at hSw); go_simp; try with_reducible rfl)
    (try simp only [Act.put, List.setIfInBounds_toArray, List.set_cons_zero, List.set_cons_succ])
    refine wpAnyH_take (i := 17) (oi := { dst := some 62, op := Go.Op.load 24 (Go.Operand.tmp 4), type := 24, pos := "laws.go:154", after := #[{ on := 15, ground := Go.Ground.guard }], guard := some (15, true) }) (v := ?_) rfl (by kernel_rfl) (by kernel_rfl) (by kernel_rfl) (fun _ _ _ h => h) (Or.inl ⟨by rfl, ?_⟩) (by assumption) ?_
    rotate_left 1
    · (intro w hSw; (try dsimp only at hSw); go_simp; try with_reducible rfl)
    (try simp only [Act.put, List.setIfInBounds_toArray, List.set_cons_zero, List.set_cons_succ])
    refine wpAnyH_take (i := 18) (oi := { dst := some 63, op := Go.Op.move (Go.Operand.tmp 6), type := 3, pos := "laws.go:154", after := #[{ on := 15, ground := Go.Ground.guard }], guard := some (15, true) }) (v := ?_) rfl (by kernel_rfl) (by kernel_rfl) (by kernel_rfl) (fun _ _ _ h => h) (Or.inl ⟨by rfl, ?_⟩) (by assumption) ?_
    rotate_left 1
    · (intro w hSw; (try dsimp only at hSw); go_simp; try with_reducible rfl)
    (try simp only [Act.put, List.setIfInBounds_toArray, List.set_cons_zero, List.set_cons_succ])
    refine wpAnyH_take (i := 20) (oi := { dst := some 65, op := Go.Op.load 24 (Go.Operand.tmp 3), type := 24, pos := "laws.go:154", after := #[{ on := 15, ground := Go.Ground.guard }], guard := some (15, true) }) (v := ?_) rfl (by kernel_rfl) (by kernel_rfl) (by kernel_rfl) (fun _ _ _ h => h) (Or.inl ⟨by rfl, ?_⟩) (by assumption) ?_
    rotate_left 1
    · (intro w hSw; (try dsimp only at hSw); go_simp; try with_reducible rfl)
    (try simp only [Act.put, List.setIfInBounds_toArray, List.set_cons_zero, List.set_cons_succ])
    refine wpAnyH_ready (rs := [19]) (by kernel_rfl) (by simp) ?_
    refine AllReadyH.cons (o := { dst := some 64, op := Go.Op.call { callee := Go.Callee.value (Go.Operand.func 10), args := #[Go.Operand.tmp 61, Go.Operand.tmp 62, Go.Operand.const (Go.Value.int Go.IntKind.i64 60001), Go.Operand.tmp 63], argTypes := #[24, 24, 3, 3] }, type := 24, pos := "laws.go:154", after := #[{ on := 16, ground := Go.Ground.data }, { on := 17, ground := Go.Ground.data }, { on := 18, ground := Go.Ground.data }, { on := 15, ground := Go.Ground.chain }, { on := 15, ground := Go.Ground.guard }], guard := some (15, true) }) rfl (fun K hK => ?_) AllReadyH.nil
    go_simp
    (refine (fmove_stay ax ay ah ae bx b_y bh be 60001 turn _ hcc.out (stay_t _ _ _ _ _ (by omega))).mono ?_; rintro e w23 ⟨rfl, b23⟩)
    go_wp2_with fail
    refine hK.out _ _ ?_ (fun hHeld => ?_)
    · (try dsimp only); (refine ⟨?_, ?_, ?_, ?_, ?_, ?_, ?_, ?_, ?_, ?_, ?_, ?_⟩ <;> (repeat (first | with_reducible assumption | with_reducible refine keep_drew ?_ | with_reducible refine keep_below (by assumption) ?_)))
    clear hK K
    (try simp only [Act.put, List.setIfInBounds_toArray, List.set_cons_zero, List.set_cons_succ])
    refine wpAnyH_take (i := 21) (oi := { dst := some 66, op := Go.Op.binOp Go.BinOp.eql 24 (Go.Operand.tmp 64) (Go.Operand.tmp 65) 24, type := 4, pos := "laws.go:154", after := #[{ on := 19, ground := Go.Ground.data }, { on := 20, ground := Go.Ground.data }, { on := 15, ground := Go.Ground.guard }], guard := some (15, true) }) (v := ?_) rfl (by kernel_rfl) (by kernel_rfl) (by kernel_rfl) (fun _ _ _ h => h) (Or.inl ⟨by rfl, ?_⟩) (by assumption) ?_
    rotate_left 1
    · (intro w hSw; (try dsimp only at hSw); go_simp; try with_reducible rfl)
    (try simp only [Act.put, List.setIfInBounds_toArray, List.set_cons_zero, List.set_cons_succ])
    refine wpAnyH_take (i := 22) (oi := { dst := some 67, op := Go.Op.pick (Go.Operand.tmp 60) (Go.Operand.tmp 66) (Go.Operand.const (Go.Value.bool false)), type := 4, pos := "laws.go:154", after := #[{ on := 15, ground := Go.Ground.data }, { on := 21, ground := Go.Ground.data }], guard := none }) (v := ?_) rfl (by kernel_rfl) (by kernel_rfl) (by kernel_rfl) (fun _ _ _ h => h) (Or.inl ⟨by rfl, ?_⟩) (by assumption) ?_
    rotate_left 1
    · (intro w hSw; (try dsimp only at hSw); go_simp; try with_reducible rfl)
    (try simp only [Act.put, List.setIfInBounds_toArray, List.set_cons_zero, List.set_cons_succ])
    refine wpAnyH_take (i := 23) (oi := { dst := some 68, op := Go.Op.move (Go.Operand.tmp 67), type := 4, pos := "laws.go:154", after := #[{ on := 22, ground := Go.Ground.data }, { on := 19, ground := Go.Ground.chain }], guard := none }) (v := ?_) rfl (by kernel_rfl) (by kernel_rfl) (by kernel_rfl) (fun _ _ _ h => h) (Or.inl ⟨by rfl, ?_⟩) (by assumption) ?_
    rotate_left 1
    · (intro w hSw; (try dsimp only at hSw); go_simp; try with_reducible rfl)
    (try simp only [Act.put, List.setIfInBounds_toArray, List.set_cons_zero, List.set_cons_succ])
    refine wpAnyH_take (i := 24) (oi := { dst := some 69, op := Go.Op.load 24 (Go.Operand.tmp 3), type := 24, pos := "laws.go:154", after := #[{ on := 23, ground := Go.Ground.guard }], guard := some (23, true) }) (v := ?_) rfl (by kernel_rfl) (by kernel_rfl) (by kernel_rfl) (fun _ _ _ h => h) (Or.inl ⟨by rfl, ?_⟩) (by assumption) ?_
    rotate_left 1
    · (intro w hSw; (try dsimp only at hSw); go_simp; try with_reducible rfl)
    (try simp only [Act.put, List.setIfInBounds_toArray, List.set_cons_zero, List.set_cons_succ])
    refine wpAnyH_take (i := 25) (oi := { dst := some 70, op := Go.Op.load 24 (Go.Operand.tmp 4), type := 24, pos := "laws.go:154", after := #[{ on := 23, ground := Go.Ground.guard }], guard := some (23, true) }) (v := ?_) rfl (by kernel_rfl) (by kernel_rfl) (by kernel_rfl) (fun _ _ _ h => h) (Or.inl ⟨by rfl, ?_⟩) (by assumption) ?_
    rotate_left 1
    · (intro w hSw; (try dsimp only at hSw); go_simp; try with_reducible rfl)
    (try simp only [Act.put, List.setIfInBounds_toArray, List.set_cons_zero, List.set_cons_succ])
    refine wpAnyH_take (i := 26) (oi := { dst := some 71, op := Go.Op.move (Go.Operand.tmp 5), type := 3, pos := "laws.go:154", after := #[{ on := 23, ground := Go.Ground.guard }], guard := some (23, true) }) (v := ?_) rfl (by kernel_rfl) (by kernel_rfl) (by kernel_rfl) (fun _ _ _ h => h) (Or.inl ⟨by rfl, ?_⟩) (by assumption) ?_
    rotate_left 1
    · (intro w hSw; (try dsimp only at hSw); go_simp; try with_reducible rfl)
    (try simp only [Act.put, List.setIfInBounds_toArray, List.set_cons_zero, List.set_cons_succ])
    refine wpAnyH_take (i := 27) (oi := { dst := some 72, op := Go.Op.unOp Go.UnOp.neg 3 (Go.Operand.tmp 71), type := 3, pos := "laws.go:154", after := #[{ on := 26, ground := Go.Ground.data }, { on := 23, ground := Go.Ground.guard }], guard := some (23, true) }) (v := ?_) rfl (by kernel_rfl) (by kernel_rfl) (by kernel_rfl) (fun _ _ _ h => h) (Or.inl ⟨by rfl, ?_⟩) (by assumption) ?_
    rotate_left 1
    · (intro w hSw; (try dsimp only at hSw); go_simp; try with_reducible rfl)
    (try simp only [Act.put, List.setIfInBounds_toArray, List.set_cons_zero, List.set_cons_succ])
    refine wpAnyH_take (i := 28) (oi := { dst := some 73, op := Go.Op.move (Go.Operand.tmp 5), type := 3, pos := "laws.go:154", after := #[{ on := 23, ground := Go.Ground.guard }], guard := some (23, true) }) (v := ?_) rfl (by kernel_rfl) (by kernel_rfl) (by kernel_rfl) (fun _ _ _ h => h) (Or.inl ⟨by rfl, ?_⟩) (by assumption) ?_
    rotate_left 1
    · (intro w hSw; (try dsimp only at hSw); go_simp; try with_reducible rfl)
    (try simp only [Act.put, List.setIfInBounds_toArray, List.set_cons_zero, List.set_cons_succ])
    refine wpAnyH_take (i := 29) (oi := { dst := some 74, op := Go.Op.binOp Go.BinOp.mul 3 (Go.Operand.tmp 72) (Go.Operand.tmp 73) 3, type := 3, pos := "laws.go:154", after := #[{ on := 27, ground := Go.Ground.data }, { on := 28, ground := Go.Ground.data }, { on := 23, ground := Go.Ground.guard }], guard := some (23, true) }) (v := ?_) rfl (by kernel_rfl) (by kernel_rfl) (by kernel_rfl) (fun _ _ _ h => h) (Or.inl ⟨by rfl, ?_⟩) (by assumption) ?_
    rotate_left 1
    · (intro w hSw; (try dsimp only at hSw); go_simp; try with_reducible rfl)
    (try simp only [Act.put, List.setIfInBounds_toArray, List.set_cons_zero, List.set_cons_succ])
    refine wpAnyH_take (i := 30) (oi := { dst := some 75, op := Go.Op.move (Go.Operand.tmp 6), type := 3, pos := "laws.go:154", after := #[{ on := 23, ground := Go.Ground.guard }], guard := some (23, true) }) (v := ?_) rfl (by kernel_rfl) (by kernel_rfl) (by kernel_rfl) (fun _ _ _ h => h) (Or.inl ⟨by rfl, ?_⟩) (by assumption) ?_
    rotate_left 1
    · (intro w hSw; (try dsimp only at hSw); go_simp; try with_reducible rfl)
    (try simp only [Act.put, List.setIfInBounds_toArray, List.set_cons_zero, List.set_cons_succ])
    refine wpAnyH_take (i := 32) (oi := { dst := some 77, op := Go.Op.load 24 (Go.Operand.tmp 3), type := 24, pos := "laws.go:154", after := #[{ on := 23, ground := Go.Ground.guard }], guard := some (23, true) }) (v := ?_) rfl (by kernel_rfl) (by kernel_rfl) (by kernel_rfl) (fun _ _ _ h => h) (Or.inl ⟨by rfl, ?_⟩) (by assumption) ?_
    rotate_left 1
    · (intro w hSw; (try dsimp only at hSw); go_simp; try with_reducible rfl)
    (try simp only [Act.put, List.setIfInBounds_toArray, List.set_cons_zero, List.set_cons_succ])
    refine wpAnyH_ready (rs := [31]) (by kernel_rfl) (by simp) ?_
    refine AllReadyH.cons (o := { dst := some 76, op := Go.Op.call { callee := Go.Callee.value (Go.Operand.func 10), args := #[Go.Operand.tmp 69, Go.Operand.tmp 70, Go.Operand.tmp 74, Go.Operand.tmp 75], argTypes := #[24, 24, 3, 3] }, type := 24, pos := "laws.go:154", after := #[{ on := 24, ground := Go.Ground.data }, { on := 25, ground := Go.Ground.data }, { on := 29, ground := Go.Ground.data }, { on := 30, ground := Go.Ground.data }, { on := 23, ground := Go.Ground.chain }, { on := 23, ground := Go.Ground.guard }], guard := some (23, true) }) rfl (fun K hK => ?_) AllReadyH.nil
    go_simp
    (refine (fmove_stay ax ay ah ae bx b_y bh be (-(trip * trip)) turn _ hcc.out (stay_t _ _ _ _ _ (by omega))).mono ?_; rintro e w24 ⟨rfl, b24⟩)
    go_wp2_with fail
    refine hK.out _ _ ?_ (fun hHeld => ?_)
    · (try dsimp only); (refine ⟨?_, ?_, ?_, ?_, ?_, ?_, ?_, ?_, ?_, ?_, ?_, ?_⟩ <;> (repeat (first | with_reducible assumption | with_reducible refine keep_drew ?_ | with_reducible refine keep_below (by assumption) ?_)))
    clear hK K
    (try simp only [Act.put, List.setIfInBounds_toArray, List.set_cons_zero, List.set_cons_succ])
    refine wpAnyH_take (i := 33) (oi := { dst := some 78, op := Go.Op.binOp Go.BinOp.eql 24 (Go.Operand.tmp 76) (Go.Operand.tmp 77) 24, type := 4, pos := "laws.go:154", after := #[{ on := 31, ground := Go.Ground.data }, { on := 32, ground := Go.Ground.data }, { on := 23, ground := Go.Ground.guard }], guard := some (23, true) }) (v := ?_) rfl (by kernel_rfl) (by kernel_rfl) (by kernel_rfl) (fun _ _ _ h => h) (Or.inl ⟨by rfl, ?_⟩) (by assumption) ?_
    rotate_left 1
    · (intro w hSw; (try dsimp only at hSw); go_simp; try with_reducible rfl)
    (try simp only [Act.put, List.setIfInBounds_toArray, List.set_cons_zero, List.set_cons_succ])
    refine wpAnyH_take (i := 34) (oi := { dst := some 79, op := Go.Op.pick (Go.Operand.tmp 68) (Go.Operand.tmp 78) (Go.Operand.const (Go.Value.bool false)), type := 4, pos := "laws.go:154", after := #[{ on := 23, ground := Go.Ground.data }, { on := 33, ground := Go.Ground.data }], guard := none }) (v := ?_) rfl (by kernel_rfl) (by kernel_rfl) (by kernel_rfl) (fun _ _ _ h => h) (Or.inl ⟨by rfl, ?_⟩) (by assumption) ?_
    rotate_left 1
    · (intro w hSw; (try dsimp only at hSw); go_simp; try with_reducible rfl)
    (try simp only [Act.put, List.setIfInBounds_toArray, List.set_cons_zero, List.set_cons_succ])
    refine wpAnyH_take (i := 35) (oi := { dst := some 2, op := Go.Op.assign (Go.Operand.tmp 79), type := 4, pos := "laws.go:154", after := #[{ on := 34, ground := Go.Ground.data }, { on := 31, ground := Go.Ground.chain }, { on := 0, ground := Go.Ground.phase }, { on := 1, ground := Go.Ground.phase }, { on := 2, ground := Go.Ground.phase }, { on := 3, ground := Go.Ground.phase }, { on := 4, ground := Go.Ground.phase }, { on := 5, ground := Go.Ground.phase }, { on := 6, ground := Go.Ground.phase }, { on := 7, ground := Go.Ground.phase }, { on := 8, ground := Go.Ground.phase }, { on := 9, ground := Go.Ground.phase }, { on := 10, ground := Go.Ground.phase }, { on := 11, ground := Go.Ground.phase }, { on := 12, ground := Go.Ground.phase }, { on := 13, ground := Go.Ground.phase }, { on := 14, ground := Go.Ground.phase }, { on := 15, ground := Go.Ground.phase }, { on := 16, ground := Go.Ground.phase }, { on := 17, ground := Go.Ground.phase }, { on := 18, ground := Go.Ground.phase }, { on := 19, ground := Go.Ground.phase }, { on := 20, ground := Go.Ground.phase }, { on := 21, ground := Go.Ground.phase }, { on := 22, ground := Go.Ground.phase }, { on := 23, ground := Go.Ground.phase }, { on := 24, ground := Go.Ground.phase }, { on := 25, ground := Go.Ground.phase }, { on := 26, ground := Go.Ground.phase }, { on := 27, ground := Go.Ground.phase }, { on := 28, ground := Go.Ground.phase }, { on := 29, ground := Go.Ground.phase }, { on := 30, ground := Go.Ground.phase }, { on := 31, ground := Go.Ground.phase }, { on := 32, ground := Go.Ground.phase }, { on := 33, ground := Go.Ground.phase }, { on := 34, ground := Go.Ground.phase }], guard := none }) (v := ?_) rfl (by kernel_rfl) (by kernel_rfl) (by kernel_rfl) (fun _ _ _ h => h) (Or.inl ⟨by rfl, ?_⟩) (by assumption) ?_
    rotate_left 1
    · (intro w hSw; (try dsimp only at hSw); go_simp; try with_reducible rfl)
    (try simp only [Act.put, List.setIfInBounds_toArray, List.set_cons_zero, List.set_cons_succ])
    refine wpAnyH_done (by kernel_rfl) ?_ _
    go_wp2
    go_ret
    exact ⟨rfl, btrans (btrans (btrans (btrans B5.drew b21) b22) b23) b24⟩
end Go.Proofs.YtajcjanfllpcgaaDoor
