/- Of two facts of one node just one overrides the other: the law, walked. -/
import Derived.Test.YtbmnonfnnifoiaaDrawOver
import Derived.Test.YtbmnonfnnifoiaaCast
namespace Go.Proofs.Ytbmnonfnnifoiaa
open Go.ChangeShapes Go.WideShapes Go.ChangeAt Go.RowKit
attribute [local go_sem ↓] Go.wp_at_zero Go.wp_at_succ
theorem over_self (n i s : Int) (g : Bool) : overB n i s g n i s g = false := by unfold overB l3B; cases g <;> simp
theorem l3_not (i s : Int) (g : Bool) (i' s' : Int) (g' : Bool) (h : l3B i s g i' s' g' = true) : l3B i' s' g' i s g = false := by
  unfold l3B at *
  by_cases e1 : i = i'
  · subst e1
    by_cases e2 : s = s'
    · subst e2
      cases g <;> cases g' <;> simp_all
    · have e2' : ¬ s' = s := fun h => e2 h.symm
      simp [e2, e2'] at h ⊢
      omega
  · have e1' : ¬ i' = i := fun h => e1 h.symm
    simp [e1, e1'] at h ⊢
    omega
theorem over_not (n i s : Int) (g : Bool) (n' i' s' : Int) (g' : Bool) (h : overB n i s g n' i' s' g' = true) : overB n' i' s' g' n i s g = false := by
  unfold overB at *
  simp only [Bool.and_eq_true] at h
  rw [l3_not i s g i' s' g' h.2, Bool.and_false]
theorem l3_or (i s : Int) (g : Bool) (i' s' : Int) (g' : Bool) (h1 : l3B i s g i' s' g' = false) (h2 : l3B i' s' g' i s g = false) : i = i' ∧ s = s' ∧ g = g' := by
  unfold l3B at *
  by_cases e1 : i = i'
  · subst e1
    by_cases e2 : s = s'
    · subst e2
      cases g <;> cases g' <;> simp_all
    · have e2' : ¬ s' = s := fun h => e2 h.symm
      simp [e2, e2'] at h1 h2
      omega
  · have e1' : ¬ i' = i := fun h => e1 h.symm
    simp [e1, e1'] at h1 h2
    omega
theorem sover_lit (n i s : Int) (g : Bool) (n' i' s' : Int) (g' : Bool) (b : Bool) (h : overB n i s g n' i' s' g' = b) (w : World) :
    Calls Try.prog 14 #[.agg #[.int .i64 n, .int .i64 i, .int .i64 s, .bool g], .agg #[.int .i64 n', .int .i64 i', .int .i64 s', .bool g']] w fun r w' => r = .returned (.bool b) ∧ Below w.heap.size w w' := h ▸ sover_any n i s g n' i' s' g' w
theorem fover_lit (n i s : Int) (g : Bool) (n' i' s' : Int) (g' : Bool) (b : Bool) (h : overB n i s g n' i' s' g' = b) (w : World) :
    Calls Try.prog 13 #[.agg #[.int .i64 n, .int .i64 i, .int .i64 s, .bool g], .agg #[.int .i64 n', .int .i64 i', .int .i64 s', .bool g']] w fun r w' => r = .returned (.bool b) ∧ Below w.heap.size w w' := h ▸ fover_any n i s g n' i' s' g' w
theorem over_parts (n i s : Int) (g : Bool) (n' i' s' : Int) (g' : Bool) (h : overB n i s g n' i' s' g' = true) : fokB n i s = true ∧ fokB n' i' s' = true ∧ n = n' ∧ l3B i s g i' s' g' = true := by
  unfold overB at h
  simp only [Bool.and_eq_true, decide_eq_true_iff] at h
  exact ⟨h.1.1.1, h.1.1.2, h.1.2, h.2⟩
theorem l3_self (i s : Int) (g : Bool) : l3B i s g i s g = false := by unfold l3B; cases g <;> simp
theorem l3_ne (i s : Int) (g : Bool) (i' s' : Int) (g' : Bool) (h : l3B i s g i' s' g' = true) : ¬ (i = i' ∧ s = s' ∧ g = g') := by
  rintro ⟨rfl, rfl, rfl⟩
  rw [l3_self] at h
  cases h
theorem l3_ne' (i s : Int) (g : Bool) (i' s' : Int) (g' : Bool) (h : l3B i' s' g' i s g = true) : ¬ (i = i' ∧ s = s' ∧ g = g') := by
  rintro ⟨rfl, rfl, rfl⟩
  rw [l3_self] at h
  cases h
theorem same_of_not (n i s : Int) (g : Bool) (i' s' : Int) (g' : Bool) (h1 : fokB n i s = true) (h2 : fokB n i' s' = true) (hA : overB n i s g n i' s' g' = false) (hB : overB n i' s' g' n i s g = false) : i = i' ∧ s = s' ∧ g = g' := by
  unfold overB at hA hB
  rw [h1, h2] at hA hB
  simp at hA hB
  exact l3_or i s g i' s' g' hA hB
set_option maxRecDepth 10000 in
set_option maxHeartbeats 8000000 in
theorem factOver_walk (a : Option Addr) (len cap : Nat) (w : World) (h : Bytes w.heap.size w a len) (hl : len ≤ cap) (hm : len ≤ maxLen) :
    Calls Try.prog 3 #[.slice a len cap] w fun e w' => e = .returned (.bool true) ∧ Below w.heap.size w w' := by
  unfold maxLen at hm
  by_cases hlen : 1048576 < len
  · go_enter Try.func3, Try.ntmps3
    go_wp2
    go_ret
    exact ⟨rfl, Below.refl _ _⟩
  go_enter Try.func3, Try.ntmps3
  go_wp2_with fail
  refine (drawOver_any a len cap _ h hl).mono ?_
  rintro r w1 ⟨n, i, s, g, n', i', s', g', rfl, b1⟩
  have b2 := balloc (.cells #[.int .i64 n', .int .i64 i', .int .i64 s', .bool g'] 24) (balloc (.cells #[.int .i64 n, .int .i64 i, .int .i64 s, .bool g] 24) b1)
  have e2 : (fokB n i s != fokB n i s) = false := by simp
  go_wp2_with fail
  have P0 : ((w1.alloc (.cells #[.int .i64 n, .int .i64 i, .int .i64 s, .bool g] 24)).alloc (.cells #[.int .i64 n', .int .i64 i', .int .i64 s', .bool g'] 24)).cell? ⟨w1.heap.size, 0, none⟩ = some (.int .i64 n) := by simp [go_sem]
  have P1 : ((w1.alloc (.cells #[.int .i64 n, .int .i64 i, .int .i64 s, .bool g] 24)).alloc (.cells #[.int .i64 n', .int .i64 i', .int .i64 s', .bool g'] 24)).cell? ⟨w1.heap.size, 1, none⟩ = some (.int .i64 i) := by simp [go_sem]
  have P2 : ((w1.alloc (.cells #[.int .i64 n, .int .i64 i, .int .i64 s, .bool g] 24)).alloc (.cells #[.int .i64 n', .int .i64 i', .int .i64 s', .bool g'] 24)).cell? ⟨w1.heap.size, 2, none⟩ = some (.int .i64 s) := by simp [go_sem]
  have P3 : ((w1.alloc (.cells #[.int .i64 n, .int .i64 i, .int .i64 s, .bool g] 24)).alloc (.cells #[.int .i64 n', .int .i64 i', .int .i64 s', .bool g'] 24)).cell? ⟨w1.heap.size, 3, none⟩ = some (.bool g) := by simp [go_sem]
  have Q0 : ((w1.alloc (.cells #[.int .i64 n, .int .i64 i, .int .i64 s, .bool g] 24)).alloc (.cells #[.int .i64 n', .int .i64 i', .int .i64 s', .bool g'] 24)).cell? ⟨w1.heap.size + 1, 0, none⟩ = some (.int .i64 n') := by simp [go_sem]
  have Q1 : ((w1.alloc (.cells #[.int .i64 n, .int .i64 i, .int .i64 s, .bool g] 24)).alloc (.cells #[.int .i64 n', .int .i64 i', .int .i64 s', .bool g'] 24)).cell? ⟨w1.heap.size + 1, 1, none⟩ = some (.int .i64 i') := by simp [go_sem]
  have Q2 : ((w1.alloc (.cells #[.int .i64 n, .int .i64 i, .int .i64 s, .bool g] 24)).alloc (.cells #[.int .i64 n', .int .i64 i', .int .i64 s', .bool g'] 24)).cell? ⟨w1.heap.size + 1, 2, none⟩ = some (.int .i64 s') := by simp [go_sem]
  have Q3 : ((w1.alloc (.cells #[.int .i64 n, .int .i64 i, .int .i64 s, .bool g] 24)).alloc (.cells #[.int .i64 n', .int .i64 i', .int .i64 s', .bool g'] 24)).cell? ⟨w1.heap.size + 1, 3, none⟩ = some (.bool g') := by simp [go_sem]
  generalize ((w1.alloc (.cells #[.int .i64 n, .int .i64 i, .int .i64 s, .bool g] 24)).alloc (.cells #[.int .i64 n', .int .i64 i', .int .i64 s', .bool g'] 24)) = W at *
  generalize w1.heap.size + 1 = KB at *
  generalize w1.heap.size = KA at *
  clear b1
  cases hA0 : overB n i s g n' i' s' g'
  · cases hB0 : overB n' i' s' g' n i s g
    · skip
      have hA : Hid (overB n i s g n' i' s' g' = false) := hA0
      have hB : Hid (overB n' i' s' g' n i s g = false) := hB0
      clear hA0 hB0
      refine (fover_lit n i s g n' i' s' g' false hA.out _).mono ?_
      rintro r w2 ⟨rfl, b3⟩
      replace P0 := keep_below b3 (P0)
      replace P1 := keep_below b3 (P1)
      replace P2 := keep_below b3 (P2)
      replace P3 := keep_below b3 (P3)
      replace Q0 := keep_below b3 (Q0)
      replace Q1 := keep_below b3 (Q1)
      replace Q2 := keep_below b3 (Q2)
      replace Q3 := keep_below b3 (Q3)
      have B3 := btrans b2 b3
      clear b2 b3
      go_wp2_with fail
      refine (fover_lit n' i' s' g' n i s g false hB.out _).mono ?_
      rintro r w3 ⟨rfl, b4⟩
      replace P0 := keep_below b4 (P0)
      replace P1 := keep_below b4 (P1)
      replace P2 := keep_below b4 (P2)
      replace P3 := keep_below b4 (P3)
      replace Q0 := keep_below b4 (Q0)
      replace Q1 := keep_below b4 (Q1)
      replace Q2 := keep_below b4 (Q2)
      replace Q3 := keep_below b4 (Q3)
      have B4 := btrans B3 b4
      clear B3 b4
      go_wp2_with fail
      refine wp_region_held_drew (S := (fun w' => w'.cell? ⟨KA, 0, none⟩ = some (.int .i64 n) ∧ w'.cell? ⟨KA, 1, none⟩ = some (.int .i64 i) ∧ w'.cell? ⟨KA, 2, none⟩ = some (.int .i64 s) ∧ w'.cell? ⟨KA, 3, none⟩ = some (.bool g) ∧ w'.cell? ⟨KB, 0, none⟩ = some (.int .i64 n') ∧ w'.cell? ⟨KB, 1, none⟩ = some (.int .i64 i') ∧ w'.cell? ⟨KB, 2, none⟩ = some (.int .i64 s') ∧ w'.cell? ⟨KB, 3, none⟩ = some (.bool g'))) (by kernel_rfl) ?_ (fun hHeld => ?_)
      · (try dsimp only); (refine ⟨?_, ?_, ?_, ?_, ?_, ?_, ?_, ?_⟩ <;> (repeat (first | with_reducible assumption | with_reducible refine keep_drew ?_ | with_reducible refine keep_below (by assumption) ?_)))
      refine wpAnyH_take (i := 0) (oi := { dst := some 21, op := Go.Op.move (Go.Operand.tmp 5), type := 4, pos := "laws.go:239", after := #[], guard := none }) (v := ?_) rfl (by kernel_rfl) (by kernel_rfl) (by kernel_rfl) (fun _ _ _ h => h) (Or.inl ⟨by rfl, ?_⟩) (by assumption) ?_
      rotate_left 1
      · (intro w hSw; (try dsimp only at hSw); go_simp; try with_reducible rfl)
      (try simp only [Act.put, List.setIfInBounds_toArray, List.set_cons_zero, List.set_cons_succ])
      refine wpAnyH_take (i := 1) (oi := { dst := some 22, op := Go.Op.load 24 (Go.Operand.tmp 3), type := 24, pos := "laws.go:239", after := #[], guard := none }) (v := ?_) rfl (by kernel_rfl) (by kernel_rfl) (by kernel_rfl) (fun _ _ _ h => h) (Or.inl ⟨by rfl, ?_⟩) (by assumption) ?_
      rotate_left 1
      · (intro w hSw; (try dsimp only at hSw); go_simp; try with_reducible rfl)
      (try simp only [Act.put, List.setIfInBounds_toArray, List.set_cons_zero, List.set_cons_succ])
      refine wpAnyH_take (i := 2) (oi := { dst := some 23, op := Go.Op.load 24 (Go.Operand.tmp 4), type := 24, pos := "laws.go:239", after := #[], guard := none }) (v := ?_) rfl (by kernel_rfl) (by kernel_rfl) (by kernel_rfl) (fun _ _ _ h => h) (Or.inl ⟨by rfl, ?_⟩) (by assumption) ?_
      rotate_left 1
      · (intro w hSw; (try dsimp only at hSw); go_simp; try with_reducible rfl)
      (try simp only [Act.put, List.setIfInBounds_toArray, List.set_cons_zero, List.set_cons_succ])
      refine wpAnyH_ready (rs := [3]) (by kernel_rfl) (by simp) ?_
      refine AllReadyH.cons (o := { dst := some 24, op := Go.Op.call { callee := Go.Callee.value (Go.Operand.func 14), args := #[Go.Operand.tmp 22, Go.Operand.tmp 23], argTypes := #[24, 24] }, type := 4, pos := "laws.go:239", after := #[{ on := 1, ground := Go.Ground.data }, { on := 2, ground := Go.Ground.data }], guard := none }) rfl (fun K hK => ?_) AllReadyH.nil
      go_simp
      (refine (sover_lit n i s g n' i' s' g' false hA.out _).mono ?_; rintro e w11 ⟨rfl, b11⟩)
      go_wp2_with fail
      refine hK.out _ _ ?_ (fun hHeld => ?_)
      · (try dsimp only); (refine ⟨?_, ?_, ?_, ?_, ?_, ?_, ?_, ?_⟩ <;> (repeat (first | with_reducible assumption | with_reducible refine keep_drew ?_ | with_reducible refine keep_below (by assumption) ?_)))
      clear hK K
      (try simp only [Act.put, List.setIfInBounds_toArray, List.set_cons_zero, List.set_cons_succ])
      refine wpAnyH_take (i := 4) (oi := { dst := some 25, op := Go.Op.binOp Go.BinOp.neq 4 (Go.Operand.tmp 21) (Go.Operand.tmp 24) 4, type := 4, pos := "laws.go:239", after := #[{ on := 0, ground := Go.Ground.data }, { on := 3, ground := Go.Ground.data }], guard := none }) (v := ?_) rfl (by kernel_rfl) (by kernel_rfl) (by kernel_rfl) (fun _ _ _ h => h) (Or.inl ⟨by rfl, ?_⟩) (by assumption) ?_
      rotate_left 1
      · (intro w hSw; (try dsimp only at hSw); go_simp; try with_reducible rfl)
      (try simp only [Act.put, List.setIfInBounds_toArray, List.set_cons_zero, List.set_cons_succ])
      refine wpAnyH_take (i := 5) (oi := { dst := some 26, op := Go.Op.move (Go.Operand.tmp 25), type := 4, pos := "laws.go:239", after := #[{ on := 4, ground := Go.Ground.data }, { on := 3, ground := Go.Ground.chain }], guard := none }) (v := ?_) rfl (by kernel_rfl) (by kernel_rfl) (by kernel_rfl) (fun _ _ _ h => h) (Or.inl ⟨by rfl, ?_⟩) (by assumption) ?_
      rotate_left 1
      · (intro w hSw; (try dsimp only at hSw); go_simp; try with_reducible rfl)
      (try simp only [Act.put, List.setIfInBounds_toArray, List.set_cons_zero, List.set_cons_succ])
      refine wpAnyH_take (i := 6) (oi := { dst := some 27, op := Go.Op.move (Go.Operand.tmp 6), type := 4, pos := "laws.go:239", after := #[{ on := 5, ground := Go.Ground.guard }], guard := some (5, false) }) (v := ?_) rfl (by kernel_rfl) (by kernel_rfl) (by kernel_rfl) (fun _ _ _ h => h) (Or.inl ⟨by rfl, ?_⟩) (by assumption) ?_
      rotate_left 1
      · (intro w hSw; (try dsimp only at hSw); go_simp; try with_reducible rfl)
      (try simp only [Act.put, List.setIfInBounds_toArray, List.set_cons_zero, List.set_cons_succ])
      refine wpAnyH_take (i := 7) (oi := { dst := some 28, op := Go.Op.load 24 (Go.Operand.tmp 4), type := 24, pos := "laws.go:239", after := #[{ on := 5, ground := Go.Ground.guard }], guard := some (5, false) }) (v := ?_) rfl (by kernel_rfl) (by kernel_rfl) (by kernel_rfl) (fun _ _ _ h => h) (Or.inl ⟨by rfl, ?_⟩) (by assumption) ?_
      rotate_left 1
      · (intro w hSw; (try dsimp only at hSw); go_simp; try with_reducible rfl)
      (try simp only [Act.put, List.setIfInBounds_toArray, List.set_cons_zero, List.set_cons_succ])
      refine wpAnyH_take (i := 8) (oi := { dst := some 29, op := Go.Op.load 24 (Go.Operand.tmp 3), type := 24, pos := "laws.go:239", after := #[{ on := 5, ground := Go.Ground.guard }], guard := some (5, false) }) (v := ?_) rfl (by kernel_rfl) (by kernel_rfl) (by kernel_rfl) (fun _ _ _ h => h) (Or.inl ⟨by rfl, ?_⟩) (by assumption) ?_
      rotate_left 1
      · (intro w hSw; (try dsimp only at hSw); go_simp; try with_reducible rfl)
      (try simp only [Act.put, List.setIfInBounds_toArray, List.set_cons_zero, List.set_cons_succ])
      refine wpAnyH_ready (rs := [9]) (by kernel_rfl) (by simp) ?_
      refine AllReadyH.cons (o := { dst := some 30, op := Go.Op.call { callee := Go.Callee.value (Go.Operand.func 14), args := #[Go.Operand.tmp 28, Go.Operand.tmp 29], argTypes := #[24, 24] }, type := 4, pos := "laws.go:239", after := #[{ on := 7, ground := Go.Ground.data }, { on := 8, ground := Go.Ground.data }, { on := 5, ground := Go.Ground.chain }, { on := 5, ground := Go.Ground.guard }], guard := some (5, false) }) rfl (fun K hK => ?_) AllReadyH.nil
      go_simp
      (refine (sover_lit n' i' s' g' n i s g false hB.out _).mono ?_; rintro e w12 ⟨rfl, b12⟩)
      go_wp2_with fail
      refine hK.out _ _ ?_ (fun hHeld => ?_)
      · (try dsimp only); (refine ⟨?_, ?_, ?_, ?_, ?_, ?_, ?_, ?_⟩ <;> (repeat (first | with_reducible assumption | with_reducible refine keep_drew ?_ | with_reducible refine keep_below (by assumption) ?_)))
      clear hK K
      (try simp only [Act.put, List.setIfInBounds_toArray, List.set_cons_zero, List.set_cons_succ])
      refine wpAnyH_take (i := 10) (oi := { dst := some 31, op := Go.Op.binOp Go.BinOp.neq 4 (Go.Operand.tmp 27) (Go.Operand.tmp 30) 4, type := 4, pos := "laws.go:239", after := #[{ on := 6, ground := Go.Ground.data }, { on := 9, ground := Go.Ground.data }, { on := 5, ground := Go.Ground.guard }], guard := some (5, false) }) (v := ?_) rfl (by kernel_rfl) (by kernel_rfl) (by kernel_rfl) (fun _ _ _ h => h) (Or.inl ⟨by rfl, ?_⟩) (by assumption) ?_
      rotate_left 1
      · (intro w hSw; (try dsimp only at hSw); go_simp; try with_reducible rfl)
      (try simp only [Act.put, List.setIfInBounds_toArray, List.set_cons_zero, List.set_cons_succ])
      refine wpAnyH_take (i := 11) (oi := { dst := some 32, op := Go.Op.pick (Go.Operand.tmp 26) (Go.Operand.const (Go.Value.bool true)) (Go.Operand.tmp 31), type := 4, pos := "laws.go:239", after := #[{ on := 5, ground := Go.Ground.data }, { on := 10, ground := Go.Ground.data }], guard := none }) (v := ?_) rfl (by kernel_rfl) (by kernel_rfl) (by kernel_rfl) (fun _ _ _ h => h) (Or.inl ⟨by rfl, ?_⟩) (by assumption) ?_
      rotate_left 1
      · (intro w hSw; (try dsimp only at hSw); go_simp; try with_reducible rfl)
      (try simp only [Act.put, List.setIfInBounds_toArray, List.set_cons_zero, List.set_cons_succ])
      refine wpAnyH_take (i := 12) (oi := { dst := some 33, op := Go.Op.move (Go.Operand.tmp 32), type := 4, pos := "laws.go:239", after := #[{ on := 11, ground := Go.Ground.data }, { on := 9, ground := Go.Ground.chain }], guard := none }) (v := ?_) rfl (by kernel_rfl) (by kernel_rfl) (by kernel_rfl) (fun _ _ _ h => h) (Or.inl ⟨by rfl, ?_⟩) (by assumption) ?_
      rotate_left 1
      · (intro w hSw; (try dsimp only at hSw); go_simp; try with_reducible rfl)
      (try simp only [Act.put, List.setIfInBounds_toArray, List.set_cons_zero, List.set_cons_succ])
      refine wpAnyH_take (i := 13) (oi := { dst := some 34, op := Go.Op.load 24 (Go.Operand.tmp 3), type := 24, pos := "laws.go:239", after := #[{ on := 12, ground := Go.Ground.guard }], guard := some (12, false) }) (v := ?_) rfl (by kernel_rfl) (by kernel_rfl) (by kernel_rfl) (fun _ _ _ h => h) (Or.inl ⟨by rfl, ?_⟩) (by assumption) ?_
      rotate_left 1
      · (intro w hSw; (try dsimp only at hSw); go_simp; try with_reducible rfl)
      (try simp only [Act.put, List.setIfInBounds_toArray, List.set_cons_zero, List.set_cons_succ])
      refine wpAnyH_take (i := 15) (oi := { dst := some 36, op := Go.Op.load 24 (Go.Operand.tmp 3), type := 24, pos := "laws.go:239", after := #[{ on := 12, ground := Go.Ground.guard }], guard := some (12, false) }) (v := ?_) rfl (by kernel_rfl) (by kernel_rfl) (by kernel_rfl) (fun _ _ _ h => h) (Or.inl ⟨by rfl, ?_⟩) (by assumption) ?_
      rotate_left 1
      · (intro w hSw; (try dsimp only at hSw); go_simp; try with_reducible rfl)
      (try simp only [Act.put, List.setIfInBounds_toArray, List.set_cons_zero, List.set_cons_succ])
      refine wpAnyH_ready (rs := [14]) (by kernel_rfl) (by simp) ?_
      refine AllReadyH.cons (o := { dst := some 35, op := Go.Op.call { callee := Go.Callee.value (Go.Operand.func 15), args := #[Go.Operand.tmp 34], argTypes := #[24] }, type := 4, pos := "laws.go:239", after := #[{ on := 13, ground := Go.Ground.data }, { on := 12, ground := Go.Ground.chain }, { on := 12, ground := Go.Ground.guard }], guard := some (12, false) }) rfl (fun K hK => ?_) AllReadyH.nil
      go_simp
      (refine (fok_below n i s g _).mono ?_; rintro e w13 ⟨rfl, b13⟩)
      go_wp2_with fail
      refine hK.out _ _ ?_ (fun hHeld => ?_)
      · (try dsimp only); (refine ⟨?_, ?_, ?_, ?_, ?_, ?_, ?_, ?_⟩ <;> (repeat (first | with_reducible assumption | with_reducible refine keep_drew ?_ | with_reducible refine keep_below (by assumption) ?_)))
      clear hK K
      (try simp only [Act.put, List.setIfInBounds_toArray, List.set_cons_zero, List.set_cons_succ])
      refine wpAnyH_ready (rs := [16]) (by kernel_rfl) (by simp) ?_
      refine AllReadyH.cons (o := { dst := some 37, op := Go.Op.call { callee := Go.Callee.value (Go.Operand.func 16), args := #[Go.Operand.tmp 36], argTypes := #[24] }, type := 4, pos := "laws.go:239", after := #[{ on := 15, ground := Go.Ground.data }, { on := 14, ground := Go.Ground.chain }, { on := 12, ground := Go.Ground.guard }], guard := some (12, false) }) rfl (fun K hK => ?_) AllReadyH.nil
      go_simp
      (refine (sfok_below n i s g _).mono ?_; rintro e w14 ⟨rfl, b14⟩)
      go_wp2_with fail
      refine hK.out _ _ ?_ (fun hHeld => ?_)
      · (try dsimp only); (refine ⟨?_, ?_, ?_, ?_, ?_, ?_, ?_, ?_⟩ <;> (repeat (first | with_reducible assumption | with_reducible refine keep_drew ?_ | with_reducible refine keep_below (by assumption) ?_)))
      clear hK K
      (try simp only [Act.put, List.setIfInBounds_toArray, List.set_cons_zero, List.set_cons_succ])
      refine wpAnyH_take (i := 17) (oi := { dst := some 38, op := Go.Op.binOp Go.BinOp.neq 4 (Go.Operand.tmp 35) (Go.Operand.tmp 37) 4, type := 4, pos := "laws.go:239", after := #[{ on := 14, ground := Go.Ground.data }, { on := 16, ground := Go.Ground.data }, { on := 12, ground := Go.Ground.guard }], guard := some (12, false) }) (v := ?_) rfl (by kernel_rfl) (by kernel_rfl) (by kernel_rfl) (fun _ _ _ h => h) (Or.inl ⟨by rfl, ?_⟩) (by assumption) ?_
      rotate_left 1
      · (intro w hSw; (try dsimp only at hSw); go_simp; try with_reducible rfl)
      (try simp only [Act.put, List.setIfInBounds_toArray, List.set_cons_zero, List.set_cons_succ])
      refine wpAnyH_take (i := 18) (oi := { dst := some 39, op := Go.Op.pick (Go.Operand.tmp 33) (Go.Operand.const (Go.Value.bool true)) (Go.Operand.tmp 38), type := 4, pos := "laws.go:239", after := #[{ on := 12, ground := Go.Ground.data }, { on := 17, ground := Go.Ground.data }], guard := none }) (v := ?_) rfl (by kernel_rfl) (by kernel_rfl) (by kernel_rfl) (fun _ _ _ h => h) (Or.inl ⟨by rfl, ?_⟩) (by assumption) ?_
      rotate_left 1
      · (intro w hSw; (try dsimp only at hSw); go_simp; try with_reducible rfl)
      (try simp only [Act.put, List.setIfInBounds_toArray, List.set_cons_zero, List.set_cons_succ])
      refine wpAnyH_take (i := 19) (oi := { dst := some 40, op := Go.Op.move (Go.Operand.tmp 39), type := 4, pos := "laws.go:239", after := #[{ on := 18, ground := Go.Ground.data }, { on := 16, ground := Go.Ground.chain }], guard := none }) (v := ?_) rfl (by kernel_rfl) (by kernel_rfl) (by kernel_rfl) (fun _ _ _ h => h) (Or.inl ⟨by rfl, ?_⟩) (by assumption) ?_
      rotate_left 1
      · (intro w hSw; (try dsimp only at hSw); go_simp; try with_reducible rfl)
      (try simp only [Act.put, List.setIfInBounds_toArray, List.set_cons_zero, List.set_cons_succ])
      refine wpAnyH_take (i := 20) (oi := { dst := some 41, op := Go.Op.load 24 (Go.Operand.tmp 3), type := 24, pos := "laws.go:239", after := #[{ on := 19, ground := Go.Ground.guard }], guard := some (19, false) }) (v := ?_) rfl (by kernel_rfl) (by kernel_rfl) (by kernel_rfl) (fun _ _ _ h => h) (Or.inl ⟨by rfl, ?_⟩) (by assumption) ?_
      rotate_left 1
      · (intro w hSw; (try dsimp only at hSw); go_simp; try with_reducible rfl)
      (try simp only [Act.put, List.setIfInBounds_toArray, List.set_cons_zero, List.set_cons_succ])
      refine wpAnyH_take (i := 21) (oi := { dst := some 42, op := Go.Op.load 24 (Go.Operand.tmp 3), type := 24, pos := "laws.go:239", after := #[{ on := 19, ground := Go.Ground.guard }], guard := some (19, false) }) (v := ?_) rfl (by kernel_rfl) (by kernel_rfl) (by kernel_rfl) (fun _ _ _ h => h) (Or.inl ⟨by rfl, ?_⟩) (by assumption) ?_
      rotate_left 1
      · (intro w hSw; (try dsimp only at hSw); go_simp; try with_reducible rfl)
      (try simp only [Act.put, List.setIfInBounds_toArray, List.set_cons_zero, List.set_cons_succ])
      refine wpAnyH_ready (rs := [22]) (by kernel_rfl) (by simp) ?_
      refine AllReadyH.cons (o := { dst := some 43, op := Go.Op.call { callee := Go.Callee.value (Go.Operand.func 13), args := #[Go.Operand.tmp 41, Go.Operand.tmp 42], argTypes := #[24, 24] }, type := 4, pos := "laws.go:239", after := #[{ on := 20, ground := Go.Ground.data }, { on := 21, ground := Go.Ground.data }, { on := 19, ground := Go.Ground.chain }, { on := 19, ground := Go.Ground.guard }], guard := some (19, false) }) rfl (fun K hK => ?_) AllReadyH.nil
      go_simp
      (refine (fover_lit n i s g n i s g false (over_self n i s g) _).mono ?_; rintro e w15 ⟨rfl, b15⟩)
      go_wp2_with fail
      refine hK.out _ _ ?_ (fun hHeld => ?_)
      · (try dsimp only); (refine ⟨?_, ?_, ?_, ?_, ?_, ?_, ?_, ?_⟩ <;> (repeat (first | with_reducible assumption | with_reducible refine keep_drew ?_ | with_reducible refine keep_below (by assumption) ?_)))
      clear hK K
      (try simp only [Act.put, List.setIfInBounds_toArray, List.set_cons_zero, List.set_cons_succ])
      refine wpAnyH_take (i := 23) (oi := { dst := some 44, op := Go.Op.pick (Go.Operand.tmp 40) (Go.Operand.const (Go.Value.bool true)) (Go.Operand.tmp 43), type := 4, pos := "laws.go:239", after := #[{ on := 19, ground := Go.Ground.data }, { on := 22, ground := Go.Ground.data }], guard := none }) (v := ?_) rfl (by kernel_rfl) (by kernel_rfl) (by kernel_rfl) (fun _ _ _ h => h) (Or.inl ⟨by rfl, ?_⟩) (by assumption) ?_
      rotate_left 1
      · (intro w hSw; (try dsimp only at hSw); go_simp; try with_reducible rfl)
      (try simp only [Act.put, List.setIfInBounds_toArray, List.set_cons_zero, List.set_cons_succ])
      refine wpAnyH_take (i := 24) (oi := { dst := some 45, op := Go.Op.move (Go.Operand.tmp 44), type := 4, pos := "laws.go:239", after := #[{ on := 23, ground := Go.Ground.data }, { on := 22, ground := Go.Ground.chain }], guard := none }) (v := ?_) rfl (by kernel_rfl) (by kernel_rfl) (by kernel_rfl) (fun _ _ _ h => h) (Or.inl ⟨by rfl, ?_⟩) (by assumption) ?_
      rotate_left 1
      · (intro w hSw; (try dsimp only at hSw); go_simp; try with_reducible rfl)
      (try simp only [Act.put, List.setIfInBounds_toArray, List.set_cons_zero, List.set_cons_succ])
      refine wpAnyH_take (i := 25) (oi := { dst := some 46, op := Go.Op.move (Go.Operand.tmp 5), type := 4, pos := "laws.go:239", after := #[{ on := 24, ground := Go.Ground.guard }], guard := some (24, false) }) (v := ?_) rfl (by kernel_rfl) (by kernel_rfl) (by kernel_rfl) (fun _ _ _ h => h) (Or.inl ⟨by rfl, ?_⟩) (by assumption) ?_
      rotate_left 1
      · (intro w hSw; (try dsimp only at hSw); go_simp; try with_reducible rfl)
      (try simp only [Act.put, List.setIfInBounds_toArray, List.set_cons_zero, List.set_cons_succ])
      refine wpAnyH_take (i := 26) (oi := { dst := some 47, op := Go.Op.move (Go.Operand.tmp 46), type := 4, pos := "laws.go:239", after := #[{ on := 25, ground := Go.Ground.data }, { on := 24, ground := Go.Ground.chain }, { on := 24, ground := Go.Ground.guard }], guard := some (24, false) }) (v := ?_) rfl (by kernel_rfl) (by kernel_rfl) (by kernel_rfl) (fun _ _ _ h => h) (Or.inl ⟨by rfl, ?_⟩) (by assumption) ?_
      rotate_left 1
      · (intro w hSw; (try dsimp only at hSw); go_simp; try with_reducible rfl)
      (try simp only [Act.put, List.setIfInBounds_toArray, List.set_cons_zero, List.set_cons_succ])
      refine wpAnyH_take (i := 27) (oi := { dst := some 48, op := Go.Op.move (Go.Operand.tmp 6), type := 4, pos := "laws.go:239", after := #[{ on := 26, ground := Go.Ground.guard }], guard := some (26, true) }) (v := undef) rfl (by kernel_rfl) (by kernel_rfl) (by kernel_rfl) (fun _ _ _ h => h) (Or.inr ⟨by rfl, rfl⟩) (by assumption) ?_
      (try simp only [Act.put, List.setIfInBounds_toArray, List.set_cons_zero, List.set_cons_succ])
      refine wpAnyH_take (i := 28) (oi := { dst := some 49, op := Go.Op.pick (Go.Operand.tmp 47) (Go.Operand.tmp 48) (Go.Operand.const (Go.Value.bool false)), type := 4, pos := "laws.go:239", after := #[{ on := 26, ground := Go.Ground.data }, { on := 27, ground := Go.Ground.data }, { on := 24, ground := Go.Ground.guard }], guard := some (24, false) }) (v := ?_) rfl (by kernel_rfl) (by kernel_rfl) (by kernel_rfl) (fun _ _ _ h => h) (Or.inl ⟨by rfl, ?_⟩) (by assumption) ?_
      rotate_left 1
      · (intro w hSw; (try dsimp only at hSw); go_simp; try with_reducible rfl)
      (try simp only [Act.put, List.setIfInBounds_toArray, List.set_cons_zero, List.set_cons_succ])
      refine wpAnyH_take (i := 29) (oi := { dst := some 50, op := Go.Op.pick (Go.Operand.tmp 45) (Go.Operand.const (Go.Value.bool true)) (Go.Operand.tmp 49), type := 4, pos := "laws.go:239", after := #[{ on := 24, ground := Go.Ground.data }, { on := 28, ground := Go.Ground.data }], guard := none }) (v := ?_) rfl (by kernel_rfl) (by kernel_rfl) (by kernel_rfl) (fun _ _ _ h => h) (Or.inl ⟨by rfl, ?_⟩) (by assumption) ?_
      rotate_left 1
      · (intro w hSw; (try dsimp only at hSw); go_simp; try with_reducible rfl)
      (try simp only [Act.put, List.setIfInBounds_toArray, List.set_cons_zero, List.set_cons_succ])
      refine wpAnyH_done (by kernel_rfl) ?_ _
      have B9 := btrans (btrans (btrans (btrans (btrans B4.drew b11) b12) b13) b14) b15
      replace P0 := keep_below b15 (keep_below b14 (keep_below b13 (keep_below b12 (keep_below b11 (keep_drew (P0))))))
      replace P1 := keep_below b15 (keep_below b14 (keep_below b13 (keep_below b12 (keep_below b11 (keep_drew (P1))))))
      replace P2 := keep_below b15 (keep_below b14 (keep_below b13 (keep_below b12 (keep_below b11 (keep_drew (P2))))))
      replace P3 := keep_below b15 (keep_below b14 (keep_below b13 (keep_below b12 (keep_below b11 (keep_drew (P3))))))
      replace Q0 := keep_below b15 (keep_below b14 (keep_below b13 (keep_below b12 (keep_below b11 (keep_drew (Q0))))))
      replace Q1 := keep_below b15 (keep_below b14 (keep_below b13 (keep_below b12 (keep_below b11 (keep_drew (Q1))))))
      replace Q2 := keep_below b15 (keep_below b14 (keep_below b13 (keep_below b12 (keep_below b11 (keep_drew (Q2))))))
      replace Q3 := keep_below b15 (keep_below b14 (keep_below b13 (keep_below b12 (keep_below b11 (keep_drew (Q3))))))
      clear B4 b11 b12 b13 b14 b15 hHeld
      cases z1 : fokB n i s
      · have z1' : Hid (fokB n i s = false) := z1
        clear z1
        go_wp2_with fail
        refine (sfok_lit n i s g false z1'.out _).mono ?_
        rintro r w5 ⟨rfl, b5⟩
        have B5 := btrans B9 b5
        go_wp2
        go_ret
        exact ⟨rfl, B5⟩
      · have z1' : Hid (fokB n i s = true) := z1
        clear z1
        cases z2 : fokB n' i' s'
        · have z2' : Hid (fokB n' i' s' = false) := z2
          clear z2
          go_wp2_with fail
          refine (sfok_lit n i s g true z1'.out _).mono ?_
          rintro r w5 ⟨rfl, b5⟩
          replace P0 := keep_below b5 (P0)
          replace P1 := keep_below b5 (P1)
          replace P2 := keep_below b5 (P2)
          replace P3 := keep_below b5 (P3)
          replace Q0 := keep_below b5 (Q0)
          replace Q1 := keep_below b5 (Q1)
          replace Q2 := keep_below b5 (Q2)
          replace Q3 := keep_below b5 (Q3)
          have B5 := btrans B9 b5
          clear b5 B9
          go_wp2_with fail
          refine (sfok_lit n' i' s' g' false z2'.out _).mono ?_
          rintro r w6 ⟨rfl, b6⟩
          have B6 := btrans B5 b6
          go_wp2
          go_ret
          exact ⟨rfl, B6⟩
        · have z2' : Hid (fokB n' i' s' = true) := z2
          clear z2
          go_wp2_with fail
          refine (sfok_lit n i s g true z1'.out _).mono ?_
          rintro r w5 ⟨rfl, b5⟩
          replace P0 := keep_below b5 (P0)
          replace P1 := keep_below b5 (P1)
          replace P2 := keep_below b5 (P2)
          replace P3 := keep_below b5 (P3)
          replace Q0 := keep_below b5 (Q0)
          replace Q1 := keep_below b5 (Q1)
          replace Q2 := keep_below b5 (Q2)
          replace Q3 := keep_below b5 (Q3)
          have B5 := btrans B9 b5
          clear b5 B9
          go_wp2_with fail
          refine (sfok_lit n' i' s' g' true z2'.out _).mono ?_
          rintro r w6 ⟨rfl, b6⟩
          replace P0 := keep_below b6 (P0)
          replace P1 := keep_below b6 (P1)
          replace P2 := keep_below b6 (P2)
          replace P3 := keep_below b6 (P3)
          replace Q0 := keep_below b6 (Q0)
          replace Q1 := keep_below b6 (Q1)
          replace Q2 := keep_below b6 (Q2)
          replace Q3 := keep_below b6 (Q3)
          have B6 := btrans B5 b6
          clear b6 B5
          by_cases hn : n = n'
          · subst hn
            obtain ⟨rfl, rfl, rfl⟩ := same_of_not n i s g i' s' g' z1'.out z2'.out hA.out hB.out
            have e3 : (g == g) = true := by simp
            go_wp2
            go_ret
            exact ⟨rfl, B6⟩
          · go_wp2
            go_ret
            exact ⟨rfl, B6⟩

    · skip
      have hA : Hid (overB n i s g n' i' s' g' = false) := hA0
      have hB : Hid (overB n' i' s' g' n i s g = true) := hB0
      clear hA0 hB0
      refine (fover_lit n i s g n' i' s' g' false hA.out _).mono ?_
      rintro r w2 ⟨rfl, b3⟩
      replace P0 := keep_below b3 (P0)
      replace P1 := keep_below b3 (P1)
      replace P2 := keep_below b3 (P2)
      replace P3 := keep_below b3 (P3)
      replace Q0 := keep_below b3 (Q0)
      replace Q1 := keep_below b3 (Q1)
      replace Q2 := keep_below b3 (Q2)
      replace Q3 := keep_below b3 (Q3)
      have B3 := btrans b2 b3
      clear b2 b3
      go_wp2_with fail
      refine (fover_lit n' i' s' g' n i s g true hB.out _).mono ?_
      rintro r w3 ⟨rfl, b4⟩
      replace P0 := keep_below b4 (P0)
      replace P1 := keep_below b4 (P1)
      replace P2 := keep_below b4 (P2)
      replace P3 := keep_below b4 (P3)
      replace Q0 := keep_below b4 (Q0)
      replace Q1 := keep_below b4 (Q1)
      replace Q2 := keep_below b4 (Q2)
      replace Q3 := keep_below b4 (Q3)
      have B4 := btrans B3 b4
      clear B3 b4
      go_wp2_with fail
      refine wp_region_held_drew (S := (fun w' => w'.cell? ⟨KA, 0, none⟩ = some (.int .i64 n) ∧ w'.cell? ⟨KA, 1, none⟩ = some (.int .i64 i) ∧ w'.cell? ⟨KA, 2, none⟩ = some (.int .i64 s) ∧ w'.cell? ⟨KA, 3, none⟩ = some (.bool g) ∧ w'.cell? ⟨KB, 0, none⟩ = some (.int .i64 n') ∧ w'.cell? ⟨KB, 1, none⟩ = some (.int .i64 i') ∧ w'.cell? ⟨KB, 2, none⟩ = some (.int .i64 s') ∧ w'.cell? ⟨KB, 3, none⟩ = some (.bool g'))) (by kernel_rfl) ?_ (fun hHeld => ?_)
      · (try dsimp only); (refine ⟨?_, ?_, ?_, ?_, ?_, ?_, ?_, ?_⟩ <;> (repeat (first | with_reducible assumption | with_reducible refine keep_drew ?_ | with_reducible refine keep_below (by assumption) ?_)))
      refine wpAnyH_take (i := 0) (oi := { dst := some 21, op := Go.Op.move (Go.Operand.tmp 5), type := 4, pos := "laws.go:239", after := #[], guard := none }) (v := ?_) rfl (by kernel_rfl) (by kernel_rfl) (by kernel_rfl) (fun _ _ _ h => h) (Or.inl ⟨by rfl, ?_⟩) (by assumption) ?_
      rotate_left 1
      · (intro w hSw; (try dsimp only at hSw); go_simp; try with_reducible rfl)
      (try simp only [Act.put, List.setIfInBounds_toArray, List.set_cons_zero, List.set_cons_succ])
      refine wpAnyH_take (i := 1) (oi := { dst := some 22, op := Go.Op.load 24 (Go.Operand.tmp 3), type := 24, pos := "laws.go:239", after := #[], guard := none }) (v := ?_) rfl (by kernel_rfl) (by kernel_rfl) (by kernel_rfl) (fun _ _ _ h => h) (Or.inl ⟨by rfl, ?_⟩) (by assumption) ?_
      rotate_left 1
      · (intro w hSw; (try dsimp only at hSw); go_simp; try with_reducible rfl)
      (try simp only [Act.put, List.setIfInBounds_toArray, List.set_cons_zero, List.set_cons_succ])
      refine wpAnyH_take (i := 2) (oi := { dst := some 23, op := Go.Op.load 24 (Go.Operand.tmp 4), type := 24, pos := "laws.go:239", after := #[], guard := none }) (v := ?_) rfl (by kernel_rfl) (by kernel_rfl) (by kernel_rfl) (fun _ _ _ h => h) (Or.inl ⟨by rfl, ?_⟩) (by assumption) ?_
      rotate_left 1
      · (intro w hSw; (try dsimp only at hSw); go_simp; try with_reducible rfl)
      (try simp only [Act.put, List.setIfInBounds_toArray, List.set_cons_zero, List.set_cons_succ])
      refine wpAnyH_ready (rs := [3]) (by kernel_rfl) (by simp) ?_
      refine AllReadyH.cons (o := { dst := some 24, op := Go.Op.call { callee := Go.Callee.value (Go.Operand.func 14), args := #[Go.Operand.tmp 22, Go.Operand.tmp 23], argTypes := #[24, 24] }, type := 4, pos := "laws.go:239", after := #[{ on := 1, ground := Go.Ground.data }, { on := 2, ground := Go.Ground.data }], guard := none }) rfl (fun K hK => ?_) AllReadyH.nil
      go_simp
      (refine (sover_lit n i s g n' i' s' g' false hA.out _).mono ?_; rintro e w11 ⟨rfl, b11⟩)
      go_wp2_with fail
      refine hK.out _ _ ?_ (fun hHeld => ?_)
      · (try dsimp only); (refine ⟨?_, ?_, ?_, ?_, ?_, ?_, ?_, ?_⟩ <;> (repeat (first | with_reducible assumption | with_reducible refine keep_drew ?_ | with_reducible refine keep_below (by assumption) ?_)))
      clear hK K
      (try simp only [Act.put, List.setIfInBounds_toArray, List.set_cons_zero, List.set_cons_succ])
      refine wpAnyH_take (i := 4) (oi := { dst := some 25, op := Go.Op.binOp Go.BinOp.neq 4 (Go.Operand.tmp 21) (Go.Operand.tmp 24) 4, type := 4, pos := "laws.go:239", after := #[{ on := 0, ground := Go.Ground.data }, { on := 3, ground := Go.Ground.data }], guard := none }) (v := ?_) rfl (by kernel_rfl) (by kernel_rfl) (by kernel_rfl) (fun _ _ _ h => h) (Or.inl ⟨by rfl, ?_⟩) (by assumption) ?_
      rotate_left 1
      · (intro w hSw; (try dsimp only at hSw); go_simp; try with_reducible rfl)
      (try simp only [Act.put, List.setIfInBounds_toArray, List.set_cons_zero, List.set_cons_succ])
      refine wpAnyH_take (i := 5) (oi := { dst := some 26, op := Go.Op.move (Go.Operand.tmp 25), type := 4, pos := "laws.go:239", after := #[{ on := 4, ground := Go.Ground.data }, { on := 3, ground := Go.Ground.chain }], guard := none }) (v := ?_) rfl (by kernel_rfl) (by kernel_rfl) (by kernel_rfl) (fun _ _ _ h => h) (Or.inl ⟨by rfl, ?_⟩) (by assumption) ?_
      rotate_left 1
      · (intro w hSw; (try dsimp only at hSw); go_simp; try with_reducible rfl)
      (try simp only [Act.put, List.setIfInBounds_toArray, List.set_cons_zero, List.set_cons_succ])
      refine wpAnyH_take (i := 6) (oi := { dst := some 27, op := Go.Op.move (Go.Operand.tmp 6), type := 4, pos := "laws.go:239", after := #[{ on := 5, ground := Go.Ground.guard }], guard := some (5, false) }) (v := ?_) rfl (by kernel_rfl) (by kernel_rfl) (by kernel_rfl) (fun _ _ _ h => h) (Or.inl ⟨by rfl, ?_⟩) (by assumption) ?_
      rotate_left 1
      · (intro w hSw; (try dsimp only at hSw); go_simp; try with_reducible rfl)
      (try simp only [Act.put, List.setIfInBounds_toArray, List.set_cons_zero, List.set_cons_succ])
      refine wpAnyH_take (i := 7) (oi := { dst := some 28, op := Go.Op.load 24 (Go.Operand.tmp 4), type := 24, pos := "laws.go:239", after := #[{ on := 5, ground := Go.Ground.guard }], guard := some (5, false) }) (v := ?_) rfl (by kernel_rfl) (by kernel_rfl) (by kernel_rfl) (fun _ _ _ h => h) (Or.inl ⟨by rfl, ?_⟩) (by assumption) ?_
      rotate_left 1
      · (intro w hSw; (try dsimp only at hSw); go_simp; try with_reducible rfl)
      (try simp only [Act.put, List.setIfInBounds_toArray, List.set_cons_zero, List.set_cons_succ])
      refine wpAnyH_take (i := 8) (oi := { dst := some 29, op := Go.Op.load 24 (Go.Operand.tmp 3), type := 24, pos := "laws.go:239", after := #[{ on := 5, ground := Go.Ground.guard }], guard := some (5, false) }) (v := ?_) rfl (by kernel_rfl) (by kernel_rfl) (by kernel_rfl) (fun _ _ _ h => h) (Or.inl ⟨by rfl, ?_⟩) (by assumption) ?_
      rotate_left 1
      · (intro w hSw; (try dsimp only at hSw); go_simp; try with_reducible rfl)
      (try simp only [Act.put, List.setIfInBounds_toArray, List.set_cons_zero, List.set_cons_succ])
      refine wpAnyH_ready (rs := [9]) (by kernel_rfl) (by simp) ?_
      refine AllReadyH.cons (o := { dst := some 30, op := Go.Op.call { callee := Go.Callee.value (Go.Operand.func 14), args := #[Go.Operand.tmp 28, Go.Operand.tmp 29], argTypes := #[24, 24] }, type := 4, pos := "laws.go:239", after := #[{ on := 7, ground := Go.Ground.data }, { on := 8, ground := Go.Ground.data }, { on := 5, ground := Go.Ground.chain }, { on := 5, ground := Go.Ground.guard }], guard := some (5, false) }) rfl (fun K hK => ?_) AllReadyH.nil
      go_simp
      (refine (sover_lit n' i' s' g' n i s g true hB.out _).mono ?_; rintro e w12 ⟨rfl, b12⟩)
      go_wp2_with fail
      refine hK.out _ _ ?_ (fun hHeld => ?_)
      · (try dsimp only); (refine ⟨?_, ?_, ?_, ?_, ?_, ?_, ?_, ?_⟩ <;> (repeat (first | with_reducible assumption | with_reducible refine keep_drew ?_ | with_reducible refine keep_below (by assumption) ?_)))
      clear hK K
      (try simp only [Act.put, List.setIfInBounds_toArray, List.set_cons_zero, List.set_cons_succ])
      refine wpAnyH_take (i := 10) (oi := { dst := some 31, op := Go.Op.binOp Go.BinOp.neq 4 (Go.Operand.tmp 27) (Go.Operand.tmp 30) 4, type := 4, pos := "laws.go:239", after := #[{ on := 6, ground := Go.Ground.data }, { on := 9, ground := Go.Ground.data }, { on := 5, ground := Go.Ground.guard }], guard := some (5, false) }) (v := ?_) rfl (by kernel_rfl) (by kernel_rfl) (by kernel_rfl) (fun _ _ _ h => h) (Or.inl ⟨by rfl, ?_⟩) (by assumption) ?_
      rotate_left 1
      · (intro w hSw; (try dsimp only at hSw); go_simp; try with_reducible rfl)
      (try simp only [Act.put, List.setIfInBounds_toArray, List.set_cons_zero, List.set_cons_succ])
      refine wpAnyH_take (i := 11) (oi := { dst := some 32, op := Go.Op.pick (Go.Operand.tmp 26) (Go.Operand.const (Go.Value.bool true)) (Go.Operand.tmp 31), type := 4, pos := "laws.go:239", after := #[{ on := 5, ground := Go.Ground.data }, { on := 10, ground := Go.Ground.data }], guard := none }) (v := ?_) rfl (by kernel_rfl) (by kernel_rfl) (by kernel_rfl) (fun _ _ _ h => h) (Or.inl ⟨by rfl, ?_⟩) (by assumption) ?_
      rotate_left 1
      · (intro w hSw; (try dsimp only at hSw); go_simp; try with_reducible rfl)
      (try simp only [Act.put, List.setIfInBounds_toArray, List.set_cons_zero, List.set_cons_succ])
      refine wpAnyH_take (i := 12) (oi := { dst := some 33, op := Go.Op.move (Go.Operand.tmp 32), type := 4, pos := "laws.go:239", after := #[{ on := 11, ground := Go.Ground.data }, { on := 9, ground := Go.Ground.chain }], guard := none }) (v := ?_) rfl (by kernel_rfl) (by kernel_rfl) (by kernel_rfl) (fun _ _ _ h => h) (Or.inl ⟨by rfl, ?_⟩) (by assumption) ?_
      rotate_left 1
      · (intro w hSw; (try dsimp only at hSw); go_simp; try with_reducible rfl)
      (try simp only [Act.put, List.setIfInBounds_toArray, List.set_cons_zero, List.set_cons_succ])
      refine wpAnyH_take (i := 13) (oi := { dst := some 34, op := Go.Op.load 24 (Go.Operand.tmp 3), type := 24, pos := "laws.go:239", after := #[{ on := 12, ground := Go.Ground.guard }], guard := some (12, false) }) (v := ?_) rfl (by kernel_rfl) (by kernel_rfl) (by kernel_rfl) (fun _ _ _ h => h) (Or.inl ⟨by rfl, ?_⟩) (by assumption) ?_
      rotate_left 1
      · (intro w hSw; (try dsimp only at hSw); go_simp; try with_reducible rfl)
      (try simp only [Act.put, List.setIfInBounds_toArray, List.set_cons_zero, List.set_cons_succ])
      refine wpAnyH_take (i := 15) (oi := { dst := some 36, op := Go.Op.load 24 (Go.Operand.tmp 3), type := 24, pos := "laws.go:239", after := #[{ on := 12, ground := Go.Ground.guard }], guard := some (12, false) }) (v := ?_) rfl (by kernel_rfl) (by kernel_rfl) (by kernel_rfl) (fun _ _ _ h => h) (Or.inl ⟨by rfl, ?_⟩) (by assumption) ?_
      rotate_left 1
      · (intro w hSw; (try dsimp only at hSw); go_simp; try with_reducible rfl)
      (try simp only [Act.put, List.setIfInBounds_toArray, List.set_cons_zero, List.set_cons_succ])
      refine wpAnyH_ready (rs := [14]) (by kernel_rfl) (by simp) ?_
      refine AllReadyH.cons (o := { dst := some 35, op := Go.Op.call { callee := Go.Callee.value (Go.Operand.func 15), args := #[Go.Operand.tmp 34], argTypes := #[24] }, type := 4, pos := "laws.go:239", after := #[{ on := 13, ground := Go.Ground.data }, { on := 12, ground := Go.Ground.chain }, { on := 12, ground := Go.Ground.guard }], guard := some (12, false) }) rfl (fun K hK => ?_) AllReadyH.nil
      go_simp
      (refine (fok_below n i s g _).mono ?_; rintro e w13 ⟨rfl, b13⟩)
      go_wp2_with fail
      refine hK.out _ _ ?_ (fun hHeld => ?_)
      · (try dsimp only); (refine ⟨?_, ?_, ?_, ?_, ?_, ?_, ?_, ?_⟩ <;> (repeat (first | with_reducible assumption | with_reducible refine keep_drew ?_ | with_reducible refine keep_below (by assumption) ?_)))
      clear hK K
      (try simp only [Act.put, List.setIfInBounds_toArray, List.set_cons_zero, List.set_cons_succ])
      refine wpAnyH_ready (rs := [16]) (by kernel_rfl) (by simp) ?_
      refine AllReadyH.cons (o := { dst := some 37, op := Go.Op.call { callee := Go.Callee.value (Go.Operand.func 16), args := #[Go.Operand.tmp 36], argTypes := #[24] }, type := 4, pos := "laws.go:239", after := #[{ on := 15, ground := Go.Ground.data }, { on := 14, ground := Go.Ground.chain }, { on := 12, ground := Go.Ground.guard }], guard := some (12, false) }) rfl (fun K hK => ?_) AllReadyH.nil
      go_simp
      (refine (sfok_below n i s g _).mono ?_; rintro e w14 ⟨rfl, b14⟩)
      go_wp2_with fail
      refine hK.out _ _ ?_ (fun hHeld => ?_)
      · (try dsimp only); (refine ⟨?_, ?_, ?_, ?_, ?_, ?_, ?_, ?_⟩ <;> (repeat (first | with_reducible assumption | with_reducible refine keep_drew ?_ | with_reducible refine keep_below (by assumption) ?_)))
      clear hK K
      (try simp only [Act.put, List.setIfInBounds_toArray, List.set_cons_zero, List.set_cons_succ])
      refine wpAnyH_take (i := 17) (oi := { dst := some 38, op := Go.Op.binOp Go.BinOp.neq 4 (Go.Operand.tmp 35) (Go.Operand.tmp 37) 4, type := 4, pos := "laws.go:239", after := #[{ on := 14, ground := Go.Ground.data }, { on := 16, ground := Go.Ground.data }, { on := 12, ground := Go.Ground.guard }], guard := some (12, false) }) (v := ?_) rfl (by kernel_rfl) (by kernel_rfl) (by kernel_rfl) (fun _ _ _ h => h) (Or.inl ⟨by rfl, ?_⟩) (by assumption) ?_
      rotate_left 1
      · (intro w hSw; (try dsimp only at hSw); go_simp; try with_reducible rfl)
      (try simp only [Act.put, List.setIfInBounds_toArray, List.set_cons_zero, List.set_cons_succ])
      refine wpAnyH_take (i := 18) (oi := { dst := some 39, op := Go.Op.pick (Go.Operand.tmp 33) (Go.Operand.const (Go.Value.bool true)) (Go.Operand.tmp 38), type := 4, pos := "laws.go:239", after := #[{ on := 12, ground := Go.Ground.data }, { on := 17, ground := Go.Ground.data }], guard := none }) (v := ?_) rfl (by kernel_rfl) (by kernel_rfl) (by kernel_rfl) (fun _ _ _ h => h) (Or.inl ⟨by rfl, ?_⟩) (by assumption) ?_
      rotate_left 1
      · (intro w hSw; (try dsimp only at hSw); go_simp; try with_reducible rfl)
      (try simp only [Act.put, List.setIfInBounds_toArray, List.set_cons_zero, List.set_cons_succ])
      refine wpAnyH_take (i := 19) (oi := { dst := some 40, op := Go.Op.move (Go.Operand.tmp 39), type := 4, pos := "laws.go:239", after := #[{ on := 18, ground := Go.Ground.data }, { on := 16, ground := Go.Ground.chain }], guard := none }) (v := ?_) rfl (by kernel_rfl) (by kernel_rfl) (by kernel_rfl) (fun _ _ _ h => h) (Or.inl ⟨by rfl, ?_⟩) (by assumption) ?_
      rotate_left 1
      · (intro w hSw; (try dsimp only at hSw); go_simp; try with_reducible rfl)
      (try simp only [Act.put, List.setIfInBounds_toArray, List.set_cons_zero, List.set_cons_succ])
      refine wpAnyH_take (i := 20) (oi := { dst := some 41, op := Go.Op.load 24 (Go.Operand.tmp 3), type := 24, pos := "laws.go:239", after := #[{ on := 19, ground := Go.Ground.guard }], guard := some (19, false) }) (v := ?_) rfl (by kernel_rfl) (by kernel_rfl) (by kernel_rfl) (fun _ _ _ h => h) (Or.inl ⟨by rfl, ?_⟩) (by assumption) ?_
      rotate_left 1
      · (intro w hSw; (try dsimp only at hSw); go_simp; try with_reducible rfl)
      (try simp only [Act.put, List.setIfInBounds_toArray, List.set_cons_zero, List.set_cons_succ])
      refine wpAnyH_take (i := 21) (oi := { dst := some 42, op := Go.Op.load 24 (Go.Operand.tmp 3), type := 24, pos := "laws.go:239", after := #[{ on := 19, ground := Go.Ground.guard }], guard := some (19, false) }) (v := ?_) rfl (by kernel_rfl) (by kernel_rfl) (by kernel_rfl) (fun _ _ _ h => h) (Or.inl ⟨by rfl, ?_⟩) (by assumption) ?_
      rotate_left 1
      · (intro w hSw; (try dsimp only at hSw); go_simp; try with_reducible rfl)
      (try simp only [Act.put, List.setIfInBounds_toArray, List.set_cons_zero, List.set_cons_succ])
      refine wpAnyH_ready (rs := [22]) (by kernel_rfl) (by simp) ?_
      refine AllReadyH.cons (o := { dst := some 43, op := Go.Op.call { callee := Go.Callee.value (Go.Operand.func 13), args := #[Go.Operand.tmp 41, Go.Operand.tmp 42], argTypes := #[24, 24] }, type := 4, pos := "laws.go:239", after := #[{ on := 20, ground := Go.Ground.data }, { on := 21, ground := Go.Ground.data }, { on := 19, ground := Go.Ground.chain }, { on := 19, ground := Go.Ground.guard }], guard := some (19, false) }) rfl (fun K hK => ?_) AllReadyH.nil
      go_simp
      (refine (fover_lit n i s g n i s g false (over_self n i s g) _).mono ?_; rintro e w15 ⟨rfl, b15⟩)
      go_wp2_with fail
      refine hK.out _ _ ?_ (fun hHeld => ?_)
      · (try dsimp only); (refine ⟨?_, ?_, ?_, ?_, ?_, ?_, ?_, ?_⟩ <;> (repeat (first | with_reducible assumption | with_reducible refine keep_drew ?_ | with_reducible refine keep_below (by assumption) ?_)))
      clear hK K
      (try simp only [Act.put, List.setIfInBounds_toArray, List.set_cons_zero, List.set_cons_succ])
      refine wpAnyH_take (i := 23) (oi := { dst := some 44, op := Go.Op.pick (Go.Operand.tmp 40) (Go.Operand.const (Go.Value.bool true)) (Go.Operand.tmp 43), type := 4, pos := "laws.go:239", after := #[{ on := 19, ground := Go.Ground.data }, { on := 22, ground := Go.Ground.data }], guard := none }) (v := ?_) rfl (by kernel_rfl) (by kernel_rfl) (by kernel_rfl) (fun _ _ _ h => h) (Or.inl ⟨by rfl, ?_⟩) (by assumption) ?_
      rotate_left 1
      · (intro w hSw; (try dsimp only at hSw); go_simp; try with_reducible rfl)
      (try simp only [Act.put, List.setIfInBounds_toArray, List.set_cons_zero, List.set_cons_succ])
      refine wpAnyH_take (i := 24) (oi := { dst := some 45, op := Go.Op.move (Go.Operand.tmp 44), type := 4, pos := "laws.go:239", after := #[{ on := 23, ground := Go.Ground.data }, { on := 22, ground := Go.Ground.chain }], guard := none }) (v := ?_) rfl (by kernel_rfl) (by kernel_rfl) (by kernel_rfl) (fun _ _ _ h => h) (Or.inl ⟨by rfl, ?_⟩) (by assumption) ?_
      rotate_left 1
      · (intro w hSw; (try dsimp only at hSw); go_simp; try with_reducible rfl)
      (try simp only [Act.put, List.setIfInBounds_toArray, List.set_cons_zero, List.set_cons_succ])
      refine wpAnyH_take (i := 25) (oi := { dst := some 46, op := Go.Op.move (Go.Operand.tmp 5), type := 4, pos := "laws.go:239", after := #[{ on := 24, ground := Go.Ground.guard }], guard := some (24, false) }) (v := ?_) rfl (by kernel_rfl) (by kernel_rfl) (by kernel_rfl) (fun _ _ _ h => h) (Or.inl ⟨by rfl, ?_⟩) (by assumption) ?_
      rotate_left 1
      · (intro w hSw; (try dsimp only at hSw); go_simp; try with_reducible rfl)
      (try simp only [Act.put, List.setIfInBounds_toArray, List.set_cons_zero, List.set_cons_succ])
      refine wpAnyH_take (i := 26) (oi := { dst := some 47, op := Go.Op.move (Go.Operand.tmp 46), type := 4, pos := "laws.go:239", after := #[{ on := 25, ground := Go.Ground.data }, { on := 24, ground := Go.Ground.chain }, { on := 24, ground := Go.Ground.guard }], guard := some (24, false) }) (v := ?_) rfl (by kernel_rfl) (by kernel_rfl) (by kernel_rfl) (fun _ _ _ h => h) (Or.inl ⟨by rfl, ?_⟩) (by assumption) ?_
      rotate_left 1
      · (intro w hSw; (try dsimp only at hSw); go_simp; try with_reducible rfl)
      (try simp only [Act.put, List.setIfInBounds_toArray, List.set_cons_zero, List.set_cons_succ])
      refine wpAnyH_take (i := 27) (oi := { dst := some 48, op := Go.Op.move (Go.Operand.tmp 6), type := 4, pos := "laws.go:239", after := #[{ on := 26, ground := Go.Ground.guard }], guard := some (26, true) }) (v := undef) rfl (by kernel_rfl) (by kernel_rfl) (by kernel_rfl) (fun _ _ _ h => h) (Or.inr ⟨by rfl, rfl⟩) (by assumption) ?_
      (try simp only [Act.put, List.setIfInBounds_toArray, List.set_cons_zero, List.set_cons_succ])
      refine wpAnyH_take (i := 28) (oi := { dst := some 49, op := Go.Op.pick (Go.Operand.tmp 47) (Go.Operand.tmp 48) (Go.Operand.const (Go.Value.bool false)), type := 4, pos := "laws.go:239", after := #[{ on := 26, ground := Go.Ground.data }, { on := 27, ground := Go.Ground.data }, { on := 24, ground := Go.Ground.guard }], guard := some (24, false) }) (v := ?_) rfl (by kernel_rfl) (by kernel_rfl) (by kernel_rfl) (fun _ _ _ h => h) (Or.inl ⟨by rfl, ?_⟩) (by assumption) ?_
      rotate_left 1
      · (intro w hSw; (try dsimp only at hSw); go_simp; try with_reducible rfl)
      (try simp only [Act.put, List.setIfInBounds_toArray, List.set_cons_zero, List.set_cons_succ])
      refine wpAnyH_take (i := 29) (oi := { dst := some 50, op := Go.Op.pick (Go.Operand.tmp 45) (Go.Operand.const (Go.Value.bool true)) (Go.Operand.tmp 49), type := 4, pos := "laws.go:239", after := #[{ on := 24, ground := Go.Ground.data }, { on := 28, ground := Go.Ground.data }], guard := none }) (v := ?_) rfl (by kernel_rfl) (by kernel_rfl) (by kernel_rfl) (fun _ _ _ h => h) (Or.inl ⟨by rfl, ?_⟩) (by assumption) ?_
      rotate_left 1
      · (intro w hSw; (try dsimp only at hSw); go_simp; try with_reducible rfl)
      (try simp only [Act.put, List.setIfInBounds_toArray, List.set_cons_zero, List.set_cons_succ])
      refine wpAnyH_done (by kernel_rfl) ?_ _
      have B9 := btrans (btrans (btrans (btrans (btrans B4.drew b11) b12) b13) b14) b15
      replace P0 := keep_below b15 (keep_below b14 (keep_below b13 (keep_below b12 (keep_below b11 (keep_drew (P0))))))
      replace P1 := keep_below b15 (keep_below b14 (keep_below b13 (keep_below b12 (keep_below b11 (keep_drew (P1))))))
      replace P2 := keep_below b15 (keep_below b14 (keep_below b13 (keep_below b12 (keep_below b11 (keep_drew (P2))))))
      replace P3 := keep_below b15 (keep_below b14 (keep_below b13 (keep_below b12 (keep_below b11 (keep_drew (P3))))))
      replace Q0 := keep_below b15 (keep_below b14 (keep_below b13 (keep_below b12 (keep_below b11 (keep_drew (Q0))))))
      replace Q1 := keep_below b15 (keep_below b14 (keep_below b13 (keep_below b12 (keep_below b11 (keep_drew (Q1))))))
      replace Q2 := keep_below b15 (keep_below b14 (keep_below b13 (keep_below b12 (keep_below b11 (keep_drew (Q2))))))
      replace Q3 := keep_below b15 (keep_below b14 (keep_below b13 (keep_below b12 (keep_below b11 (keep_drew (Q3))))))
      clear B4 b11 b12 b13 b14 b15 hHeld
      obtain ⟨y2, y1, y3, y4'⟩ := over_parts _ _ _ _ _ _ _ _ hB.out
      have y5 : Hid (¬ (i = i' ∧ s = s' ∧ g = g')) := l3_ne' _ _ _ _ _ _ y4'
      have z1 : Hid (fokB n i s = true) := y1
      have z2 : Hid (fokB n' i' s' = true) := y2
      obtain rfl : n = n' := y3.symm
      clear y1 y2 y4'
      (try clear y3)
      go_wp2_with fail
      refine (sfok_lit n i s g true z1.out _).mono ?_
      rintro r w5 ⟨rfl, b5⟩
      replace P0 := keep_below b5 (P0)
      replace P1 := keep_below b5 (P1)
      replace P2 := keep_below b5 (P2)
      replace P3 := keep_below b5 (P3)
      replace Q0 := keep_below b5 (Q0)
      replace Q1 := keep_below b5 (Q1)
      replace Q2 := keep_below b5 (Q2)
      replace Q3 := keep_below b5 (Q3)
      have B5 := btrans B9 b5
      clear b5 B9
      go_wp2_with fail
      refine (sfok_lit n i' s' g' true z2.out _).mono ?_
      rintro r w6 ⟨rfl, b6⟩
      replace P0 := keep_below b6 (P0)
      replace P1 := keep_below b6 (P1)
      replace P2 := keep_below b6 (P2)
      replace P3 := keep_below b6 (P3)
      replace Q0 := keep_below b6 (Q0)
      replace Q1 := keep_below b6 (Q1)
      replace Q2 := keep_below b6 (Q2)
      replace Q3 := keep_below b6 (Q3)
      have B6 := btrans B5 b6
      clear b6 B5
      go_wp2
      all_goals (go_ret; refine ⟨ret_bool ?_, B6⟩; have y6 := y5.out; clear y5; first | rfl | (cases g <;> cases g' <;> simp_all))

  · have hB0 := over_not _ _ _ _ _ _ _ _ hA0
    have hA : Hid (overB n i s g n' i' s' g' = true) := hA0
    have hB : Hid (overB n' i' s' g' n i s g = false) := hB0
    clear hA0 hB0
    refine (fover_lit n i s g n' i' s' g' true hA.out _).mono ?_
    rintro r w2 ⟨rfl, b3⟩
    replace P0 := keep_below b3 (P0)
    replace P1 := keep_below b3 (P1)
    replace P2 := keep_below b3 (P2)
    replace P3 := keep_below b3 (P3)
    replace Q0 := keep_below b3 (Q0)
    replace Q1 := keep_below b3 (Q1)
    replace Q2 := keep_below b3 (Q2)
    replace Q3 := keep_below b3 (Q3)
    have B3 := btrans b2 b3
    clear b2 b3
    go_wp2_with fail
    refine (fover_lit n' i' s' g' n i s g false hB.out _).mono ?_
    rintro r w3 ⟨rfl, b4⟩
    replace P0 := keep_below b4 (P0)
    replace P1 := keep_below b4 (P1)
    replace P2 := keep_below b4 (P2)
    replace P3 := keep_below b4 (P3)
    replace Q0 := keep_below b4 (Q0)
    replace Q1 := keep_below b4 (Q1)
    replace Q2 := keep_below b4 (Q2)
    replace Q3 := keep_below b4 (Q3)
    have B4 := btrans B3 b4
    clear B3 b4
    go_wp2_with fail
    refine wp_region_held_drew (S := (fun w' => w'.cell? ⟨KA, 0, none⟩ = some (.int .i64 n) ∧ w'.cell? ⟨KA, 1, none⟩ = some (.int .i64 i) ∧ w'.cell? ⟨KA, 2, none⟩ = some (.int .i64 s) ∧ w'.cell? ⟨KA, 3, none⟩ = some (.bool g) ∧ w'.cell? ⟨KB, 0, none⟩ = some (.int .i64 n') ∧ w'.cell? ⟨KB, 1, none⟩ = some (.int .i64 i') ∧ w'.cell? ⟨KB, 2, none⟩ = some (.int .i64 s') ∧ w'.cell? ⟨KB, 3, none⟩ = some (.bool g'))) (by kernel_rfl) ?_ (fun hHeld => ?_)
    · (try dsimp only); (refine ⟨?_, ?_, ?_, ?_, ?_, ?_, ?_, ?_⟩ <;> (repeat (first | with_reducible assumption | with_reducible refine keep_drew ?_ | with_reducible refine keep_below (by assumption) ?_)))
    refine wpAnyH_take (i := 0) (oi := { dst := some 21, op := Go.Op.move (Go.Operand.tmp 5), type := 4, pos := "laws.go:239", after := #[], guard := none }) (v := ?_) rfl (by kernel_rfl) (by kernel_rfl) (by kernel_rfl) (fun _ _ _ h => h) (Or.inl ⟨by rfl, ?_⟩) (by assumption) ?_
    rotate_left 1
    · (intro w hSw; (try dsimp only at hSw); go_simp; try with_reducible rfl)
    (try simp only [Act.put, List.setIfInBounds_toArray, List.set_cons_zero, List.set_cons_succ])
    refine wpAnyH_take (i := 1) (oi := { dst := some 22, op := Go.Op.load 24 (Go.Operand.tmp 3), type := 24, pos := "laws.go:239", after := #[], guard := none }) (v := ?_) rfl (by kernel_rfl) (by kernel_rfl) (by kernel_rfl) (fun _ _ _ h => h) (Or.inl ⟨by rfl, ?_⟩) (by assumption) ?_
    rotate_left 1
    · (intro w hSw; (try dsimp only at hSw); go_simp; try with_reducible rfl)
    (try simp only [Act.put, List.setIfInBounds_toArray, List.set_cons_zero, List.set_cons_succ])
    refine wpAnyH_take (i := 2) (oi := { dst := some 23, op := Go.Op.load 24 (Go.Operand.tmp 4), type := 24, pos := "laws.go:239", after := #[], guard := none }) (v := ?_) rfl (by kernel_rfl) (by kernel_rfl) (by kernel_rfl) (fun _ _ _ h => h) (Or.inl ⟨by rfl, ?_⟩) (by assumption) ?_
    rotate_left 1
    · (intro w hSw; (try dsimp only at hSw); go_simp; try with_reducible rfl)
    (try simp only [Act.put, List.setIfInBounds_toArray, List.set_cons_zero, List.set_cons_succ])
    refine wpAnyH_ready (rs := [3]) (by kernel_rfl) (by simp) ?_
    refine AllReadyH.cons (o := { dst := some 24, op := Go.Op.call { callee := Go.Callee.value (Go.Operand.func 14), args := #[Go.Operand.tmp 22, Go.Operand.tmp 23], argTypes := #[24, 24] }, type := 4, pos := "laws.go:239", after := #[{ on := 1, ground := Go.Ground.data }, { on := 2, ground := Go.Ground.data }], guard := none }) rfl (fun K hK => ?_) AllReadyH.nil
    go_simp
    (refine (sover_lit n i s g n' i' s' g' true hA.out _).mono ?_; rintro e w11 ⟨rfl, b11⟩)
    go_wp2_with fail
    refine hK.out _ _ ?_ (fun hHeld => ?_)
    · (try dsimp only); (refine ⟨?_, ?_, ?_, ?_, ?_, ?_, ?_, ?_⟩ <;> (repeat (first | with_reducible assumption | with_reducible refine keep_drew ?_ | with_reducible refine keep_below (by assumption) ?_)))
    clear hK K
    (try simp only [Act.put, List.setIfInBounds_toArray, List.set_cons_zero, List.set_cons_succ])
    refine wpAnyH_take (i := 4) (oi := { dst := some 25, op := Go.Op.binOp Go.BinOp.neq 4 (Go.Operand.tmp 21) (Go.Operand.tmp 24) 4, type := 4, pos := "laws.go:239", after := #[{ on := 0, ground := Go.Ground.data }, { on := 3, ground := Go.Ground.data }], guard := none }) (v := ?_) rfl (by kernel_rfl) (by kernel_rfl) (by kernel_rfl) (fun _ _ _ h => h) (Or.inl ⟨by rfl, ?_⟩) (by assumption) ?_
    rotate_left 1
    · (intro w hSw; (try dsimp only at hSw); go_simp; try with_reducible rfl)
    (try simp only [Act.put, List.setIfInBounds_toArray, List.set_cons_zero, List.set_cons_succ])
    refine wpAnyH_take (i := 5) (oi := { dst := some 26, op := Go.Op.move (Go.Operand.tmp 25), type := 4, pos := "laws.go:239", after := #[{ on := 4, ground := Go.Ground.data }, { on := 3, ground := Go.Ground.chain }], guard := none }) (v := ?_) rfl (by kernel_rfl) (by kernel_rfl) (by kernel_rfl) (fun _ _ _ h => h) (Or.inl ⟨by rfl, ?_⟩) (by assumption) ?_
    rotate_left 1
    · (intro w hSw; (try dsimp only at hSw); go_simp; try with_reducible rfl)
    (try simp only [Act.put, List.setIfInBounds_toArray, List.set_cons_zero, List.set_cons_succ])
    refine wpAnyH_take (i := 6) (oi := { dst := some 27, op := Go.Op.move (Go.Operand.tmp 6), type := 4, pos := "laws.go:239", after := #[{ on := 5, ground := Go.Ground.guard }], guard := some (5, false) }) (v := ?_) rfl (by kernel_rfl) (by kernel_rfl) (by kernel_rfl) (fun _ _ _ h => h) (Or.inl ⟨by rfl, ?_⟩) (by assumption) ?_
    rotate_left 1
    · (intro w hSw; (try dsimp only at hSw); go_simp; try with_reducible rfl)
    (try simp only [Act.put, List.setIfInBounds_toArray, List.set_cons_zero, List.set_cons_succ])
    refine wpAnyH_take (i := 7) (oi := { dst := some 28, op := Go.Op.load 24 (Go.Operand.tmp 4), type := 24, pos := "laws.go:239", after := #[{ on := 5, ground := Go.Ground.guard }], guard := some (5, false) }) (v := ?_) rfl (by kernel_rfl) (by kernel_rfl) (by kernel_rfl) (fun _ _ _ h => h) (Or.inl ⟨by rfl, ?_⟩) (by assumption) ?_
    rotate_left 1
    · (intro w hSw; (try dsimp only at hSw); go_simp; try with_reducible rfl)
    (try simp only [Act.put, List.setIfInBounds_toArray, List.set_cons_zero, List.set_cons_succ])
    refine wpAnyH_take (i := 8) (oi := { dst := some 29, op := Go.Op.load 24 (Go.Operand.tmp 3), type := 24, pos := "laws.go:239", after := #[{ on := 5, ground := Go.Ground.guard }], guard := some (5, false) }) (v := ?_) rfl (by kernel_rfl) (by kernel_rfl) (by kernel_rfl) (fun _ _ _ h => h) (Or.inl ⟨by rfl, ?_⟩) (by assumption) ?_
    rotate_left 1
    · (intro w hSw; (try dsimp only at hSw); go_simp; try with_reducible rfl)
    (try simp only [Act.put, List.setIfInBounds_toArray, List.set_cons_zero, List.set_cons_succ])
    refine wpAnyH_ready (rs := [9]) (by kernel_rfl) (by simp) ?_
    refine AllReadyH.cons (o := { dst := some 30, op := Go.Op.call { callee := Go.Callee.value (Go.Operand.func 14), args := #[Go.Operand.tmp 28, Go.Operand.tmp 29], argTypes := #[24, 24] }, type := 4, pos := "laws.go:239", after := #[{ on := 7, ground := Go.Ground.data }, { on := 8, ground := Go.Ground.data }, { on := 5, ground := Go.Ground.chain }, { on := 5, ground := Go.Ground.guard }], guard := some (5, false) }) rfl (fun K hK => ?_) AllReadyH.nil
    go_simp
    (refine (sover_lit n' i' s' g' n i s g false hB.out _).mono ?_; rintro e w12 ⟨rfl, b12⟩)
    go_wp2_with fail
    refine hK.out _ _ ?_ (fun hHeld => ?_)
    · (try dsimp only); (refine ⟨?_, ?_, ?_, ?_, ?_, ?_, ?_, ?_⟩ <;> (repeat (first | with_reducible assumption | with_reducible refine keep_drew ?_ | with_reducible refine keep_below (by assumption) ?_)))
    clear hK K
    (try simp only [Act.put, List.setIfInBounds_toArray, List.set_cons_zero, List.set_cons_succ])
    refine wpAnyH_take (i := 10) (oi := { dst := some 31, op := Go.Op.binOp Go.BinOp.neq 4 (Go.Operand.tmp 27) (Go.Operand.tmp 30) 4, type := 4, pos := "laws.go:239", after := #[{ on := 6, ground := Go.Ground.data }, { on := 9, ground := Go.Ground.data }, { on := 5, ground := Go.Ground.guard }], guard := some (5, false) }) (v := ?_) rfl (by kernel_rfl) (by kernel_rfl) (by kernel_rfl) (fun _ _ _ h => h) (Or.inl ⟨by rfl, ?_⟩) (by assumption) ?_
    rotate_left 1
    · (intro w hSw; (try dsimp only at hSw); go_simp; try with_reducible rfl)
    (try simp only [Act.put, List.setIfInBounds_toArray, List.set_cons_zero, List.set_cons_succ])
    refine wpAnyH_take (i := 11) (oi := { dst := some 32, op := Go.Op.pick (Go.Operand.tmp 26) (Go.Operand.const (Go.Value.bool true)) (Go.Operand.tmp 31), type := 4, pos := "laws.go:239", after := #[{ on := 5, ground := Go.Ground.data }, { on := 10, ground := Go.Ground.data }], guard := none }) (v := ?_) rfl (by kernel_rfl) (by kernel_rfl) (by kernel_rfl) (fun _ _ _ h => h) (Or.inl ⟨by rfl, ?_⟩) (by assumption) ?_
    rotate_left 1
    · (intro w hSw; (try dsimp only at hSw); go_simp; try with_reducible rfl)
    (try simp only [Act.put, List.setIfInBounds_toArray, List.set_cons_zero, List.set_cons_succ])
    refine wpAnyH_take (i := 12) (oi := { dst := some 33, op := Go.Op.move (Go.Operand.tmp 32), type := 4, pos := "laws.go:239", after := #[{ on := 11, ground := Go.Ground.data }, { on := 9, ground := Go.Ground.chain }], guard := none }) (v := ?_) rfl (by kernel_rfl) (by kernel_rfl) (by kernel_rfl) (fun _ _ _ h => h) (Or.inl ⟨by rfl, ?_⟩) (by assumption) ?_
    rotate_left 1
    · (intro w hSw; (try dsimp only at hSw); go_simp; try with_reducible rfl)
    (try simp only [Act.put, List.setIfInBounds_toArray, List.set_cons_zero, List.set_cons_succ])
    refine wpAnyH_take (i := 13) (oi := { dst := some 34, op := Go.Op.load 24 (Go.Operand.tmp 3), type := 24, pos := "laws.go:239", after := #[{ on := 12, ground := Go.Ground.guard }], guard := some (12, false) }) (v := ?_) rfl (by kernel_rfl) (by kernel_rfl) (by kernel_rfl) (fun _ _ _ h => h) (Or.inl ⟨by rfl, ?_⟩) (by assumption) ?_
    rotate_left 1
    · (intro w hSw; (try dsimp only at hSw); go_simp; try with_reducible rfl)
    (try simp only [Act.put, List.setIfInBounds_toArray, List.set_cons_zero, List.set_cons_succ])
    refine wpAnyH_take (i := 15) (oi := { dst := some 36, op := Go.Op.load 24 (Go.Operand.tmp 3), type := 24, pos := "laws.go:239", after := #[{ on := 12, ground := Go.Ground.guard }], guard := some (12, false) }) (v := ?_) rfl (by kernel_rfl) (by kernel_rfl) (by kernel_rfl) (fun _ _ _ h => h) (Or.inl ⟨by rfl, ?_⟩) (by assumption) ?_
    rotate_left 1
    · (intro w hSw; (try dsimp only at hSw); go_simp; try with_reducible rfl)
    (try simp only [Act.put, List.setIfInBounds_toArray, List.set_cons_zero, List.set_cons_succ])
    refine wpAnyH_ready (rs := [14]) (by kernel_rfl) (by simp) ?_
    refine AllReadyH.cons (o := { dst := some 35, op := Go.Op.call { callee := Go.Callee.value (Go.Operand.func 15), args := #[Go.Operand.tmp 34], argTypes := #[24] }, type := 4, pos := "laws.go:239", after := #[{ on := 13, ground := Go.Ground.data }, { on := 12, ground := Go.Ground.chain }, { on := 12, ground := Go.Ground.guard }], guard := some (12, false) }) rfl (fun K hK => ?_) AllReadyH.nil
    go_simp
    (refine (fok_below n i s g _).mono ?_; rintro e w13 ⟨rfl, b13⟩)
    go_wp2_with fail
    refine hK.out _ _ ?_ (fun hHeld => ?_)
    · (try dsimp only); (refine ⟨?_, ?_, ?_, ?_, ?_, ?_, ?_, ?_⟩ <;> (repeat (first | with_reducible assumption | with_reducible refine keep_drew ?_ | with_reducible refine keep_below (by assumption) ?_)))
    clear hK K
    (try simp only [Act.put, List.setIfInBounds_toArray, List.set_cons_zero, List.set_cons_succ])
    refine wpAnyH_ready (rs := [16]) (by kernel_rfl) (by simp) ?_
    refine AllReadyH.cons (o := { dst := some 37, op := Go.Op.call { callee := Go.Callee.value (Go.Operand.func 16), args := #[Go.Operand.tmp 36], argTypes := #[24] }, type := 4, pos := "laws.go:239", after := #[{ on := 15, ground := Go.Ground.data }, { on := 14, ground := Go.Ground.chain }, { on := 12, ground := Go.Ground.guard }], guard := some (12, false) }) rfl (fun K hK => ?_) AllReadyH.nil
    go_simp
    (refine (sfok_below n i s g _).mono ?_; rintro e w14 ⟨rfl, b14⟩)
    go_wp2_with fail
    refine hK.out _ _ ?_ (fun hHeld => ?_)
    · (try dsimp only); (refine ⟨?_, ?_, ?_, ?_, ?_, ?_, ?_, ?_⟩ <;> (repeat (first | with_reducible assumption | with_reducible refine keep_drew ?_ | with_reducible refine keep_below (by assumption) ?_)))
    clear hK K
    (try simp only [Act.put, List.setIfInBounds_toArray, List.set_cons_zero, List.set_cons_succ])
    refine wpAnyH_take (i := 17) (oi := { dst := some 38, op := Go.Op.binOp Go.BinOp.neq 4 (Go.Operand.tmp 35) (Go.Operand.tmp 37) 4, type := 4, pos := "laws.go:239", after := #[{ on := 14, ground := Go.Ground.data }, { on := 16, ground := Go.Ground.data }, { on := 12, ground := Go.Ground.guard }], guard := some (12, false) }) (v := ?_) rfl (by kernel_rfl) (by kernel_rfl) (by kernel_rfl) (fun _ _ _ h => h) (Or.inl ⟨by rfl, ?_⟩) (by assumption) ?_
    rotate_left 1
    · (intro w hSw; (try dsimp only at hSw); go_simp; try with_reducible rfl)
    (try simp only [Act.put, List.setIfInBounds_toArray, List.set_cons_zero, List.set_cons_succ])
    refine wpAnyH_take (i := 18) (oi := { dst := some 39, op := Go.Op.pick (Go.Operand.tmp 33) (Go.Operand.const (Go.Value.bool true)) (Go.Operand.tmp 38), type := 4, pos := "laws.go:239", after := #[{ on := 12, ground := Go.Ground.data }, { on := 17, ground := Go.Ground.data }], guard := none }) (v := ?_) rfl (by kernel_rfl) (by kernel_rfl) (by kernel_rfl) (fun _ _ _ h => h) (Or.inl ⟨by rfl, ?_⟩) (by assumption) ?_
    rotate_left 1
    · (intro w hSw; (try dsimp only at hSw); go_simp; try with_reducible rfl)
    (try simp only [Act.put, List.setIfInBounds_toArray, List.set_cons_zero, List.set_cons_succ])
    refine wpAnyH_take (i := 19) (oi := { dst := some 40, op := Go.Op.move (Go.Operand.tmp 39), type := 4, pos := "laws.go:239", after := #[{ on := 18, ground := Go.Ground.data }, { on := 16, ground := Go.Ground.chain }], guard := none }) (v := ?_) rfl (by kernel_rfl) (by kernel_rfl) (by kernel_rfl) (fun _ _ _ h => h) (Or.inl ⟨by rfl, ?_⟩) (by assumption) ?_
    rotate_left 1
    · (intro w hSw; (try dsimp only at hSw); go_simp; try with_reducible rfl)
    (try simp only [Act.put, List.setIfInBounds_toArray, List.set_cons_zero, List.set_cons_succ])
    refine wpAnyH_take (i := 20) (oi := { dst := some 41, op := Go.Op.load 24 (Go.Operand.tmp 3), type := 24, pos := "laws.go:239", after := #[{ on := 19, ground := Go.Ground.guard }], guard := some (19, false) }) (v := ?_) rfl (by kernel_rfl) (by kernel_rfl) (by kernel_rfl) (fun _ _ _ h => h) (Or.inl ⟨by rfl, ?_⟩) (by assumption) ?_
    rotate_left 1
    · (intro w hSw; (try dsimp only at hSw); go_simp; try with_reducible rfl)
    (try simp only [Act.put, List.setIfInBounds_toArray, List.set_cons_zero, List.set_cons_succ])
    refine wpAnyH_take (i := 21) (oi := { dst := some 42, op := Go.Op.load 24 (Go.Operand.tmp 3), type := 24, pos := "laws.go:239", after := #[{ on := 19, ground := Go.Ground.guard }], guard := some (19, false) }) (v := ?_) rfl (by kernel_rfl) (by kernel_rfl) (by kernel_rfl) (fun _ _ _ h => h) (Or.inl ⟨by rfl, ?_⟩) (by assumption) ?_
    rotate_left 1
    · (intro w hSw; (try dsimp only at hSw); go_simp; try with_reducible rfl)
    (try simp only [Act.put, List.setIfInBounds_toArray, List.set_cons_zero, List.set_cons_succ])
    refine wpAnyH_ready (rs := [22]) (by kernel_rfl) (by simp) ?_
    refine AllReadyH.cons (o := { dst := some 43, op := Go.Op.call { callee := Go.Callee.value (Go.Operand.func 13), args := #[Go.Operand.tmp 41, Go.Operand.tmp 42], argTypes := #[24, 24] }, type := 4, pos := "laws.go:239", after := #[{ on := 20, ground := Go.Ground.data }, { on := 21, ground := Go.Ground.data }, { on := 19, ground := Go.Ground.chain }, { on := 19, ground := Go.Ground.guard }], guard := some (19, false) }) rfl (fun K hK => ?_) AllReadyH.nil
    go_simp
    (refine (fover_lit n i s g n i s g false (over_self n i s g) _).mono ?_; rintro e w15 ⟨rfl, b15⟩)
    go_wp2_with fail
    refine hK.out _ _ ?_ (fun hHeld => ?_)
    · (try dsimp only); (refine ⟨?_, ?_, ?_, ?_, ?_, ?_, ?_, ?_⟩ <;> (repeat (first | with_reducible assumption | with_reducible refine keep_drew ?_ | with_reducible refine keep_below (by assumption) ?_)))
    clear hK K
    (try simp only [Act.put, List.setIfInBounds_toArray, List.set_cons_zero, List.set_cons_succ])
    refine wpAnyH_take (i := 23) (oi := { dst := some 44, op := Go.Op.pick (Go.Operand.tmp 40) (Go.Operand.const (Go.Value.bool true)) (Go.Operand.tmp 43), type := 4, pos := "laws.go:239", after := #[{ on := 19, ground := Go.Ground.data }, { on := 22, ground := Go.Ground.data }], guard := none }) (v := ?_) rfl (by kernel_rfl) (by kernel_rfl) (by kernel_rfl) (fun _ _ _ h => h) (Or.inl ⟨by rfl, ?_⟩) (by assumption) ?_
    rotate_left 1
    · (intro w hSw; (try dsimp only at hSw); go_simp; try with_reducible rfl)
    (try simp only [Act.put, List.setIfInBounds_toArray, List.set_cons_zero, List.set_cons_succ])
    refine wpAnyH_take (i := 24) (oi := { dst := some 45, op := Go.Op.move (Go.Operand.tmp 44), type := 4, pos := "laws.go:239", after := #[{ on := 23, ground := Go.Ground.data }, { on := 22, ground := Go.Ground.chain }], guard := none }) (v := ?_) rfl (by kernel_rfl) (by kernel_rfl) (by kernel_rfl) (fun _ _ _ h => h) (Or.inl ⟨by rfl, ?_⟩) (by assumption) ?_
    rotate_left 1
    · (intro w hSw; (try dsimp only at hSw); go_simp; try with_reducible rfl)
    (try simp only [Act.put, List.setIfInBounds_toArray, List.set_cons_zero, List.set_cons_succ])
    refine wpAnyH_take (i := 25) (oi := { dst := some 46, op := Go.Op.move (Go.Operand.tmp 5), type := 4, pos := "laws.go:239", after := #[{ on := 24, ground := Go.Ground.guard }], guard := some (24, false) }) (v := ?_) rfl (by kernel_rfl) (by kernel_rfl) (by kernel_rfl) (fun _ _ _ h => h) (Or.inl ⟨by rfl, ?_⟩) (by assumption) ?_
    rotate_left 1
    · (intro w hSw; (try dsimp only at hSw); go_simp; try with_reducible rfl)
    (try simp only [Act.put, List.setIfInBounds_toArray, List.set_cons_zero, List.set_cons_succ])
    refine wpAnyH_take (i := 26) (oi := { dst := some 47, op := Go.Op.move (Go.Operand.tmp 46), type := 4, pos := "laws.go:239", after := #[{ on := 25, ground := Go.Ground.data }, { on := 24, ground := Go.Ground.chain }, { on := 24, ground := Go.Ground.guard }], guard := some (24, false) }) (v := ?_) rfl (by kernel_rfl) (by kernel_rfl) (by kernel_rfl) (fun _ _ _ h => h) (Or.inl ⟨by rfl, ?_⟩) (by assumption) ?_
    rotate_left 1
    · (intro w hSw; (try dsimp only at hSw); go_simp; try with_reducible rfl)
    (try simp only [Act.put, List.setIfInBounds_toArray, List.set_cons_zero, List.set_cons_succ])
    refine wpAnyH_take (i := 27) (oi := { dst := some 48, op := Go.Op.move (Go.Operand.tmp 6), type := 4, pos := "laws.go:239", after := #[{ on := 26, ground := Go.Ground.guard }], guard := some (26, true) }) (v := ?_) rfl (by kernel_rfl) (by kernel_rfl) (by kernel_rfl) (fun _ _ _ h => h) (Or.inl ⟨by rfl, ?_⟩) (by assumption) ?_
    rotate_left 1
    · (intro w hSw; (try dsimp only at hSw); go_simp; try with_reducible rfl)
    (try simp only [Act.put, List.setIfInBounds_toArray, List.set_cons_zero, List.set_cons_succ])
    refine wpAnyH_take (i := 28) (oi := { dst := some 49, op := Go.Op.pick (Go.Operand.tmp 47) (Go.Operand.tmp 48) (Go.Operand.const (Go.Value.bool false)), type := 4, pos := "laws.go:239", after := #[{ on := 26, ground := Go.Ground.data }, { on := 27, ground := Go.Ground.data }, { on := 24, ground := Go.Ground.guard }], guard := some (24, false) }) (v := ?_) rfl (by kernel_rfl) (by kernel_rfl) (by kernel_rfl) (fun _ _ _ h => h) (Or.inl ⟨by rfl, ?_⟩) (by assumption) ?_
    rotate_left 1
    · (intro w hSw; (try dsimp only at hSw); go_simp; try with_reducible rfl)
    (try simp only [Act.put, List.setIfInBounds_toArray, List.set_cons_zero, List.set_cons_succ])
    refine wpAnyH_take (i := 29) (oi := { dst := some 50, op := Go.Op.pick (Go.Operand.tmp 45) (Go.Operand.const (Go.Value.bool true)) (Go.Operand.tmp 49), type := 4, pos := "laws.go:239", after := #[{ on := 24, ground := Go.Ground.data }, { on := 28, ground := Go.Ground.data }], guard := none }) (v := ?_) rfl (by kernel_rfl) (by kernel_rfl) (by kernel_rfl) (fun _ _ _ h => h) (Or.inl ⟨by rfl, ?_⟩) (by assumption) ?_
    rotate_left 1
    · (intro w hSw; (try dsimp only at hSw); go_simp; try with_reducible rfl)
    (try simp only [Act.put, List.setIfInBounds_toArray, List.set_cons_zero, List.set_cons_succ])
    refine wpAnyH_done (by kernel_rfl) ?_ _
    have B9 := btrans (btrans (btrans (btrans (btrans B4.drew b11) b12) b13) b14) b15
    replace P0 := keep_below b15 (keep_below b14 (keep_below b13 (keep_below b12 (keep_below b11 (keep_drew (P0))))))
    replace P1 := keep_below b15 (keep_below b14 (keep_below b13 (keep_below b12 (keep_below b11 (keep_drew (P1))))))
    replace P2 := keep_below b15 (keep_below b14 (keep_below b13 (keep_below b12 (keep_below b11 (keep_drew (P2))))))
    replace P3 := keep_below b15 (keep_below b14 (keep_below b13 (keep_below b12 (keep_below b11 (keep_drew (P3))))))
    replace Q0 := keep_below b15 (keep_below b14 (keep_below b13 (keep_below b12 (keep_below b11 (keep_drew (Q0))))))
    replace Q1 := keep_below b15 (keep_below b14 (keep_below b13 (keep_below b12 (keep_below b11 (keep_drew (Q1))))))
    replace Q2 := keep_below b15 (keep_below b14 (keep_below b13 (keep_below b12 (keep_below b11 (keep_drew (Q2))))))
    replace Q3 := keep_below b15 (keep_below b14 (keep_below b13 (keep_below b12 (keep_below b11 (keep_drew (Q3))))))
    clear B4 b11 b12 b13 b14 b15 hHeld
    obtain ⟨y1, y2, y3, y4⟩ := over_parts _ _ _ _ _ _ _ _ hA.out
    have y5 : Hid (¬ (i = i' ∧ s = s' ∧ g = g')) := l3_ne _ _ _ _ _ _ y4
    have z1 : Hid (fokB n i s = true) := y1
    have z2 : Hid (fokB n' i' s' = true) := y2
    obtain rfl : n = n' := y3
    clear y1 y2 y4
    (try clear y3)
    go_wp2_with fail
    refine (sfok_lit n i s g true z1.out _).mono ?_
    rintro r w5 ⟨rfl, b5⟩
    replace P0 := keep_below b5 (P0)
    replace P1 := keep_below b5 (P1)
    replace P2 := keep_below b5 (P2)
    replace P3 := keep_below b5 (P3)
    replace Q0 := keep_below b5 (Q0)
    replace Q1 := keep_below b5 (Q1)
    replace Q2 := keep_below b5 (Q2)
    replace Q3 := keep_below b5 (Q3)
    have B5 := btrans B9 b5
    clear b5 B9
    go_wp2_with fail
    refine (sfok_lit n i' s' g' true z2.out _).mono ?_
    rintro r w6 ⟨rfl, b6⟩
    replace P0 := keep_below b6 (P0)
    replace P1 := keep_below b6 (P1)
    replace P2 := keep_below b6 (P2)
    replace P3 := keep_below b6 (P3)
    replace Q0 := keep_below b6 (Q0)
    replace Q1 := keep_below b6 (Q1)
    replace Q2 := keep_below b6 (Q2)
    replace Q3 := keep_below b6 (Q3)
    have B6 := btrans B5 b6
    clear b6 B5
    go_wp2
    all_goals (go_ret; refine ⟨ret_bool ?_, B6⟩; have y6 := y5.out; clear y5; first | rfl | (cases g <;> cases g' <;> simp_all))

end Go.Proofs.Ytbmnonfnnifoiaa
