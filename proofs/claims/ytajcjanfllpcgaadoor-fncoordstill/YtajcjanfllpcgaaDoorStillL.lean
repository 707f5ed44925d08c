/- A trip that took just what it should changes no place: the law, walked. -/
import Derived.Test.YtajcjanfllpcgaaDoorDrawMove
import Derived.Test.YtajcjanfllpcgaaDoorExMove
import Derived.Test.YtajcjanfllpcgaaDoorMoves
namespace Go.Proofs.YtajcjanfllpcgaaDoor
open Go.ChangeShapes Go.WideShapes Go.ChangeAt Go.RowKit
attribute [local go_sem ↓] Go.wp_at_zero Go.wp_at_succ
theorem box_id {n lo hi : Int} (h1 : lo ≤ n) (h2 : n ≤ hi) : M.box n lo hi = n := by unfold M.box; split <;> (try split) <;> omega
theorem still_move (ax ay ah ae bx b_y bh be d turn : Int) (ka : cok ax ay ah ae = true) (kb : cok bx b_y bh be = true) (hd : dst ax ay ah ae bx b_y bh be = d) :
    mX ax ay ah ae bx b_y bh be d turn = ax ∧ mY ax ay ah ae bx b_y bh be d turn = ay ∧ mH ax ay ah ae bx b_y bh be d = ah ∧ mE ax ay ah ae bx b_y bh be d ≤ ae := by
  have ha := cok_bd ka
  have hb := cok_bd kb
  have hW : mW ax ay ah bx b_y bh d = 0 := by
    unfold dst at hd
    rw [ka, kb] at hd
    simp at hd
    unfold mW mN
    omega
  have hF : mF ax ay ah ae bx b_y bh be d = 0 := by unfold mF M.fo; rw [hW]; simp
  have hn : 0 ≤ mN ax ay bx b_y := M.isq_nonneg _
  have hp : pf (mN ax ay bx b_y) 0 = 0 := by unfold pf; split; rfl; split <;> omega
  have hnow : nowOf 0 d = 0 := by unfold nowOf M.ab; simp
  refine ⟨?_, ?_, ?_, ?_⟩
  · unfold mX; rw [hF, hp, Int.zero_mul, Int.zero_tdiv, Int.add_zero]; exact box_id (by omega) (by omega)
  · unfold mY; rw [hF, hp, Int.zero_mul, Int.zero_tdiv, Int.add_zero]; exact box_id (by omega) (by omega)
  · unfold mH; rw [hF, hp, Int.zero_tdiv, Int.add_zero]; exact box_id (by omega) (by omega)
  · unfold mE
    rw [hW, hnow]
    have := (M.fo_neg (wrong := 0 - ae) (e := ae) (s := ae + be) (by omega) (by omega) (by omega)).1
    unfold M.box
    split <;> (try split) <;> omega
set_option maxRecDepth 10000 in
set_option maxHeartbeats 8000000 in
theorem still_walk (a : Option Addr) (len cap : Nat) (w : World) (h : Bytes w.heap.size w a len) (hl : len ≤ cap) (hm : len ≤ maxLen) (ht : Turns w) :
    Calls Tryd.prog 7 #[.slice a len cap] w fun e w' => e = .returned (.bool true) ∧ Below w.heap.size w w' := by
  unfold maxLen at hm
  by_cases hlen : 1048576 < len
  · go_enter Tryd.func7, Tryd.ntmps7
    go_wp2
    go_ret
    exact ⟨rfl, Below.refl _ _⟩
  go_enter Tryd.func7, Tryd.ntmps7
  go_wp2_with fail
  refine (drawMove_any a len cap _ h hl).mono ?_
  rintro r w1 ⟨ax, ay, ah, ae, bx, b_y, bh, be, trip, turn, rfl, htrip, hturn, b1⟩
  have b2 := balloc (.cells #[.int .i64 bx, .int .i64 b_y, .int .i64 bh, .int .i64 be] 24) (balloc (.cells #[.int .i64 ax, .int .i64 ay, .int .i64 ah, .int .i64 ae] 24) b1)
  go_wp2_with fail
  have P0 : ((w1.alloc (.cells #[.int .i64 ax, .int .i64 ay, .int .i64 ah, .int .i64 ae] 24)).alloc (.cells #[.int .i64 bx, .int .i64 b_y, .int .i64 bh, .int .i64 be] 24)).cell? ⟨w1.heap.size, 0, none⟩ = some (.int .i64 ax) := by simp [go_sem]
  have P1 : ((w1.alloc (.cells #[.int .i64 ax, .int .i64 ay, .int .i64 ah, .int .i64 ae] 24)).alloc (.cells #[.int .i64 bx, .int .i64 b_y, .int .i64 bh, .int .i64 be] 24)).cell? ⟨w1.heap.size, 1, none⟩ = some (.int .i64 ay) := by simp [go_sem]
  have P2 : ((w1.alloc (.cells #[.int .i64 ax, .int .i64 ay, .int .i64 ah, .int .i64 ae] 24)).alloc (.cells #[.int .i64 bx, .int .i64 b_y, .int .i64 bh, .int .i64 be] 24)).cell? ⟨w1.heap.size, 2, none⟩ = some (.int .i64 ah) := by simp [go_sem]
  have P3 : ((w1.alloc (.cells #[.int .i64 ax, .int .i64 ay, .int .i64 ah, .int .i64 ae] 24)).alloc (.cells #[.int .i64 bx, .int .i64 b_y, .int .i64 bh, .int .i64 be] 24)).cell? ⟨w1.heap.size, 3, none⟩ = some (.int .i64 ae) := by simp [go_sem]
  have Q0 : ((w1.alloc (.cells #[.int .i64 ax, .int .i64 ay, .int .i64 ah, .int .i64 ae] 24)).alloc (.cells #[.int .i64 bx, .int .i64 b_y, .int .i64 bh, .int .i64 be] 24)).cell? ⟨w1.heap.size + 1, 0, none⟩ = some (.int .i64 bx) := by simp [go_sem]
  have Q1 : ((w1.alloc (.cells #[.int .i64 ax, .int .i64 ay, .int .i64 ah, .int .i64 ae] 24)).alloc (.cells #[.int .i64 bx, .int .i64 b_y, .int .i64 bh, .int .i64 be] 24)).cell? ⟨w1.heap.size + 1, 1, none⟩ = some (.int .i64 b_y) := by simp [go_sem]
  have Q2 : ((w1.alloc (.cells #[.int .i64 ax, .int .i64 ay, .int .i64 ah, .int .i64 ae] 24)).alloc (.cells #[.int .i64 bx, .int .i64 b_y, .int .i64 bh, .int .i64 be] 24)).cell? ⟨w1.heap.size + 1, 2, none⟩ = some (.int .i64 bh) := by simp [go_sem]
  have Q3 : ((w1.alloc (.cells #[.int .i64 ax, .int .i64 ay, .int .i64 ah, .int .i64 ae] 24)).alloc (.cells #[.int .i64 bx, .int .i64 b_y, .int .i64 bh, .int .i64 be] 24)).cell? ⟨w1.heap.size + 1, 3, none⟩ = some (.int .i64 be) := by simp [go_sem]
  generalize ((w1.alloc (.cells #[.int .i64 ax, .int .i64 ay, .int .i64 ah, .int .i64 ae] 24)).alloc (.cells #[.int .i64 bx, .int .i64 b_y, .int .i64 bh, .int .i64 be] 24)) = W at *
  generalize w1.heap.size + 1 = KB at *
  generalize w1.heap.size = KA at *
  have T1 := turns_below ht b2
  clear b1
  refine (fdist_any ax ay ah ae bx b_y bh be _).mono ?_
  rintro r w2 ⟨rfl, b3⟩
  replace P0 := keep_below b3 (P0)
  replace P1 := keep_below b3 (P1)
  replace P2 := keep_below b3 (P2)
  replace P3 := keep_below b3 (P3)
  replace Q0 := keep_below b3 (Q0)
  replace Q1 := keep_below b3 (Q1)
  replace Q2 := keep_below b3 (Q2)
  replace Q3 := keep_below b3 (Q3)
  have B3 := btrans b2 b3
  clear b2 b3 T1
  obtain ⟨d, hd⟩ : ∃ d, dst ax ay ah ae bx b_y bh be = d := ⟨_, rfl⟩
  have hsd : ∀ w, Calls Tryd.prog 18 #[.agg #[.int .i64 ax, .int .i64 ay, .int .i64 ah, .int .i64 ae], .agg #[.int .i64 bx, .int .i64 b_y, .int .i64 bh, .int .i64 be]] w fun r w' => r = .returned (.int .i64 d) ∧ Below w.heap.size w w' := hd ▸ sdist_any ax ay ah ae bx b_y bh be
  rw [hd]
  replace hd : Hid (dst ax ay ah ae bx b_y bh be = d) := hd
  obtain ⟨cc, hcc0⟩ : ∃ b, cok ax ay ah ae = b := ⟨_, rfl⟩
  have hcc : Hid (cok ax ay ah ae = cc) := hcc0
  clear hcc0
  go_wp2_with fail
  cases cc
  · skip
    refine wp_region_held_drew (S := (fun w' => w'.cell? ⟨KA, 0, none⟩ = some (.int .i64 ax) ∧ w'.cell? ⟨KA, 1, none⟩ = some (.int .i64 ay) ∧ w'.cell? ⟨KA, 2, none⟩ = some (.int .i64 ah) ∧ w'.cell? ⟨KA, 3, none⟩ = some (.int .i64 ae) ∧ w'.cell? ⟨KB, 0, none⟩ = some (.int .i64 bx) ∧ w'.cell? ⟨KB, 1, none⟩ = some (.int .i64 b_y) ∧ w'.cell? ⟨KB, 2, none⟩ = some (.int .i64 bh) ∧ w'.cell? ⟨KB, 3, none⟩ = some (.int .i64 be))) (by kernel_rfl) ?_ (fun hHeld => ?_)
    · (try dsimp only); (refine ⟨?_, ?_, ?_, ?_, ?_, ?_, ?_, ?_⟩ <;> (repeat (first | with_reducible assumption | with_reducible refine keep_drew ?_ | with_reducible refine keep_below (by assumption) ?_)))
    refine wpAnyH_take (i := 0) (oi := { dst := some 22, op := Go.Op.move (Go.Operand.tmp 7), type := 3, pos := "laws.go:1576", after := #[], guard := none }) (v := ?_) rfl (by kernel_rfl) (by kernel_rfl) (by kernel_rfl) (fun _ _ _ h => h) (Or.inl ⟨by rfl, ?_⟩) (by assumption) ?_
    rotate_left 1
    · (intro w hSw; (try dsimp only at hSw); go_simp; try with_reducible rfl)
    (try simp only [Act.put, List.setIfInBounds_toArray, List.set_cons_zero, List.set_cons_succ])
    refine wpAnyH_take (i := 1) (oi := { dst := some 23, op := Go.Op.load 24 (Go.Operand.tmp 3), type := 24, pos := "laws.go:1576", after := #[], guard := none }) (v := ?_) rfl (by kernel_rfl) (by kernel_rfl) (by kernel_rfl) (fun _ _ _ h => h) (Or.inl ⟨by rfl, ?_⟩) (by assumption) ?_
    rotate_left 1
    · (intro w hSw; (try dsimp only at hSw); go_simp; try with_reducible rfl)
    (try simp only [Act.put, List.setIfInBounds_toArray, List.set_cons_zero, List.set_cons_succ])
    refine wpAnyH_take (i := 2) (oi := { dst := some 24, op := Go.Op.load 24 (Go.Operand.tmp 4), type := 24, pos := "laws.go:1576", after := #[], guard := none }) (v := ?_) rfl (by kernel_rfl) (by kernel_rfl) (by kernel_rfl) (fun _ _ _ h => h) (Or.inl ⟨by rfl, ?_⟩) (by assumption) ?_
    rotate_left 1
    · (intro w hSw; (try dsimp only at hSw); go_simp; try with_reducible rfl)
    (try simp only [Act.put, List.setIfInBounds_toArray, List.set_cons_zero, List.set_cons_succ])
    refine wpAnyH_ready (rs := [3]) (by kernel_rfl) (by simp) ?_
    refine AllReadyH.cons (o := { dst := some 25, op := Go.Op.call { callee := Go.Callee.value (Go.Operand.func 18), args := #[Go.Operand.tmp 23, Go.Operand.tmp 24], argTypes := #[24, 24] }, type := 3, pos := "laws.go:1576", after := #[{ on := 1, ground := Go.Ground.data }, { on := 2, ground := Go.Ground.data }], guard := none }) rfl (fun K hK => ?_) AllReadyH.nil
    go_simp
    (refine (hsd _).mono ?_; rintro e w11 ⟨rfl, b11⟩)
    go_wp2_with fail
    refine hK.out _ _ ?_ (fun hHeld => ?_)
    · (try dsimp only); (refine ⟨?_, ?_, ?_, ?_, ?_, ?_, ?_, ?_⟩ <;> (repeat (first | with_reducible assumption | with_reducible refine keep_drew ?_ | with_reducible refine keep_below (by assumption) ?_)))
    clear hK K
    (try simp only [Act.put, List.setIfInBounds_toArray, List.set_cons_zero, List.set_cons_succ])
    refine wpAnyH_take (i := 4) (oi := { dst := some 26, op := Go.Op.binOp Go.BinOp.neq 3 (Go.Operand.tmp 22) (Go.Operand.tmp 25) 3, type := 4, pos := "laws.go:1576", after := #[{ on := 0, ground := Go.Ground.data }, { on := 3, ground := Go.Ground.data }], guard := none }) (v := ?_) rfl (by kernel_rfl) (by kernel_rfl) (by kernel_rfl) (fun _ _ _ h => h) (Or.inl ⟨by rfl, ?_⟩) (by assumption) ?_
    rotate_left 1
    · (intro w hSw; (try dsimp only at hSw); go_simp; try with_reducible rfl)
    (try simp only [Act.put, List.setIfInBounds_toArray, List.set_cons_zero, List.set_cons_succ])
    refine wpAnyH_take (i := 5) (oi := { dst := some 27, op := Go.Op.move (Go.Operand.tmp 26), type := 4, pos := "laws.go:1576", after := #[{ on := 4, ground := Go.Ground.data }, { on := 3, ground := Go.Ground.chain }], guard := none }) (v := ?_) rfl (by kernel_rfl) (by kernel_rfl) (by kernel_rfl) (fun _ _ _ h => h) (Or.inl ⟨by rfl, ?_⟩) (by assumption) ?_
    rotate_left 1
    · (intro w hSw; (try dsimp only at hSw); go_simp; try with_reducible rfl)
    (try simp only [Act.put, List.setIfInBounds_toArray, List.set_cons_zero, List.set_cons_succ])
    refine wpAnyH_take (i := 6) (oi := { dst := some 28, op := Go.Op.load 24 (Go.Operand.tmp 3), type := 24, pos := "laws.go:1576", after := #[{ on := 5, ground := Go.Ground.guard }], guard := some (5, false) }) (v := ?_) rfl (by kernel_rfl) (by kernel_rfl) (by kernel_rfl) (fun _ _ _ h => h) (Or.inl ⟨by rfl, ?_⟩) (by assumption) ?_
    rotate_left 1
    · (intro w hSw; (try dsimp only at hSw); go_simp; try with_reducible rfl)
    (try simp only [Act.put, List.setIfInBounds_toArray, List.set_cons_zero, List.set_cons_succ])
    refine wpAnyH_take (i := 8) (oi := { dst := some 30, op := Go.Op.load 24 (Go.Operand.tmp 3), type := 24, pos := "laws.go:1576", after := #[{ on := 5, ground := Go.Ground.guard }], guard := some (5, false) }) (v := ?_) rfl (by kernel_rfl) (by kernel_rfl) (by kernel_rfl) (fun _ _ _ h => h) (Or.inl ⟨by rfl, ?_⟩) (by assumption) ?_
    rotate_left 1
    · (intro w hSw; (try dsimp only at hSw); go_simp; try with_reducible rfl)
    (try simp only [Act.put, List.setIfInBounds_toArray, List.set_cons_zero, List.set_cons_succ])
    refine wpAnyH_ready (rs := [7]) (by kernel_rfl) (by simp) ?_
    refine AllReadyH.cons (o := { dst := some 29, op := Go.Op.call { callee := Go.Callee.value (Go.Operand.func 12), args := #[Go.Operand.tmp 28], argTypes := #[24] }, type := 4, pos := "laws.go:1576", after := #[{ on := 6, ground := Go.Ground.data }, { on := 5, ground := Go.Ground.chain }, { on := 5, ground := Go.Ground.guard }], guard := some (5, false) }) rfl (fun K hK => ?_) AllReadyH.nil
    go_simp
    (refine (fok_lit ax ay ah ae false hcc.out _).mono ?_; rintro e w12 ⟨rfl, b12⟩)
    go_wp2_with fail
    refine hK.out _ _ ?_ (fun hHeld => ?_)
    · (try dsimp only); (refine ⟨?_, ?_, ?_, ?_, ?_, ?_, ?_, ?_⟩ <;> (repeat (first | with_reducible assumption | with_reducible refine keep_drew ?_ | with_reducible refine keep_below (by assumption) ?_)))
    clear hK K
    (try simp only [Act.put, List.setIfInBounds_toArray, List.set_cons_zero, List.set_cons_succ])
    refine wpAnyH_ready (rs := [9]) (by kernel_rfl) (by simp) ?_
    refine AllReadyH.cons (o := { dst := some 31, op := Go.Op.call { callee := Go.Callee.value (Go.Operand.func 13), args := #[Go.Operand.tmp 30], argTypes := #[24] }, type := 4, pos := "laws.go:1576", after := #[{ on := 8, ground := Go.Ground.data }, { on := 7, ground := Go.Ground.chain }, { on := 5, ground := Go.Ground.guard }], guard := some (5, false) }) rfl (fun K hK => ?_) AllReadyH.nil
    go_simp
    (refine (sok_lit ax ay ah ae false hcc.out _).mono ?_; rintro e w13 ⟨rfl, b13⟩)
    go_wp2_with fail
    refine hK.out _ _ ?_ (fun hHeld => ?_)
    · (try dsimp only); (refine ⟨?_, ?_, ?_, ?_, ?_, ?_, ?_, ?_⟩ <;> (repeat (first | with_reducible assumption | with_reducible refine keep_drew ?_ | with_reducible refine keep_below (by assumption) ?_)))
    clear hK K
    (try simp only [Act.put, List.setIfInBounds_toArray, List.set_cons_zero, List.set_cons_succ])
    refine wpAnyH_take (i := 10) (oi := { dst := some 32, op := Go.Op.binOp Go.BinOp.neq 4 (Go.Operand.tmp 29) (Go.Operand.tmp 31) 4, type := 4, pos := "laws.go:1576", after := #[{ on := 7, ground := Go.Ground.data }, { on := 9, ground := Go.Ground.data }, { on := 5, ground := Go.Ground.guard }], guard := some (5, false) }) (v := ?_) rfl (by kernel_rfl) (by kernel_rfl) (by kernel_rfl) (fun _ _ _ h => h) (Or.inl ⟨by rfl, ?_⟩) (by assumption) ?_
    rotate_left 1
    · (intro w hSw; (try dsimp only at hSw); go_simp; try with_reducible rfl)
    (try simp only [Act.put, List.setIfInBounds_toArray, List.set_cons_zero, List.set_cons_succ])
    refine wpAnyH_take (i := 11) (oi := { dst := some 33, op := Go.Op.pick (Go.Operand.tmp 27) (Go.Operand.const (Go.Value.bool true)) (Go.Operand.tmp 32), type := 4, pos := "laws.go:1576", after := #[{ on := 5, ground := Go.Ground.data }, { on := 10, ground := Go.Ground.data }], guard := none }) (v := ?_) rfl (by kernel_rfl) (by kernel_rfl) (by kernel_rfl) (fun _ _ _ h => h) (Or.inl ⟨by rfl, ?_⟩) (by assumption) ?_
    rotate_left 1
    · (intro w hSw; (try dsimp only at hSw); go_simp; try with_reducible rfl)
    (try simp only [Act.put, List.setIfInBounds_toArray, List.set_cons_zero, List.set_cons_succ])
    refine wpAnyH_done (by kernel_rfl) ?_ _
    replace P0 := keep_below b13 (keep_below b12 (keep_below b11 (keep_drew (P0))))
    replace P1 := keep_below b13 (keep_below b12 (keep_below b11 (keep_drew (P1))))
    replace P2 := keep_below b13 (keep_below b12 (keep_below b11 (keep_drew (P2))))
    replace P3 := keep_below b13 (keep_below b12 (keep_below b11 (keep_drew (P3))))
    replace Q0 := keep_below b13 (keep_below b12 (keep_below b11 (keep_drew (Q0))))
    replace Q1 := keep_below b13 (keep_below b12 (keep_below b11 (keep_drew (Q1))))
    replace Q2 := keep_below b13 (keep_below b12 (keep_below b11 (keep_drew (Q2))))
    replace Q3 := keep_below b13 (keep_below b12 (keep_below b11 (keep_drew (Q3))))
    have B4 := btrans (btrans (btrans B3.drew b11) b12) b13
    clear b11 b12 b13 B3 hHeld hsd
    go_wp2_with fail
    refine (sok_lit ax ay ah ae false hcc.out _).mono ?_
    rintro e w14 ⟨rfl, b14⟩
    replace P0 := keep_below b14 (P0)
    replace P1 := keep_below b14 (P1)
    replace P2 := keep_below b14 (P2)
    replace P3 := keep_below b14 (P3)
    replace Q0 := keep_below b14 (Q0)
    replace Q1 := keep_below b14 (Q1)
    replace Q2 := keep_below b14 (Q2)
    replace Q3 := keep_below b14 (Q3)
    have B5 := btrans B4 b14
    clear b14 B4
    go_wp2
    go_ret
    exact ⟨rfl, B5⟩
  · skip
    refine wp_region_held_drew (S := (fun w' => w'.cell? ⟨KA, 0, none⟩ = some (.int .i64 ax) ∧ w'.cell? ⟨KA, 1, none⟩ = some (.int .i64 ay) ∧ w'.cell? ⟨KA, 2, none⟩ = some (.int .i64 ah) ∧ w'.cell? ⟨KA, 3, none⟩ = some (.int .i64 ae) ∧ w'.cell? ⟨KB, 0, none⟩ = some (.int .i64 bx) ∧ w'.cell? ⟨KB, 1, none⟩ = some (.int .i64 b_y) ∧ w'.cell? ⟨KB, 2, none⟩ = some (.int .i64 bh) ∧ w'.cell? ⟨KB, 3, none⟩ = some (.int .i64 be))) (by kernel_rfl) ?_ (fun hHeld => ?_)
    · (try dsimp only); (refine ⟨?_, ?_, ?_, ?_, ?_, ?_, ?_, ?_⟩ <;> (repeat (first | with_reducible assumption | with_reducible refine keep_drew ?_ | with_reducible refine keep_below (by assumption) ?_)))
    refine wpAnyH_take (i := 0) (oi := { dst := some 22, op := Go.Op.move (Go.Operand.tmp 7), type := 3, pos := "laws.go:1576", after := #[], guard := none }) (v := ?_) rfl (by kernel_rfl) (by kernel_rfl) (by kernel_rfl) (fun _ _ _ h => h) (Or.inl ⟨by rfl, ?_⟩) (by assumption) ?_
    rotate_left 1
    · (intro w hSw; (try dsimp only at hSw); go_simp; try with_reducible rfl)
    (try simp only [Act.put, List.setIfInBounds_toArray, List.set_cons_zero, List.set_cons_succ])
    refine wpAnyH_take (i := 1) (oi := { dst := some 23, op := Go.Op.load 24 (Go.Operand.tmp 3), type := 24, pos := "laws.go:1576", after := #[], guard := none }) (v := ?_) rfl (by kernel_rfl) (by kernel_rfl) (by kernel_rfl) (fun _ _ _ h => h) (Or.inl ⟨by rfl, ?_⟩) (by assumption) ?_
    rotate_left 1
    · (intro w hSw; (try dsimp only at hSw); go_simp; try with_reducible rfl)
    (try simp only [Act.put, List.setIfInBounds_toArray, List.set_cons_zero, List.set_cons_succ])
    refine wpAnyH_take (i := 2) (oi := { dst := some 24, op := Go.Op.load 24 (Go.Operand.tmp 4), type := 24, pos := "laws.go:1576", after := #[], guard := none }) (v := ?_) rfl (by kernel_rfl) (by kernel_rfl) (by kernel_rfl) (fun _ _ _ h => h) (Or.inl ⟨by rfl, ?_⟩) (by assumption) ?_
    rotate_left 1
    · (intro w hSw; (try dsimp only at hSw); go_simp; try with_reducible rfl)
    (try simp only [Act.put, List.setIfInBounds_toArray, List.set_cons_zero, List.set_cons_succ])
    refine wpAnyH_ready (rs := [3]) (by kernel_rfl) (by simp) ?_
    refine AllReadyH.cons (o := { dst := some 25, op := Go.Op.call { callee := Go.Callee.value (Go.Operand.func 18), args := #[Go.Operand.tmp 23, Go.Operand.tmp 24], argTypes := #[24, 24] }, type := 3, pos := "laws.go:1576", after := #[{ on := 1, ground := Go.Ground.data }, { on := 2, ground := Go.Ground.data }], guard := none }) rfl (fun K hK => ?_) AllReadyH.nil
    go_simp
    (refine (hsd _).mono ?_; rintro e w11 ⟨rfl, b11⟩)
    go_wp2_with fail
    refine hK.out _ _ ?_ (fun hHeld => ?_)
    · (try dsimp only); (refine ⟨?_, ?_, ?_, ?_, ?_, ?_, ?_, ?_⟩ <;> (repeat (first | with_reducible assumption | with_reducible refine keep_drew ?_ | with_reducible refine keep_below (by assumption) ?_)))
    clear hK K
    (try simp only [Act.put, List.setIfInBounds_toArray, List.set_cons_zero, List.set_cons_succ])
    refine wpAnyH_take (i := 4) (oi := { dst := some 26, op := Go.Op.binOp Go.BinOp.neq 3 (Go.Operand.tmp 22) (Go.Operand.tmp 25) 3, type := 4, pos := "laws.go:1576", after := #[{ on := 0, ground := Go.Ground.data }, { on := 3, ground := Go.Ground.data }], guard := none }) (v := ?_) rfl (by kernel_rfl) (by kernel_rfl) (by kernel_rfl) (fun _ _ _ h => h) (Or.inl ⟨by rfl, ?_⟩) (by assumption) ?_
    rotate_left 1
    · (intro w hSw; (try dsimp only at hSw); go_simp; try with_reducible rfl)
    (try simp only [Act.put, List.setIfInBounds_toArray, List.set_cons_zero, List.set_cons_succ])
    refine wpAnyH_take (i := 5) (oi := { dst := some 27, op := Go.Op.move (Go.Operand.tmp 26), type := 4, pos := "laws.go:1576", after := #[{ on := 4, ground := Go.Ground.data }, { on := 3, ground := Go.Ground.chain }], guard := none }) (v := ?_) rfl (by kernel_rfl) (by kernel_rfl) (by kernel_rfl) (fun _ _ _ h => h) (Or.inl ⟨by rfl, ?_⟩) (by assumption) ?_
    rotate_left 1
    · (intro w hSw; (try dsimp only at hSw); go_simp; try with_reducible rfl)
    (try simp only [Act.put, List.setIfInBounds_toArray, List.set_cons_zero, List.set_cons_succ])
    refine wpAnyH_take (i := 6) (oi := { dst := some 28, op := Go.Op.load 24 (Go.Operand.tmp 3), type := 24, pos := "laws.go:1576", after := #[{ on := 5, ground := Go.Ground.guard }], guard := some (5, false) }) (v := ?_) rfl (by kernel_rfl) (by kernel_rfl) (by kernel_rfl) (fun _ _ _ h => h) (Or.inl ⟨by rfl, ?_⟩) (by assumption) ?_
    rotate_left 1
    · (intro w hSw; (try dsimp only at hSw); go_simp; try with_reducible rfl)
    (try simp only [Act.put, List.setIfInBounds_toArray, List.set_cons_zero, List.set_cons_succ])
    refine wpAnyH_take (i := 8) (oi := { dst := some 30, op := Go.Op.load 24 (Go.Operand.tmp 3), type := 24, pos := "laws.go:1576", after := #[{ on := 5, ground := Go.Ground.guard }], guard := some (5, false) }) (v := ?_) rfl (by kernel_rfl) (by kernel_rfl) (by kernel_rfl) (fun _ _ _ h => h) (Or.inl ⟨by rfl, ?_⟩) (by assumption) ?_
    rotate_left 1
    · (intro w hSw; (try dsimp only at hSw); go_simp; try with_reducible rfl)
    (try simp only [Act.put, List.setIfInBounds_toArray, List.set_cons_zero, List.set_cons_succ])
    refine wpAnyH_ready (rs := [7]) (by kernel_rfl) (by simp) ?_
    refine AllReadyH.cons (o := { dst := some 29, op := Go.Op.call { callee := Go.Callee.value (Go.Operand.func 12), args := #[Go.Operand.tmp 28], argTypes := #[24] }, type := 4, pos := "laws.go:1576", after := #[{ on := 6, ground := Go.Ground.data }, { on := 5, ground := Go.Ground.chain }, { on := 5, ground := Go.Ground.guard }], guard := some (5, false) }) rfl (fun K hK => ?_) AllReadyH.nil
    go_simp
    (refine (fok_lit ax ay ah ae true hcc.out _).mono ?_; rintro e w12 ⟨rfl, b12⟩)
    go_wp2_with fail
    refine hK.out _ _ ?_ (fun hHeld => ?_)
    · (try dsimp only); (refine ⟨?_, ?_, ?_, ?_, ?_, ?_, ?_, ?_⟩ <;> (repeat (first | with_reducible assumption | with_reducible refine keep_drew ?_ | with_reducible refine keep_below (by assumption) ?_)))
    clear hK K
    (try simp only [Act.put, List.setIfInBounds_toArray, List.set_cons_zero, List.set_cons_succ])
    refine wpAnyH_ready (rs := [9]) (by kernel_rfl) (by simp) ?_
    refine AllReadyH.cons (o := { dst := some 31, op := Go.Op.call { callee := Go.Callee.value (Go.Operand.func 13), args := #[Go.Operand.tmp 30], argTypes := #[24] }, type := 4, pos := "laws.go:1576", after := #[{ on := 8, ground := Go.Ground.data }, { on := 7, ground := Go.Ground.chain }, { on := 5, ground := Go.Ground.guard }], guard := some (5, false) }) rfl (fun K hK => ?_) AllReadyH.nil
    go_simp
    (refine (sok_lit ax ay ah ae true hcc.out _).mono ?_; rintro e w13 ⟨rfl, b13⟩)
    go_wp2_with fail
    refine hK.out _ _ ?_ (fun hHeld => ?_)
    · (try dsimp only); (refine ⟨?_, ?_, ?_, ?_, ?_, ?_, ?_, ?_⟩ <;> (repeat (first | with_reducible assumption | with_reducible refine keep_drew ?_ | with_reducible refine keep_below (by assumption) ?_)))
    clear hK K
    (try simp only [Act.put, List.setIfInBounds_toArray, List.set_cons_zero, List.set_cons_succ])
    refine wpAnyH_take (i := 10) (oi := { dst := some 32, op := Go.Op.binOp Go.BinOp.neq 4 (Go.Operand.tmp 29) (Go.Operand.tmp 31) 4, type := 4, pos := "laws.go:1576", after := #[{ on := 7, ground := Go.Ground.data }, { on := 9, ground := Go.Ground.data }, { on := 5, ground := Go.Ground.guard }], guard := some (5, false) }) (v := ?_) rfl (by kernel_rfl) (by kernel_rfl) (by kernel_rfl) (fun _ _ _ h => h) (Or.inl ⟨by rfl, ?_⟩) (by assumption) ?_
    rotate_left 1
    · (intro w hSw; (try dsimp only at hSw); go_simp; try with_reducible rfl)
    (try simp only [Act.put, List.setIfInBounds_toArray, List.set_cons_zero, List.set_cons_succ])
    refine wpAnyH_take (i := 11) (oi := { dst := some 33, op := Go.Op.pick (Go.Operand.tmp 27) (Go.Operand.const (Go.Value.bool true)) (Go.Operand.tmp 32), type := 4, pos := "laws.go:1576", after := #[{ on := 5, ground := Go.Ground.data }, { on := 10, ground := Go.Ground.data }], guard := none }) (v := ?_) rfl (by kernel_rfl) (by kernel_rfl) (by kernel_rfl) (fun _ _ _ h => h) (Or.inl ⟨by rfl, ?_⟩) (by assumption) ?_
    rotate_left 1
    · (intro w hSw; (try dsimp only at hSw); go_simp; try with_reducible rfl)
    (try simp only [Act.put, List.setIfInBounds_toArray, List.set_cons_zero, List.set_cons_succ])
    refine wpAnyH_done (by kernel_rfl) ?_ _
    replace P0 := keep_below b13 (keep_below b12 (keep_below b11 (keep_drew (P0))))
    replace P1 := keep_below b13 (keep_below b12 (keep_below b11 (keep_drew (P1))))
    replace P2 := keep_below b13 (keep_below b12 (keep_below b11 (keep_drew (P2))))
    replace P3 := keep_below b13 (keep_below b12 (keep_below b11 (keep_drew (P3))))
    replace Q0 := keep_below b13 (keep_below b12 (keep_below b11 (keep_drew (Q0))))
    replace Q1 := keep_below b13 (keep_below b12 (keep_below b11 (keep_drew (Q1))))
    replace Q2 := keep_below b13 (keep_below b12 (keep_below b11 (keep_drew (Q2))))
    replace Q3 := keep_below b13 (keep_below b12 (keep_below b11 (keep_drew (Q3))))
    have B4 := btrans (btrans (btrans B3.drew b11) b12) b13
    clear b11 b12 b13 B3 hHeld hsd
    go_wp2_with fail
    refine (sok_lit ax ay ah ae true hcc.out _).mono ?_
    rintro e w14 ⟨rfl, b14⟩
    replace P0 := keep_below b14 (P0)
    replace P1 := keep_below b14 (P1)
    replace P2 := keep_below b14 (P2)
    replace P3 := keep_below b14 (P3)
    replace Q0 := keep_below b14 (Q0)
    replace Q1 := keep_below b14 (Q1)
    replace Q2 := keep_below b14 (Q2)
    replace Q3 := keep_below b14 (Q3)
    have B5 := btrans B4 b14
    clear b14 B4
    cases hbb : cok bx b_y bh be
    · have hbb' : Hid (cok bx b_y bh be = false) := hbb
      clear hbb
      go_wp2_with fail
      refine (sok_lit bx b_y bh be false hbb'.out _).mono ?_
      rintro e w15 ⟨rfl, b15⟩
      have B6 := btrans B5 b15
      go_wp2
      go_ret
      exact ⟨rfl, B6⟩
    · have hbb' : Hid (cok bx b_y bh be = true) := hbb
      clear hbb
      go_wp2_with fail
      refine (sok_lit bx b_y bh be true hbb'.out _).mono ?_
      rintro e w15 ⟨rfl, b15⟩
      replace P0 := keep_below b15 (P0)
      replace P1 := keep_below b15 (P1)
      replace P2 := keep_below b15 (P2)
      replace P3 := keep_below b15 (P3)
      replace Q0 := keep_below b15 (Q0)
      replace Q1 := keep_below b15 (Q1)
      replace Q2 := keep_below b15 (Q2)
      replace Q3 := keep_below b15 (Q3)
      have B6 := btrans B5 b15
      clear b15 B5
      by_cases h1 : d < 1
      · go_wp2
        go_ret
        exact ⟨rfl, B6⟩
      · by_cases h2 : 60000 < d
        · go_wp2
          go_ret
          exact ⟨rfl, B6⟩
        · go_wp2_with fail
          have kt : inb d 1 60000 = true := by unfold inb; rw [decide_eq_true (by omega : 1 ≤ d), decide_eq_true (by omega : d ≤ 60000)]; rfl
          obtain ⟨e1, e2, e3, e4⟩ := still_move ax ay ah ae bx b_y bh be d turn hcc.out hbb'.out hd.out
          refine (fmove_yes ax ay ah ae bx b_y bh be d turn _ (turns_below ht B6) hcc.out hbb'.out kt).mono ?_
          rintro e w16 ⟨rfl, b16⟩
          rw [e1, e2, e3]
          generalize mE ax ay ah ae bx b_y bh be d = E at *
          clear e1 e2 e3 kt
          replace P0 := keep_below b16 (P0)
          replace P1 := keep_below b16 (P1)
          replace P2 := keep_below b16 (P2)
          replace P3 := keep_below b16 (P3)
          replace Q0 := keep_below b16 (Q0)
          replace Q1 := keep_below b16 (Q1)
          replace Q2 := keep_below b16 (Q2)
          replace Q3 := keep_below b16 (Q3)
          have B7 := balloc (.cells #[.int .i64 ax, .int .i64 ay, .int .i64 ah, .int .i64 E] 24) (btrans B6 b16)
          clear B6 b16
          replace P0 := keep_alloc (.cells #[.int .i64 ax, .int .i64 ay, .int .i64 ah, .int .i64 E] 24) P0
          replace P1 := keep_alloc (.cells #[.int .i64 ax, .int .i64 ay, .int .i64 ah, .int .i64 E] 24) P1
          replace P2 := keep_alloc (.cells #[.int .i64 ax, .int .i64 ay, .int .i64 ah, .int .i64 E] 24) P2
          replace P3 := keep_alloc (.cells #[.int .i64 ax, .int .i64 ay, .int .i64 ah, .int .i64 E] 24) P3
          go_wp2
          go_ret
          exact ⟨rfl, B7⟩
end Go.Proofs.YtajcjanfllpcgaaDoor
