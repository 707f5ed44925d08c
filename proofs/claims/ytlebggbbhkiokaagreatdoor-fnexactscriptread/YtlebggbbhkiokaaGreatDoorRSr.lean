/- ScriptRead: the model's way, walked. -/
import Derived.Test.YtlebggbbhkiokaaGreatDoorRSq
namespace Go.Proofs.YtlebggbbhkiokaaGreatDoor
open Go.ChangeShapes Go.WideShapes Go.ChangeAt Go.RowKit
attribute [local go_sem ↓] Go.wp_at_zero Go.wp_at_succ
set_option maxRecDepth 20000 in
set_option maxHeartbeats 8000000 in
theorem ssr_short (T : List UInt8) (n : Nat) (F : Nat → Fc) (at_ : Int) (ok : Bool) (hT : T.length ≤ 4000) (hO : (AllL (cutL 10 T) n F ∧ at_ = 0 ∧ ok = true) ∨ (∃ i, BadL (cutL 10 T) i F ∧ n = 0 ∧ at_ = (i : Int) + 1 ∧ ok = false)) (w : World) :
    Calls Tryz.prog 4 #[.string (bs T)] w fun e w' => Rows3 w n F at_ ok e w' := by
  have hO' : Hid _ := hO
  clear hO
  obtain ⟨x, hx⟩ : ∃ x, Hid (bs T = x) := ⟨bs T, Eq.refl _⟩
  have g0 : ¬ (4000 : Int) < (x.size : Int) := by rw [← hx.out, bs_size]; omega
  have hxs : x.size ≤ 1048576 := by rw [← hx.out, bs_size]; omega
  have hxT : x.data.toList = T := by rw [← hx.out]
  obtain ⟨ti, hi, hz0, hz1, hz2⟩ := info_parts info24
  rw [hx.out]
  go_enter Tryz.func4, Tryz.ntmps4
  go_wp2_with fail
  have BW : Below w.heap.size w (w.alloc (.cells #[] 31)) := balloc _ (Below.refl _ _)
  have own0 : (w.alloc (.cells #[] 31)).ownsRow w.heap.size 31 4 (.slice (some ⟨w.heap.size, 0, none⟩) 0 0) 0 (fl (seqF F 0)) := World.ownsRow_lit w #[] 0 (Nat.le_refl _) (by unfold maxLen; omega) rfl
  generalize (w.alloc (.cells #[] 31)) = w0 at *
  refine (scut_lns x 10 10 rfl hxs _).mono ?_
  rintro _ w1 ⟨gp, cp, rfl, hpc, b1⟩
  rw [hxT] at hpc ⊢
  replace BW := btrans BW b1
  replace own0 := own_below own0 b1
  have hlen0 := cutL_len 10 T.length T (Nat.le_refl _)
  have hlen1 := List.length_pos_iff.2 (cutL_ne 10 T)
  have hmem := cutL_mem 10 T
  obtain ⟨P, hP⟩ : ∃ P, cutL 10 T = P := ⟨_, rfl⟩
  have hat0 : Hid (∀ k, k + 1 < P.length → (∀ i, BadL P i F → k ≤ i) → At P F n at_ ok k) := by unfold Hid; rw [← hP]; exact fun k hk hpre => at_line hO'.out hk hpre
  rw [hP] at hpc hlen0 hlen1 hmem hO' ⊢
  obtain ⟨M, hM⟩ : ∃ M, P.length = M + 1 := ⟨P.length - 1, by omega⟩
  have hPl : Hid (P.length = M + 1) := hM
  rw [hM] at hlen0 ⊢
  clear b1 hP hlen1 hM hxT
  replace hmem : Hid _ := hmem
  go_wp2_with fail
  go_loopw [5, 8] (fun v i wr => ∃ k : Nat, i = .int .i64 k ∧ k ≤ M ∧ wr.ownsRow w.heap.size 31 4 v k (fl (seqF F k)) ∧ Hid (∀ i, BadL P i F → k ≤ i) ∧ Lns wr gp P ∧ Below w.heap.size w wr) (fun _ i _ => M - (intOf i).toNat)
  case atStart => exact ⟨0, rfl, Nat.zero_le _, own0, fun i _ => Nat.zero_le _, hpc, BW⟩
  case round =>
    clear own0 BW hpc
    obtain ⟨k, rfl, hk, hown, hpre, hpc, BW⟩ := hrel
    by_cases hlt : k < M
    · have j0 : (0 : Int) ≤ (k : Int) := by omega
      have j1 : (k : Int) < (M : Int) := by omega
      have j2 : (k : Int) < (M : Int) + 1 := by omega
      rcases hat0.out k (by rw [hPl.out]; omega) hpre.out with ⟨hok0, hp⟩ | ⟨p, hp, hng, hn0, ha, ho⟩
      · have cp0 := hpc.cell hp
        have hl := eline_len hok0
        have hok : Hid (eok (F k) = true) := hok0
        have hmv : Hid (mvP (cutL 32 (eline (F k))) = (F k, true)) := by unfold Hid; rw [eline_cut hok0, mvP_line hok0]
        have hpre' : Hid (∀ i, BadL P i F → k + 1 ≤ i) := by
          intro i hb
          have h1 := hpre.out i hb
          rcases Nat.lt_or_ge k i with h2 | h2
          · exact h2
          · obtain rfl : k = i := by omega
            exfalso
            rcases hb.2 with ⟨_, p, hp2, hng⟩ | ⟨e2, _⟩
            · rw [hp] at hp2
              exact hng ⟨F k, hok0, Option.some.inj hp2⟩
            · have := hPl.out; omega
        have hsq : Hid (fl (seqF F (k + 1)) = fl (seqF F k) ++ fl [F k]) := by unfold Hid; rw [seqF_succ, fl_append]
        have hxp : Hid (eline (F k) = eline (F k)) := Eq.refl _
        generalize F k = f at *
        obtain ⟨xp, hxp⟩ : ∃ x, Hid (bs (eline f) = x) := ⟨bs (eline f), Eq.refl _⟩
        obtain ⟨xl, hxl⟩ : ∃ x, Hid (bs (eline f ++ [10]) = x) := ⟨bs (eline f ++ [10]), Eq.refl _⟩
        have hxs2 : xp.size ≤ 20 := by rw [← hxp.out, bs_size]; exact hl
        have hxe : (xl.toList == (xp ++ bs [10]).toList) = true := by rw [← hxl.out, ← hxp.out, bs_append]; simp
        have k1 : ¬ 9223372036854775807 < xp.size + 1 := by omega
        have hmv2 : Hid (mvP (cutL 32 xp.data.toList) = (f, true)) := by rw [← hxp.out]; exact hmv
        rw [hxp.out] at cp0
        clear hok0 hl hmv hp hpre
        go_wp2_with fail
        refine (sl_lit xp f true (by omega) hmv2.out _).mono ?_
        rintro e w2 ⟨rfl, b2⟩
        have cp2 := keep_below b2 cp0
        have B2 := btrans BW b2
        have O2 := own_below hown b2
        have pc2 := hpc.below b2
        clear cp0 BW hown hpc b2 hmv2
        have b4 : Below w2.heap.size w2 (w2.alloc (.cells #[.int .i64 f.n, .int .i64 f.i, .int .i64 f.s, .bool f.g] 31)) := balloc _ (Below.refl _ _)
        have BX : Bx (w2.alloc (.cells #[.int .i64 f.n, .int .i64 f.i, .int .i64 f.s, .bool f.g] 31)) w2.heap.size f := ⟨by simp, by simp, by simp, by simp, by simp, fun k => by simp⟩
        go_wp2_with fail
        have cp4 := keep_below b4 cp2
        have B4 := btrans B2 b4
        have O4 := own_below O2 b4
        have pc4 := pc2.below b4
        clear cp2 B2 O2 pc2 b4
        generalize (w2.alloc (.cells #[.int .i64 f.n, .int .i64 f.i, .int .i64 f.s, .bool f.g] 31)) = w4 at *
        obtain ⟨bx, hbx⟩ : ∃ b, Hid (w2.heap.size = b) := ⟨_, rfl⟩
        rw [hbx.out] at BX ⊢
        have e0 := BX.c0
        have e1 := BX.c1
        have e2 := BX.c2
        have e3 := BX.c3
        refine wp_region_held_drew (S := fun w' => w'.cell? ⟨bx, 0, none⟩ = some (.int .i64 f.n) ∧ w'.cell? ⟨bx, 1, none⟩ = some (.int .i64 f.i) ∧ w'.cell? ⟨bx, 2, none⟩ = some (.int .i64 f.s) ∧ w'.cell? ⟨bx, 3, none⟩ = some (.bool f.g) ∧ w'.cell? ⟨gp, k, none⟩ = some (.string xp)) (by kernel_rfl) ?_ (fun hHeld => ?_)
        · (try dsimp only); (refine ⟨?_, ?_, ?_, ?_, ?_⟩ <;> (repeat (first | with_reducible assumption | with_reducible refine keep_drew ?_ | with_reducible refine keep_below (by assumption) ?_)))
        refine wpAnyH_take (i := 0) (oi := { dst := some 34, op := Go.Op.move (Go.Operand.tmp 10), type := 4, pos := "l54_script.go:46", after := #[], guard := none }) (v := ?_) rfl (by kernel_rfl) (by kernel_rfl) (by kernel_rfl) (fun _ _ _ h => h) (Or.inl ⟨by rfl, ?_⟩) (by assumption) ?_
        rotate_left 1
        · (intro w hSw; (try dsimp only at hSw); go_simp; try with_reducible rfl)
        (try simp only [Act.put, List.setIfInBounds_toArray, List.set_cons_zero, List.set_cons_succ])
        refine wpAnyH_take (i := 1) (oi := { dst := some 35, op := Go.Op.unOp Go.UnOp.not 4 (Go.Operand.tmp 34), type := 4, pos := "l54_script.go:46", after := #[{ on := 0, ground := Go.Ground.data }], guard := none }) (v := ?_) rfl (by kernel_rfl) (by kernel_rfl) (by kernel_rfl) (fun _ _ _ h => h) (Or.inl ⟨by rfl, ?_⟩) (by assumption) ?_
        rotate_left 1
        · (intro w hSw; (try dsimp only at hSw); go_simp; try with_reducible rfl)
        (try simp only [Act.put, List.setIfInBounds_toArray, List.set_cons_zero, List.set_cons_succ])
        refine wpAnyH_take (i := 2) (oi := { dst := some 36, op := Go.Op.move (Go.Operand.tmp 35), type := 4, pos := "l54_script.go:46", after := #[{ on := 1, ground := Go.Ground.data }], guard := none }) (v := ?_) rfl (by kernel_rfl) (by kernel_rfl) (by kernel_rfl) (fun _ _ _ h => h) (Or.inl ⟨by rfl, ?_⟩) (by assumption) ?_
        rotate_left 1
        · (intro w hSw; (try dsimp only at hSw); go_simp; try with_reducible rfl)
        (try simp only [Act.put, List.setIfInBounds_toArray, List.set_cons_zero, List.set_cons_succ])
        refine wpAnyH_take (i := 3) (oi := { dst := some 37, op := Go.Op.load 31 (Go.Operand.tmp 9), type := 31, pos := "l54_script.go:46", after := #[{ on := 2, ground := Go.Ground.guard }], guard := some (2, false) }) (v := ?_) rfl (by kernel_rfl) (by kernel_rfl) (by kernel_rfl) (fun _ _ _ h => h) (Or.inl ⟨by rfl, ?_⟩) (by assumption) ?_
        rotate_left 1
        · (intro w hSw; (try dsimp only at hSw); go_simp; try with_reducible rfl)
        (try simp only [Act.put, List.setIfInBounds_toArray, List.set_cons_zero, List.set_cons_succ])
        refine wpAnyH_take (i := 5) (oi := { dst := some 39, op := Go.Op.move (Go.Operand.tmp 6), type := 28, pos := "l54_script.go:46", after := #[{ on := 2, ground := Go.Ground.guard }], guard := some (2, false) }) (v := ?_) rfl (by kernel_rfl) (by kernel_rfl) (by kernel_rfl) (fun _ _ _ h => h) (Or.inl ⟨by rfl, ?_⟩) (by assumption) ?_
        rotate_left 1
        · (intro w hSw; (try dsimp only at hSw); go_simp; try with_reducible rfl)
        (try simp only [Act.put, List.setIfInBounds_toArray, List.set_cons_zero, List.set_cons_succ])
        refine wpAnyH_take (i := 6) (oi := { dst := some 40, op := Go.Op.move (Go.Operand.tmp 8), type := 3, pos := "l54_script.go:46", after := #[{ on := 2, ground := Go.Ground.guard }], guard := some (2, false) }) (v := ?_) rfl (by kernel_rfl) (by kernel_rfl) (by kernel_rfl) (fun _ _ _ h => h) (Or.inl ⟨by rfl, ?_⟩) (by assumption) ?_
        rotate_left 1
        · (intro w hSw; (try dsimp only at hSw); go_simp; try with_reducible rfl)
        (try simp only [Act.put, List.setIfInBounds_toArray, List.set_cons_zero, List.set_cons_succ])
        refine wpAnyH_take (i := 7) (oi := { dst := some 41, op := Go.Op.indexAddr 28 (Go.Operand.tmp 39) (Go.Operand.tmp 40), type := 0, pos := "l54_script.go:46", after := #[{ on := 5, ground := Go.Ground.data }, { on := 6, ground := Go.Ground.data }, { on := 2, ground := Go.Ground.guard }], guard := some (2, false) }) (v := ?_) rfl (by kernel_rfl) (by kernel_rfl) (by kernel_rfl) (fun _ _ _ h => h) (Or.inl ⟨by rfl, ?_⟩) (by assumption) ?_
        rotate_left 1
        · (intro w hSw; (try dsimp only at hSw); go_simp; try with_reducible rfl)
        (try simp only [Act.put, List.setIfInBounds_toArray, List.set_cons_zero, List.set_cons_succ])
        refine wpAnyH_take (i := 8) (oi := { dst := some 42, op := Go.Op.load 9 (Go.Operand.tmp 41), type := 9, pos := "l54_script.go:46", after := #[{ on := 7, ground := Go.Ground.data }, { on := 2, ground := Go.Ground.guard }], guard := some (2, false) }) (v := ?_) rfl (by kernel_rfl) (by kernel_rfl) (by kernel_rfl) (fun _ _ _ h => h) (Or.inl ⟨by rfl, ?_⟩) (by assumption) ?_
        rotate_left 1
        · (intro w hSw; (try dsimp only at hSw); go_simp; try with_reducible rfl)
        (try simp only [Act.put, List.setIfInBounds_toArray, List.set_cons_zero, List.set_cons_succ])
        refine wpAnyH_take (i := 9) (oi := { dst := some 43, op := Go.Op.binOp Go.BinOp.add 9 (Go.Operand.tmp 42) (Go.Operand.const (Go.Value.string { data := #[10] })) 9, type := 9, pos := "l54_script.go:46", after := #[{ on := 8, ground := Go.Ground.data }, { on := 2, ground := Go.Ground.guard }], guard := some (2, false) }) (v := ?_) rfl (by kernel_rfl) (by kernel_rfl) (by kernel_rfl) (fun _ _ _ h => h) (Or.inl ⟨by rfl, ?_⟩) (by assumption) ?_
        rotate_left 1
        · (intro w hSw; (try dsimp only at hSw); go_simp; try with_reducible rfl)
        (try simp only [Act.put, List.setIfInBounds_toArray, List.set_cons_zero, List.set_cons_succ])
        refine wpAnyH_ready (rs := [4]) (by kernel_rfl) (by simp) ?_
        refine AllReadyH.cons (o := { dst := some 38, op := Go.Op.call { callee := Go.Callee.value (Go.Operand.func 11), args := #[Go.Operand.tmp 37], argTypes := #[31] }, type := 9, pos := "l54_script.go:46", after := #[{ on := 3, ground := Go.Ground.data }, { on := 2, ground := Go.Ground.chain }, { on := 2, ground := Go.Ground.guard }], guard := some (2, false) }) rfl (fun K hK => ?_) AllReadyH.nil
        go_simp
        refine (sll_lit f xl hok.out hxl.out _).mono ?_; rintro e w3 ⟨rfl, b3⟩
        go_wp2_with fail
        refine hK.out _ _ ?_ (fun hHeld => ?_)
        · (try dsimp only); (refine ⟨?_, ?_, ?_, ?_, ?_⟩ <;> (repeat (first | with_reducible assumption | with_reducible refine keep_drew ?_ | with_reducible refine keep_below (by assumption) ?_)))
        clear hK K
        (try simp only [Act.put, List.setIfInBounds_toArray, List.set_cons_zero, List.set_cons_succ])
        refine wpAnyH_take (i := 10) (oi := { dst := some 44, op := Go.Op.binOp Go.BinOp.neq 9 (Go.Operand.tmp 38) (Go.Operand.tmp 43) 9, type := 4, pos := "l54_script.go:46", after := #[{ on := 4, ground := Go.Ground.data }, { on := 9, ground := Go.Ground.data }, { on := 2, ground := Go.Ground.guard }], guard := some (2, false) }) (v := ?_) rfl (by kernel_rfl) (by kernel_rfl) (by kernel_rfl) (fun _ _ _ h => h) (Or.inl ⟨by rfl, ?_⟩) (by assumption) ?_
        rotate_left 1
        · (intro w hSw; (try dsimp only at hSw); go_simp; try with_reducible rfl)
        (try simp only [Act.put, List.setIfInBounds_toArray, List.set_cons_zero, List.set_cons_succ])
        refine wpAnyH_take (i := 11) (oi := { dst := some 45, op := Go.Op.pick (Go.Operand.tmp 36) (Go.Operand.const (Go.Value.bool true)) (Go.Operand.tmp 44), type := 4, pos := "l54_script.go:46", after := #[{ on := 2, ground := Go.Ground.data }, { on := 10, ground := Go.Ground.data }], guard := none }) (v := ?_) rfl (by kernel_rfl) (by kernel_rfl) (by kernel_rfl) (fun _ _ _ h => h) (Or.inl ⟨by rfl, ?_⟩) (by assumption) ?_
        rotate_left 1
        · (intro w hSw; (try dsimp only at hSw); go_simp; try with_reducible rfl)
        (try simp only [Act.put, List.setIfInBounds_toArray, List.set_cons_zero, List.set_cons_succ])
        refine wpAnyH_done (by kernel_rfl) ?_ _
        have B5 := btrans (qd B4) b3
        have O5 := own_below (own_below O4 (qd (Below.refl _ _))) b3
        have pc5 : Lns w3 gp P := (pc4.below (qd (Below.refl _ _))).below b3
        have BX5 := BX.drew.below b3
        have d0 := BX5.c0
        have d1 := BX5.c1
        have d2 := BX5.c2
        have d3 := BX5.c3
        clear hHeld B4 O4 pc4 b3 BX BX5 e0 e1 e2 e3 cp4 hok hxl hxp hxe
        have hnc := new_cells w3 f
        go_wp2_with (at_builtin; refine wpList_append_own _ rfl _ _ 22 rfl w.heap.size 31 ti (.agg #[.int .i64 0, .int .i64 0, .int .i64 0, .bool false]) 4 32 Tryz.underlying22 hi hz0 hz1 hz2 rfl (by decide) _ _ _ rfl (O5.alloc _) ⟨w3.heap.size, 0, none⟩ 1 1 (fl [f]) rfl rfl hnc (fl_one f) ?c3 ?c4 ?c5 ?_)
        case c3 => unfold maxLen; omega
        case c4 => omega
        case c5 => have := B5.size; simp; omega
        · intro v' w6 hown' hgrow _
          have B6 := own_grow (balloc (.cells #[.int .i64 f.n, .int .i64 f.i, .int .i64 f.s, .bool f.g] 31) B5) (by have := B5.size; simp; omega) (O5.alloc _) hgrow
          have pc6 : Lns w6 gp P := (pc5.below (balloc (.cells #[.int .i64 f.n, .int .i64 f.i, .int .i64 f.s, .bool f.g] 31) (Below.refl _ _))).grown (O5.alloc _) hgrow
          clear O5 hgrow B5 pc5 hnc d0 d1 d2 d3
          go_wp2
          go_roundw
          case rel => exact ⟨k + 1, by go_num, by omega, by rw [hsq.out]; exact hown', hpre', pc6, B6⟩
          case measure => simp [intOf]; omega
      · have cp0 := hpc.cell hp
        have hpl := hmem.out p (List.mem_of_getElem? hp)
        obtain ⟨f, hf⟩ : ∃ f, (mvP (cutL 32 p)).1 = f := ⟨_, rfl⟩
        obtain ⟨q, hq⟩ : ∃ q, (mvP (cutL 32 p)).2 = q := ⟨_, rfl⟩
        have hmv : Hid (mvP (cutL 32 p) = (f, q)) := by unfold Hid; rw [← hf, ← hq]
        have hq0 : Hid (q = true → eok f = true) := by unfold Hid; rw [← hf, ← hq]; exact mvP_ok _
        have hne : Hid (eok f = true → ¬ eline f = p) := fun h1 h2 => hng ⟨f, h1, h2⟩
        obtain ⟨xp, hxp⟩ : ∃ x, Hid (bs p = x) := ⟨bs p, Eq.refl _⟩
        have hxs2 : xp.size ≤ 4000 := by rw [← hxp.out, bs_size]; omega
        have hmv2 : Hid (mvP (cutL 32 xp.data.toList) = (f, q)) := by rw [← hxp.out]; exact hmv
        rw [hxp.out] at cp0
        subst hn0 ho
        have hat : Hid (at_ = (k : Int) + 1) := ha
        clear hf hq hmv hp hpre hng hown hpc ha hO' hmem hat0
        go_wp2_with fail
        refine (sl_lit xp f q (by omega) hmv2.out _).mono ?_
        rintro e w2 ⟨rfl, b2⟩
        have cp2 := keep_below b2 cp0
        have B2 := btrans BW b2
        clear cp0 BW b2 hmv2
        have b4 : Below w2.heap.size w2 (w2.alloc (.cells #[.int .i64 f.n, .int .i64 f.i, .int .i64 f.s, .bool f.g] 31)) := balloc _ (Below.refl _ _)
        have BX : Bx (w2.alloc (.cells #[.int .i64 f.n, .int .i64 f.i, .int .i64 f.s, .bool f.g] 31)) w2.heap.size f := ⟨by simp, by simp, by simp, by simp, by simp, fun k => by simp⟩
        go_wp2_with fail
        have cp4 := keep_below b4 cp2
        have B4 := btrans B2 b4
        clear cp2 B2 b4
        generalize (w2.alloc (.cells #[.int .i64 f.n, .int .i64 f.i, .int .i64 f.s, .bool f.g] 31)) = w4 at *
        obtain ⟨bx, hbx⟩ : ∃ b, Hid (w2.heap.size = b) := ⟨_, rfl⟩
        rw [hbx.out] at BX ⊢
        have e0 := BX.c0
        have e1 := BX.c1
        have e2 := BX.c2
        have e3 := BX.c3
        cases q
        · clear hq0 hne
          refine wp_region_held_drew (S := fun w' => w'.cell? ⟨bx, 0, none⟩ = some (.int .i64 f.n) ∧ w'.cell? ⟨bx, 1, none⟩ = some (.int .i64 f.i) ∧ w'.cell? ⟨bx, 2, none⟩ = some (.int .i64 f.s) ∧ w'.cell? ⟨bx, 3, none⟩ = some (.bool f.g) ∧ w'.cell? ⟨gp, k, none⟩ = some (.string xp)) (by kernel_rfl) ?_ (fun hHeld => ?_)
          · (try dsimp only); (refine ⟨?_, ?_, ?_, ?_, ?_⟩ <;> (repeat (first | with_reducible assumption | with_reducible refine keep_drew ?_ | with_reducible refine keep_below (by assumption) ?_)))
          refine wpAnyH_take (i := 0) (oi := { dst := some 34, op := Go.Op.move (Go.Operand.tmp 10), type := 4, pos := "l54_script.go:46", after := #[], guard := none }) (v := ?_) rfl (by kernel_rfl) (by kernel_rfl) (by kernel_rfl) (fun _ _ _ h => h) (Or.inl ⟨by rfl, ?_⟩) (by assumption) ?_
          rotate_left 1
          · (intro w hSw; (try dsimp only at hSw); go_simp; try with_reducible rfl)
          (try simp only [Act.put, List.setIfInBounds_toArray, List.set_cons_zero, List.set_cons_succ])
          refine wpAnyH_take (i := 1) (oi := { dst := some 35, op := Go.Op.unOp Go.UnOp.not 4 (Go.Operand.tmp 34), type := 4, pos := "l54_script.go:46", after := #[{ on := 0, ground := Go.Ground.data }], guard := none }) (v := ?_) rfl (by kernel_rfl) (by kernel_rfl) (by kernel_rfl) (fun _ _ _ h => h) (Or.inl ⟨by rfl, ?_⟩) (by assumption) ?_
          rotate_left 1
          · (intro w hSw; (try dsimp only at hSw); go_simp; try with_reducible rfl)
          (try simp only [Act.put, List.setIfInBounds_toArray, List.set_cons_zero, List.set_cons_succ])
          refine wpAnyH_take (i := 2) (oi := { dst := some 36, op := Go.Op.move (Go.Operand.tmp 35), type := 4, pos := "l54_script.go:46", after := #[{ on := 1, ground := Go.Ground.data }], guard := none }) (v := ?_) rfl (by kernel_rfl) (by kernel_rfl) (by kernel_rfl) (fun _ _ _ h => h) (Or.inl ⟨by rfl, ?_⟩) (by assumption) ?_
          rotate_left 1
          · (intro w hSw; (try dsimp only at hSw); go_simp; try with_reducible rfl)
          (try simp only [Act.put, List.setIfInBounds_toArray, List.set_cons_zero, List.set_cons_succ])
          refine wpAnyH_take (i := 3) (oi := { dst := some 37, op := Go.Op.load 31 (Go.Operand.tmp 9), type := 31, pos := "l54_script.go:46", after := #[{ on := 2, ground := Go.Ground.guard }], guard := some (2, false) }) (v := undef) rfl (by kernel_rfl) (by kernel_rfl) (by kernel_rfl) (fun _ _ _ h => h) (Or.inr ⟨by rfl, rfl⟩) (by assumption) ?_
          (try simp only [Act.put, List.setIfInBounds_toArray, List.set_cons_zero, List.set_cons_succ])
          refine wpAnyH_take (i := 4) (oi := { dst := some 38, op := Go.Op.call { callee := Go.Callee.value (Go.Operand.func 11), args := #[Go.Operand.tmp 37], argTypes := #[31] }, type := 9, pos := "l54_script.go:46", after := #[{ on := 3, ground := Go.Ground.data }, { on := 2, ground := Go.Ground.chain }, { on := 2, ground := Go.Ground.guard }], guard := some (2, false) }) (v := undef) rfl (by kernel_rfl) (by kernel_rfl) (by kernel_rfl) (fun _ _ _ h => h) (Or.inr ⟨by rfl, rfl⟩) (by assumption) ?_
          (try simp only [Act.put, List.setIfInBounds_toArray, List.set_cons_zero, List.set_cons_succ])
          refine wpAnyH_take (i := 5) (oi := { dst := some 39, op := Go.Op.move (Go.Operand.tmp 6), type := 28, pos := "l54_script.go:46", after := #[{ on := 2, ground := Go.Ground.guard }], guard := some (2, false) }) (v := undef) rfl (by kernel_rfl) (by kernel_rfl) (by kernel_rfl) (fun _ _ _ h => h) (Or.inr ⟨by rfl, rfl⟩) (by assumption) ?_
          (try simp only [Act.put, List.setIfInBounds_toArray, List.set_cons_zero, List.set_cons_succ])
          refine wpAnyH_take (i := 6) (oi := { dst := some 40, op := Go.Op.move (Go.Operand.tmp 8), type := 3, pos := "l54_script.go:46", after := #[{ on := 2, ground := Go.Ground.guard }], guard := some (2, false) }) (v := undef) rfl (by kernel_rfl) (by kernel_rfl) (by kernel_rfl) (fun _ _ _ h => h) (Or.inr ⟨by rfl, rfl⟩) (by assumption) ?_
          (try simp only [Act.put, List.setIfInBounds_toArray, List.set_cons_zero, List.set_cons_succ])
          refine wpAnyH_take (i := 7) (oi := { dst := some 41, op := Go.Op.indexAddr 28 (Go.Operand.tmp 39) (Go.Operand.tmp 40), type := 0, pos := "l54_script.go:46", after := #[{ on := 5, ground := Go.Ground.data }, { on := 6, ground := Go.Ground.data }, { on := 2, ground := Go.Ground.guard }], guard := some (2, false) }) (v := undef) rfl (by kernel_rfl) (by kernel_rfl) (by kernel_rfl) (fun _ _ _ h => h) (Or.inr ⟨by rfl, rfl⟩) (by assumption) ?_
          (try simp only [Act.put, List.setIfInBounds_toArray, List.set_cons_zero, List.set_cons_succ])
          refine wpAnyH_take (i := 8) (oi := { dst := some 42, op := Go.Op.load 9 (Go.Operand.tmp 41), type := 9, pos := "l54_script.go:46", after := #[{ on := 7, ground := Go.Ground.data }, { on := 2, ground := Go.Ground.guard }], guard := some (2, false) }) (v := undef) rfl (by kernel_rfl) (by kernel_rfl) (by kernel_rfl) (fun _ _ _ h => h) (Or.inr ⟨by rfl, rfl⟩) (by assumption) ?_
          (try simp only [Act.put, List.setIfInBounds_toArray, List.set_cons_zero, List.set_cons_succ])
          refine wpAnyH_take (i := 9) (oi := { dst := some 43, op := Go.Op.binOp Go.BinOp.add 9 (Go.Operand.tmp 42) (Go.Operand.const (Go.Value.string { data := #[10] })) 9, type := 9, pos := "l54_script.go:46", after := #[{ on := 8, ground := Go.Ground.data }, { on := 2, ground := Go.Ground.guard }], guard := some (2, false) }) (v := undef) rfl (by kernel_rfl) (by kernel_rfl) (by kernel_rfl) (fun _ _ _ h => h) (Or.inr ⟨by rfl, rfl⟩) (by assumption) ?_
          (try simp only [Act.put, List.setIfInBounds_toArray, List.set_cons_zero, List.set_cons_succ])
          refine wpAnyH_take (i := 10) (oi := { dst := some 44, op := Go.Op.binOp Go.BinOp.neq 9 (Go.Operand.tmp 38) (Go.Operand.tmp 43) 9, type := 4, pos := "l54_script.go:46", after := #[{ on := 4, ground := Go.Ground.data }, { on := 9, ground := Go.Ground.data }, { on := 2, ground := Go.Ground.guard }], guard := some (2, false) }) (v := undef) rfl (by kernel_rfl) (by kernel_rfl) (by kernel_rfl) (fun _ _ _ h => h) (Or.inr ⟨by rfl, rfl⟩) (by assumption) ?_
          (try simp only [Act.put, List.setIfInBounds_toArray, List.set_cons_zero, List.set_cons_succ])
          refine wpAnyH_take (i := 11) (oi := { dst := some 45, op := Go.Op.pick (Go.Operand.tmp 36) (Go.Operand.const (Go.Value.bool true)) (Go.Operand.tmp 44), type := 4, pos := "l54_script.go:46", after := #[{ on := 2, ground := Go.Ground.data }, { on := 10, ground := Go.Ground.data }], guard := none }) (v := ?_) rfl (by kernel_rfl) (by kernel_rfl) (by kernel_rfl) (fun _ _ _ h => h) (Or.inl ⟨by rfl, ?_⟩) (by assumption) ?_
          rotate_left 1
          · (intro w hSw; (try dsimp only at hSw); go_simp; try with_reducible rfl)
          (try simp only [Act.put, List.setIfInBounds_toArray, List.set_cons_zero, List.set_cons_succ])
          refine wpAnyH_done (by kernel_rfl) ?_ _
          replace BW := qd B4
          clear hHeld B4 BX e0 e1 e2 e3 cp4
          generalize w4.drew = w5 at *
          go_wp2_with fail
          go_wp2
          exact bodyPost_ret (v := .tuple #[.slice (some ⟨w5.heap.size, 0, none⟩) 0 0, .int .i64 ((k : Int) + 1), .bool false]) (by simp [results, Tryz.results4, go_sem]) rfl ⟨_, by rw [hat.out], empty_row _ (by have := BW.size; omega), balloc _ BW⟩
        · have hok : Hid (eok f = true) := hq0.out rfl
          have hne2 := hne.out hok.out
          obtain ⟨xl, hxl⟩ : ∃ x, Hid (bs (eline f ++ [10]) = x) := ⟨bs (eline f ++ [10]), Eq.refl _⟩
          have hxe : (xl.toList == (xp ++ bs [10]).toList) = false := by
            rw [← hxl.out, ← hxp.out, bs_append, beq_eq_false_iff_ne, ByteArray.toList_eq, ByteArray.toList_eq]
            intro e
            exact hne2 (List.append_cancel_right e)
          have k1 : ¬ 9223372036854775807 < xp.size + 1 := by omega
          clear hq0 hne hne2
          refine wp_region_held_drew (S := fun w' => w'.cell? ⟨bx, 0, none⟩ = some (.int .i64 f.n) ∧ w'.cell? ⟨bx, 1, none⟩ = some (.int .i64 f.i) ∧ w'.cell? ⟨bx, 2, none⟩ = some (.int .i64 f.s) ∧ w'.cell? ⟨bx, 3, none⟩ = some (.bool f.g) ∧ w'.cell? ⟨gp, k, none⟩ = some (.string xp)) (by kernel_rfl) ?_ (fun hHeld => ?_)
          · (try dsimp only); (refine ⟨?_, ?_, ?_, ?_, ?_⟩ <;> (repeat (first | with_reducible assumption | with_reducible refine keep_drew ?_ | with_reducible refine keep_below (by assumption) ?_)))
          refine wpAnyH_take (i := 0) (oi := { dst := some 34, op := Go.Op.move (Go.Operand.tmp 10), type := 4, pos := "l54_script.go:46", after := #[], guard := none }) (v := ?_) rfl (by kernel_rfl) (by kernel_rfl) (by kernel_rfl) (fun _ _ _ h => h) (Or.inl ⟨by rfl, ?_⟩) (by assumption) ?_
          rotate_left 1
          · (intro w hSw; (try dsimp only at hSw); go_simp; try with_reducible rfl)
          (try simp only [Act.put, List.setIfInBounds_toArray, List.set_cons_zero, List.set_cons_succ])
          refine wpAnyH_take (i := 1) (oi := { dst := some 35, op := Go.Op.unOp Go.UnOp.not 4 (Go.Operand.tmp 34), type := 4, pos := "l54_script.go:46", after := #[{ on := 0, ground := Go.Ground.data }], guard := none }) (v := ?_) rfl (by kernel_rfl) (by kernel_rfl) (by kernel_rfl) (fun _ _ _ h => h) (Or.inl ⟨by rfl, ?_⟩) (by assumption) ?_
          rotate_left 1
          · (intro w hSw; (try dsimp only at hSw); go_simp; try with_reducible rfl)
          (try simp only [Act.put, List.setIfInBounds_toArray, List.set_cons_zero, List.set_cons_succ])
          refine wpAnyH_take (i := 2) (oi := { dst := some 36, op := Go.Op.move (Go.Operand.tmp 35), type := 4, pos := "l54_script.go:46", after := #[{ on := 1, ground := Go.Ground.data }], guard := none }) (v := ?_) rfl (by kernel_rfl) (by kernel_rfl) (by kernel_rfl) (fun _ _ _ h => h) (Or.inl ⟨by rfl, ?_⟩) (by assumption) ?_
          rotate_left 1
          · (intro w hSw; (try dsimp only at hSw); go_simp; try with_reducible rfl)
          (try simp only [Act.put, List.setIfInBounds_toArray, List.set_cons_zero, List.set_cons_succ])
          refine wpAnyH_take (i := 3) (oi := { dst := some 37, op := Go.Op.load 31 (Go.Operand.tmp 9), type := 31, pos := "l54_script.go:46", after := #[{ on := 2, ground := Go.Ground.guard }], guard := some (2, false) }) (v := ?_) rfl (by kernel_rfl) (by kernel_rfl) (by kernel_rfl) (fun _ _ _ h => h) (Or.inl ⟨by rfl, ?_⟩) (by assumption) ?_
          rotate_left 1
          · (intro w hSw; (try dsimp only at hSw); go_simp; try with_reducible rfl)
          (try simp only [Act.put, List.setIfInBounds_toArray, List.set_cons_zero, List.set_cons_succ])
          refine wpAnyH_take (i := 5) (oi := { dst := some 39, op := Go.Op.move (Go.Operand.tmp 6), type := 28, pos := "l54_script.go:46", after := #[{ on := 2, ground := Go.Ground.guard }], guard := some (2, false) }) (v := ?_) rfl (by kernel_rfl) (by kernel_rfl) (by kernel_rfl) (fun _ _ _ h => h) (Or.inl ⟨by rfl, ?_⟩) (by assumption) ?_
          rotate_left 1
          · (intro w hSw; (try dsimp only at hSw); go_simp; try with_reducible rfl)
          (try simp only [Act.put, List.setIfInBounds_toArray, List.set_cons_zero, List.set_cons_succ])
          refine wpAnyH_take (i := 6) (oi := { dst := some 40, op := Go.Op.move (Go.Operand.tmp 8), type := 3, pos := "l54_script.go:46", after := #[{ on := 2, ground := Go.Ground.guard }], guard := some (2, false) }) (v := ?_) rfl (by kernel_rfl) (by kernel_rfl) (by kernel_rfl) (fun _ _ _ h => h) (Or.inl ⟨by rfl, ?_⟩) (by assumption) ?_
          rotate_left 1
          · (intro w hSw; (try dsimp only at hSw); go_simp; try with_reducible rfl)
          (try simp only [Act.put, List.setIfInBounds_toArray, List.set_cons_zero, List.set_cons_succ])
          refine wpAnyH_take (i := 7) (oi := { dst := some 41, op := Go.Op.indexAddr 28 (Go.Operand.tmp 39) (Go.Operand.tmp 40), type := 0, pos := "l54_script.go:46", after := #[{ on := 5, ground := Go.Ground.data }, { on := 6, ground := Go.Ground.data }, { on := 2, ground := Go.Ground.guard }], guard := some (2, false) }) (v := ?_) rfl (by kernel_rfl) (by kernel_rfl) (by kernel_rfl) (fun _ _ _ h => h) (Or.inl ⟨by rfl, ?_⟩) (by assumption) ?_
          rotate_left 1
          · (intro w hSw; (try dsimp only at hSw); go_simp; try with_reducible rfl)
          (try simp only [Act.put, List.setIfInBounds_toArray, List.set_cons_zero, List.set_cons_succ])
          refine wpAnyH_take (i := 8) (oi := { dst := some 42, op := Go.Op.load 9 (Go.Operand.tmp 41), type := 9, pos := "l54_script.go:46", after := #[{ on := 7, ground := Go.Ground.data }, { on := 2, ground := Go.Ground.guard }], guard := some (2, false) }) (v := ?_) rfl (by kernel_rfl) (by kernel_rfl) (by kernel_rfl) (fun _ _ _ h => h) (Or.inl ⟨by rfl, ?_⟩) (by assumption) ?_
          rotate_left 1
          · (intro w hSw; (try dsimp only at hSw); go_simp; try with_reducible rfl)
          (try simp only [Act.put, List.setIfInBounds_toArray, List.set_cons_zero, List.set_cons_succ])
          refine wpAnyH_take (i := 9) (oi := { dst := some 43, op := Go.Op.binOp Go.BinOp.add 9 (Go.Operand.tmp 42) (Go.Operand.const (Go.Value.string { data := #[10] })) 9, type := 9, pos := "l54_script.go:46", after := #[{ on := 8, ground := Go.Ground.data }, { on := 2, ground := Go.Ground.guard }], guard := some (2, false) }) (v := ?_) rfl (by kernel_rfl) (by kernel_rfl) (by kernel_rfl) (fun _ _ _ h => h) (Or.inl ⟨by rfl, ?_⟩) (by assumption) ?_
          rotate_left 1
          · (intro w hSw; (try dsimp only at hSw); go_simp; try with_reducible rfl)
          (try simp only [Act.put, List.setIfInBounds_toArray, List.set_cons_zero, List.set_cons_succ])
          refine wpAnyH_ready (rs := [4]) (by kernel_rfl) (by simp) ?_
          refine AllReadyH.cons (o := { dst := some 38, op := Go.Op.call { callee := Go.Callee.value (Go.Operand.func 11), args := #[Go.Operand.tmp 37], argTypes := #[31] }, type := 9, pos := "l54_script.go:46", after := #[{ on := 3, ground := Go.Ground.data }, { on := 2, ground := Go.Ground.chain }, { on := 2, ground := Go.Ground.guard }], guard := some (2, false) }) rfl (fun K hK => ?_) AllReadyH.nil
          go_simp
          refine (sll_lit f xl hok.out hxl.out _).mono ?_; rintro e w3 ⟨rfl, b3⟩
          go_wp2_with fail
          refine hK.out _ _ ?_ (fun hHeld => ?_)
          · (try dsimp only); (refine ⟨?_, ?_, ?_, ?_, ?_⟩ <;> (repeat (first | with_reducible assumption | with_reducible refine keep_drew ?_ | with_reducible refine keep_below (by assumption) ?_)))
          clear hK K
          (try simp only [Act.put, List.setIfInBounds_toArray, List.set_cons_zero, List.set_cons_succ])
          refine wpAnyH_take (i := 10) (oi := { dst := some 44, op := Go.Op.binOp Go.BinOp.neq 9 (Go.Operand.tmp 38) (Go.Operand.tmp 43) 9, type := 4, pos := "l54_script.go:46", after := #[{ on := 4, ground := Go.Ground.data }, { on := 9, ground := Go.Ground.data }, { on := 2, ground := Go.Ground.guard }], guard := some (2, false) }) (v := ?_) rfl (by kernel_rfl) (by kernel_rfl) (by kernel_rfl) (fun _ _ _ h => h) (Or.inl ⟨by rfl, ?_⟩) (by assumption) ?_
          rotate_left 1
          · (intro w hSw; (try dsimp only at hSw); go_simp; try with_reducible rfl)
          (try simp only [Act.put, List.setIfInBounds_toArray, List.set_cons_zero, List.set_cons_succ])
          refine wpAnyH_take (i := 11) (oi := { dst := some 45, op := Go.Op.pick (Go.Operand.tmp 36) (Go.Operand.const (Go.Value.bool true)) (Go.Operand.tmp 44), type := 4, pos := "l54_script.go:46", after := #[{ on := 2, ground := Go.Ground.data }, { on := 10, ground := Go.Ground.data }], guard := none }) (v := ?_) rfl (by kernel_rfl) (by kernel_rfl) (by kernel_rfl) (fun _ _ _ h => h) (Or.inl ⟨by rfl, ?_⟩) (by assumption) ?_
          rotate_left 1
          · (intro w hSw; (try dsimp only at hSw); go_simp; try with_reducible rfl)
          (try simp only [Act.put, List.setIfInBounds_toArray, List.set_cons_zero, List.set_cons_succ])
          refine wpAnyH_done (by kernel_rfl) ?_ _
          have BW := btrans (qd B4) b3
          clear hHeld B4 BX e0 e1 e2 e3 cp4 b3 hxe
          clear hok hxl hxp
          go_wp2_with fail
          go_wp2
          exact bodyPost_ret (v := .tuple #[.slice (some ⟨w3.heap.size, 0, none⟩) 0 0, .int .i64 ((k : Int) + 1), .bool false]) (by simp [results, Tryz.results4, go_sem]) rfl ⟨_, by rw [hat.out], empty_row _ (by have := BW.size; omega), balloc _ BW⟩
    · obtain rfl : k = M := by omega
      obtain ⟨p, hp⟩ : ∃ p, P[k]? = some p := ⟨P[k]'(by rw [hPl.out]; omega), List.getElem?_eq_getElem _⟩
      have cp0 := hpc.cell hp
      obtain ⟨xp, hxp⟩ : ∃ x, Hid (bs p = x) := ⟨bs p, Eq.refl _⟩
      rw [hxp.out] at cp0
      have j0 : (0 : Int) ≤ (k : Int) := by omega
      have j2 : (k : Int) < (k : Int) + 1 := by omega
      by_cases hp0 : p = []
      · have hxe : (xp.toList == []) = true := by rw [← hxp.out, hp0, ByteArray.toList_eq]; rfl
        have hfin : Hid (n = k ∧ at_ = 0 ∧ ok = true) := by
          rcases hO'.out with ⟨⟨a, _, _⟩, b, c⟩ | ⟨i, hb, _⟩
          · exact ⟨by have := hPl.out; omega, b, c⟩
          · exfalso
            have h1 := hpre.out i hb
            rcases hb.2 with ⟨h2, _⟩ | ⟨h2, p', hp', hn'⟩
            · have := hPl.out; omega
            · have : i = k := by have := hPl.out; omega
              subst this
              rw [hp] at hp'
              exact hn' ((Option.some.inj hp').symm.trans hp0)
        obtain ⟨h1, h2, h3⟩ := hfin.out
        subst h1 h2 h3
        clear hfin hp0 hp hpc hpre hO' hat0 hmem hxp
        go_wp2
        exact bodyPost_ret (v := .tuple #[_, .int .i64 0, .bool true]) (by simp [results, Tryz.results4, go_sem]) rfl ⟨_, rfl, hown, BW⟩
      · have hxe : (xp.toList == []) = false := by rw [← hxp.out, beq_eq_false_iff_ne, ByteArray.toList_eq]; exact hp0
        have hfin : Hid (n = 0 ∧ at_ = (k : Int) + 1 ∧ ok = false) := by
          rcases hO'.out with ⟨⟨a, b, _⟩, _, _⟩ | ⟨i, hb, b, c, d⟩
          · exfalso
            have : n = k := by have := hPl.out; omega
            subst this
            rw [hp] at b
            exact hp0 (Option.some.inj b)
          · have h1 := hpre.out i hb
            have : i = k := by
              rcases hb.2 with ⟨h2, _⟩ | ⟨h2, _⟩
              · have := hPl.out; omega
              · have := hPl.out; omega
            subst this
            exact ⟨b, c, d⟩
        obtain ⟨h1, h2, h3⟩ := hfin.out
        subst h1 h3
        have hat : Hid (at_ = (k : Int) + 1) := h2
        clear hfin hp0 hp hpc hpre hO' hat0 hmem hxp h2 hown
        go_wp2_with fail
        go_wp2
        exact bodyPost_ret (v := .tuple #[.slice (some ⟨wr.heap.size, 0, none⟩) 0 0, .int .i64 ((k : Int) + 1), .bool false]) (by simp [results, Tryz.results4, go_sem]) rfl ⟨_, by rw [hat.out], empty_row _ (by have := BW.size; omega), balloc _ BW⟩
set_option maxRecDepth 20000 in
theorem ssr_any (T : List UInt8) (n : Nat) (F : Nat → Fc) (at_ : Int) (ok : Bool) (hO : Out T n F at_ ok) (w : World) :
    Calls Tryz.prog 4 #[.string (bs T)] w fun e w' => Rows3 w n F at_ ok e w' := by
  rcases hO with ⟨h, rfl, rfl, rfl⟩ | ⟨h, hA, h2, h3⟩ | ⟨h, i, G, hB, h1, h2, h3⟩
  · obtain ⟨x, hx⟩ : ∃ x, Hid (bs T = x) := ⟨bs T, Eq.refl _⟩
    have g0 : (4000 : Int) < (x.size : Int) := by rw [← hx.out, bs_size]; omega
    rw [hx.out]
    have B1 : Below w.heap.size w (w.alloc (.cells #[] 31)) := balloc _ (Below.refl _ _)
    go_enter Tryz.func4, Tryz.ntmps4
    go_wp2
    exact bodyPost_ret (v := .tuple #[.slice (some ⟨w.heap.size, 0, none⟩) 0 0, .int .i64 0, .bool false]) (by simp [results, Tryz.results4, go_sem]) rfl ⟨_, rfl, empty_row _ (Nat.le_refl _), B1⟩
  · exact ssr_short T n F at_ ok h (.inl ⟨hA, h2, h3⟩) w
  · refine (ssr_short T n G at_ ok h (.inr ⟨i, hB, h1, h2, h3⟩) w).mono ?_
    rintro e w' ⟨v, he, hr, hb⟩
    subst h1
    exact ⟨v, he, hr, hb⟩
end Go.Proofs.YtlebggbbhkiokaaGreatDoor
