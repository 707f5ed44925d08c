/- An event read: the model's way, walked. -/
import Derived.Test.YtlebggbbhkiokaaGreatDoorRSm
namespace Go.Proofs.YtlebggbbhkiokaaGreatDoor
open Go.ChangeShapes Go.WideShapes Go.ChangeAt Go.RowKit
attribute [local go_sem ↓] Go.wp_at_zero Go.wp_at_succ
set_option maxRecDepth 20000 in
set_option maxHeartbeats 8000000 in
theorem sl_any (s : ByteArray) (hs : s.size ≤ 1048576) (w : World) :
    Calls Tryz.prog 10 #[.string s] w fun e w' => Rev (mvP (cutL 32 s.data.toList)) w e w' := by
  have hL : s.data.toList.length = s.size := by simp
  have hms : ∀ p ∈ cutL 32 s.data.toList, p.length ≤ s.data.toList.length := cutL_mem 32 _
  go_enter Tryz.func10, Tryz.ntmps10
  go_wp2_with fail
  have BA : Bx (w.alloc (.cells #[.int .i64 0, .int .i64 0, .int .i64 0, .bool false] 31)) w.heap.size ⟨0, 0, 0, false⟩ := ⟨by simp, by simp, by simp, by simp, by simp, fun k => by simp⟩
  have BW : Below w.heap.size w (w.alloc (.cells #[.int .i64 0, .int .i64 0, .int .i64 0, .bool false] 31)) := balloc _ (Below.refl _ _)
  have hsz0 : w.heap.size < (w.alloc (.cells #[.int .i64 0, .int .i64 0, .int .i64 0, .bool false] 31)).heap.size := by simp
  generalize (w.alloc (.cells #[.int .i64 0, .int .i64 0, .int .i64 0, .bool false] 31)) = w0 at *
  refine (scut_cells s 32 32 rfl hs _).mono ?_
  rintro _ w1 ⟨gp, cp, rfl, hg1, hg2, hpc, b1⟩
  replace BW := btrans BW b1
  replace BA := BA.below b1
  have hb2 : Hid (w.heap.size ≤ w.heap.size) := Nat.le_refl _
  have hgb : gp ≠ w.heap.size := by omega
  obtain ⟨b2, hbe⟩ : ∃ b, Hid (w.heap.size = b) := ⟨_, rfl⟩
  replace hb2 : Hid (w.heap.size ≤ b2) := by unfold Hid; rw [← hbe.out]; exact Nat.le_refl _
  rw [hbe.out] at BA hgb ⊢
  clear b1 hsz0 hg1 hbe
  obtain ⟨P, hP⟩ : ∃ P, cutL 32 s.data.toList = P := ⟨_, rfl⟩
  rw [hP] at hpc hms ⊢
  replace hP : Hid _ := hP
  rcases P with _ | ⟨a, _ | ⟨b, _ | ⟨c, _ | ⟨d, r⟩⟩⟩⟩
  · have hv : Hid (mvP (cutL 32 s.data.toList) = (⟨0, 0, 0, false⟩, false)) := by unfold Hid; rw [hP.out]; exact mvP_other (by simp) (by simp)
    clear hP
    obtain ⟨n0, hn0⟩ : ∃ n0 : Nat, 0 = n0 := ⟨_, rfl⟩
    have hl0 : ([] : List (List UInt8)).length = n0 := by rw [← hn0]; rfl
    have g1 : (n0 : Int) < 2 := by omega
    rw [hl0]
    clear hpc hms hn0 hl0
    have BA8 := (((BA.set0 0).set1 0).set2 0).set3 false
    have BE : Below w.heap.size w ((((w1.setCell ⟨b2, 0, none⟩ (.int .i64 0)).setCell ⟨b2, 1, none⟩ (.int .i64 0)).setCell ⟨b2, 2, none⟩ (.int .i64 0)).setCell ⟨b2, 3, none⟩ (.bool false)) := (((BW.setCell hb2.out _).setCell hb2.out _).setCell hb2.out _).setCell hb2.out _
    have a0 := BA.c0
    have a1 := BA.c1
    have a2 := BA.c2
    have a3 := BA.c3
    have z0 := BA.z 0
    have z1 := BA.z 1
    have z2 := BA.z 2
    have z3 := BA.z 3
    go_wp2
    clear a0 a1 a2 a3 z0 z1 z2 z3 BA BW
    generalize ((((w1.setCell ⟨b2, 0, none⟩ (.int .i64 0)).setCell ⟨b2, 1, none⟩ (.int .i64 0)).setCell ⟨b2, 2, none⟩ (.int .i64 0)).setCell ⟨b2, 3, none⟩ (.bool false)) = w9 at *
    have a0 := BA8.c0
    have a1 := BA8.c1
    have a2 := BA8.c2
    have a3 := BA8.c3
    exact bodyPost_ret (v := .tuple #[.agg #[.int .i64 0, .int .i64 0, .int .i64 0, .bool false], .bool false]) (by simp [results, Tryz.results10, go_sem, a0, a1, a2, a3]) rfl (Rev.of hv BE)
  · have hv : Hid (mvP (cutL 32 s.data.toList) = (⟨0, 0, 0, false⟩, false)) := by unfold Hid; rw [hP.out]; exact mvP_other (by simp) (by simp)
    clear hP
    obtain ⟨n0, hn0⟩ : ∃ n0 : Nat, 1 = n0 := ⟨_, rfl⟩
    have hl0 : ([a] : List (List UInt8)).length = n0 := by rw [← hn0]; rfl
    have g1 : (n0 : Int) < 2 := by omega
    rw [hl0]
    clear hpc hms hn0 hl0
    have BA8 := (((BA.set0 0).set1 0).set2 0).set3 false
    have BE : Below w.heap.size w ((((w1.setCell ⟨b2, 0, none⟩ (.int .i64 0)).setCell ⟨b2, 1, none⟩ (.int .i64 0)).setCell ⟨b2, 2, none⟩ (.int .i64 0)).setCell ⟨b2, 3, none⟩ (.bool false)) := (((BW.setCell hb2.out _).setCell hb2.out _).setCell hb2.out _).setCell hb2.out _
    have a0 := BA.c0
    have a1 := BA.c1
    have a2 := BA.c2
    have a3 := BA.c3
    have z0 := BA.z 0
    have z1 := BA.z 1
    have z2 := BA.z 2
    have z3 := BA.z 3
    go_wp2
    clear a0 a1 a2 a3 z0 z1 z2 z3 BA BW
    generalize ((((w1.setCell ⟨b2, 0, none⟩ (.int .i64 0)).setCell ⟨b2, 1, none⟩ (.int .i64 0)).setCell ⟨b2, 2, none⟩ (.int .i64 0)).setCell ⟨b2, 3, none⟩ (.bool false)) = w9 at *
    have a0 := BA8.c0
    have a1 := BA8.c1
    have a2 := BA8.c2
    have a3 := BA8.c3
    exact bodyPost_ret (v := .tuple #[.agg #[.int .i64 0, .int .i64 0, .int .i64 0, .bool false], .bool false]) (by simp [results, Tryz.results10, go_sem, a0, a1, a2, a3]) rfl (Rev.of hv BE)
  · have la : (bs a).size ≤ 1048576 := by have := hms a (by simp); show a.toArray.size ≤ _; rw [List.size_toArray]; omega
    have lb : (bs b).size ≤ 1048576 := by have := hms b (by simp); show b.toArray.size ≤ _; rw [List.size_toArray]; omega
    have p0 := hpc 0 a rfl
    have p1 := hpc 1 b rfl
    obtain ⟨pa, hpaa⟩ : ∃ p, bs a = p := ⟨_, rfl⟩
    obtain ⟨pb, hpbb⟩ : ∃ p, bs b = p := ⟨_, rfl⟩
    have ea : a = pa.data.toList := by rw [← hpaa]
    have eb : b = pb.data.toList := by rw [← hpbb]
    rw [hpaa] at p0 la
    rw [hpbb] at p1 lb
    subst ea eb
    clear hpaa hpbb hpc hms
    obtain ⟨nb, hnb⟩ : ∃ k, Hid (mnum pb.data.toList = k) := ⟨mnum pb.data.toList, Eq.refl _⟩
    have hNB := fun w => snum_lit pb nb lb hnb.out w
    go_wp2_with fail
    refine (hNB _).mono ?_
    rintro e w2 ⟨rfl, bb⟩
    replace p0 := keep_below bb p0
    replace BW := btrans BW bb
    replace BA := BA.below bb
    have hgp2 : gp < w2.heap.size := by have := bb.size; omega
    clear bb hNB p1
    have BX : Bx (w2.alloc (.cells #[.int .i64 0, .int .i64 nb, .int .i64 0, .bool false] 31)) w2.heap.size ⟨0, nb, 0, false⟩ := ⟨by simp, by simp, by simp, by simp, by simp, fun k => by simp⟩
    have b3 : Below w2.heap.size w2 (w2.alloc (.cells #[.int .i64 0, .int .i64 nb, .int .i64 0, .bool false] 31)) := balloc _ (Below.refl _ _)
    go_wp2_with fail
    replace p0 := keep_below b3 p0
    have hbx : w2.heap.size ≠ b2 := by have := BA.lt; omega
    have hgp : gp ≠ w2.heap.size := by omega
    have hbxw : Hid (w.heap.size ≤ w2.heap.size) := BW.size
    replace BW := btrans BW b3
    replace BA := BA.below b3
    have hszk : w2.heap.size < (w2.alloc (.cells #[.int .i64 0, .int .i64 nb, .int .i64 0, .bool false] 31)).heap.size := by simp
    clear b3 hgp2
    generalize (w2.alloc (.cells #[.int .i64 0, .int .i64 nb, .int .i64 0, .bool false] 31)) = w3 at *
    obtain ⟨bx, hbe⟩ : ∃ bx, w2.heap.size = bx := ⟨_, rfl⟩
    rw [hbe] at BX hbx hgp hbxw hszk ⊢
    clear hbe
    refine (kinds_any _).mono ?_
    rintro e w4 ⟨rfl, bb, q1⟩
    replace p0 := keep_below bb p0
    replace BW := btrans BW bb
    replace BA := BA.below bb
    replace BX := BX.below bb
    have hgk : w3.heap.size ≠ bx := by omega
    obtain ⟨gk, hge⟩ : ∃ g, w3.heap.size = g := ⟨_, rfl⟩
    rw [hge] at q1 hgk ⊢
    replace q1 : Hid _ := q1
    clear hge bb hszk
    go_wp2_with fail
    go_loopw [7] (fun i wr => ∃ k : Nat, i = .int .i64 ((k : Int) + 1) ∧ k ≤ 9 ∧ Bx wr b2 ⟨0, 0, 0, false⟩ ∧ Bx wr bx ⟨kst pa.data.toList k, nb, 0, false⟩ ∧ (wr.cell? ⟨gp, 0, none⟩ = some (.string pa)) ∧ Hid (∀ (k : Nat) (x : ByteArray), Hid (k < 10 ∧ bs (kindsL.getD k []) = x) → wr.cell? ⟨gk, k, none⟩ = some (.string x)) ∧ Below w.heap.size w wr) (fun i _ => 11 - (intOf i).toNat)
    case atStart => exact ⟨0, rfl, by omega, BA, BX, p0, q1, BW⟩
    case round =>
      clear BA BX p0 q1 BW
      obtain ⟨k, rfl, hk, BA, BX, p0, q1, BW⟩ := hrel
      by_cases hlt : k < 9
      · have j0 : (0 : Int) ≤ (k : Int) + 1 := by omega
        have j1 : (k : Int) + 1 < 10 := by omega
        have jt : ((k : Int) + 1).toNat = k + 1 := by omega
        obtain ⟨xk, hxk⟩ : ∃ x, bs (kindsL.getD (k + 1) []) = x := ⟨_, rfl⟩
        have ck := q1.out (k + 1) xk ⟨by omega, hxk⟩
        by_cases hq : kindsL.getD (k + 1) [] = pa.data.toList
        · have hqq : (xk.toList == pa.toList) = true := by rw [← hxk, hq]; show (pa.toList == pa.toList) = true; simp
          have hst : Hid (kst pa.data.toList (k + 1) = (k : Int) + 1) := by unfold Hid; rw [kst, if_pos hq]
          clear hxk hq
          go_wp2_with fail
          refine wp_region_held_drew (S := fun w' => w'.cell? ⟨gk, k + 1, none⟩ = some (.string xk) ∧ w'.cell? ⟨gp, 0, none⟩ = some (.string pa)) (by kernel_rfl) ?_ (fun hHeld => ?_)
          · (try dsimp only); (refine ⟨?_, ?_⟩ <;> (repeat (first | with_reducible assumption | with_reducible refine keep_drew ?_ | with_reducible refine keep_below (by assumption) ?_)))
          refine wpAnyH_take (i := 0) (oi := { dst := some 31, op := Go.Op.move (Go.Operand.tmp 6), type := 28, pos := "l53_board.go:47", after := #[], guard := none }) (v := ?_) rfl (by kernel_rfl) (by kernel_rfl) (by kernel_rfl) (fun _ _ _ h => h) (Or.inl ⟨by rfl, ?_⟩) (by assumption) ?_
          rotate_left 1
          · (intro w hSw; (try dsimp only at hSw); go_simp; try with_reducible rfl)
          (try simp only [Act.put, List.setIfInBounds_toArray, List.set_cons_zero, List.set_cons_succ])
          refine wpAnyH_take (i := 1) (oi := { dst := some 32, op := Go.Op.move (Go.Operand.tmp 7), type := 3, pos := "l53_board.go:47", after := #[], guard := none }) (v := ?_) rfl (by kernel_rfl) (by kernel_rfl) (by kernel_rfl) (fun _ _ _ h => h) (Or.inl ⟨by rfl, ?_⟩) (by assumption) ?_
          rotate_left 1
          · (intro w hSw; (try dsimp only at hSw); go_simp; try with_reducible rfl)
          (try simp only [Act.put, List.setIfInBounds_toArray, List.set_cons_zero, List.set_cons_succ])
          refine wpAnyH_take (i := 2) (oi := { dst := some 33, op := Go.Op.indexAddr 28 (Go.Operand.tmp 31) (Go.Operand.tmp 32), type := 0, pos := "l53_board.go:47", after := #[{ on := 0, ground := Go.Ground.data }, { on := 1, ground := Go.Ground.data }], guard := none }) (v := ?_) rfl (by kernel_rfl) (by kernel_rfl) (by kernel_rfl) (fun _ _ _ h => h) (Or.inl ⟨by rfl, ?_⟩) (by assumption) ?_
          rotate_left 1
          · (intro w hSw; (try dsimp only at hSw); go_simp; try with_reducible rfl)
          (try simp only [Act.put, List.setIfInBounds_toArray, List.set_cons_zero, List.set_cons_succ])
          refine wpAnyH_take (i := 3) (oi := { dst := some 34, op := Go.Op.load 9 (Go.Operand.tmp 33), type := 9, pos := "l53_board.go:47", after := #[{ on := 2, ground := Go.Ground.data }], guard := none }) (v := ?_) rfl (by kernel_rfl) (by kernel_rfl) (by kernel_rfl) (fun _ _ _ h => h) (Or.inl ⟨by rfl, ?_⟩) (by assumption) ?_
          rotate_left 1
          · (intro w hSw; (try dsimp only at hSw); go_simp; try with_reducible rfl)
          (try simp only [Act.put, List.setIfInBounds_toArray, List.set_cons_zero, List.set_cons_succ])
          refine wpAnyH_take (i := 4) (oi := { dst := some 35, op := Go.Op.move (Go.Operand.tmp 4), type := 28, pos := "l53_board.go:47", after := #[], guard := none }) (v := ?_) rfl (by kernel_rfl) (by kernel_rfl) (by kernel_rfl) (fun _ _ _ h => h) (Or.inl ⟨by rfl, ?_⟩) (by assumption) ?_
          rotate_left 1
          · (intro w hSw; (try dsimp only at hSw); go_simp; try with_reducible rfl)
          (try simp only [Act.put, List.setIfInBounds_toArray, List.set_cons_zero, List.set_cons_succ])
          refine wpAnyH_take (i := 5) (oi := { dst := some 36, op := Go.Op.indexAddr 28 (Go.Operand.tmp 35) (Go.Operand.const (Go.Value.int Go.IntKind.i64 0)), type := 0, pos := "l53_board.go:47", after := #[{ on := 4, ground := Go.Ground.data }], guard := none }) (v := ?_) rfl (by kernel_rfl) (by kernel_rfl) (by kernel_rfl) (fun _ _ _ h => h) (Or.inl ⟨by rfl, ?_⟩) (by assumption) ?_
          rotate_left 1
          · (intro w hSw; (try dsimp only at hSw); go_simp; try with_reducible rfl)
          (try simp only [Act.put, List.setIfInBounds_toArray, List.set_cons_zero, List.set_cons_succ])
          refine wpAnyH_take (i := 6) (oi := { dst := some 37, op := Go.Op.load 9 (Go.Operand.tmp 36), type := 9, pos := "l53_board.go:47", after := #[{ on := 5, ground := Go.Ground.data }], guard := none }) (v := ?_) rfl (by kernel_rfl) (by kernel_rfl) (by kernel_rfl) (fun _ _ _ h => h) (Or.inl ⟨by rfl, ?_⟩) (by assumption) ?_
          rotate_left 1
          · (intro w hSw; (try dsimp only at hSw); go_simp; try with_reducible rfl)
          (try simp only [Act.put, List.setIfInBounds_toArray, List.set_cons_zero, List.set_cons_succ])
          refine wpAnyH_take (i := 7) (oi := { dst := some 38, op := Go.Op.binOp Go.BinOp.eql 9 (Go.Operand.tmp 34) (Go.Operand.tmp 37) 9, type := 4, pos := "l53_board.go:47", after := #[{ on := 3, ground := Go.Ground.data }, { on := 6, ground := Go.Ground.data }], guard := none }) (v := ?_) rfl (by kernel_rfl) (by kernel_rfl) (by kernel_rfl) (fun _ _ _ h => h) (Or.inl ⟨by rfl, ?_⟩) (by assumption) ?_
          rotate_left 1
          · (intro w hSw; (try dsimp only at hSw); go_simp; try with_reducible rfl)
          (try simp only [Act.put, List.setIfInBounds_toArray, List.set_cons_zero, List.set_cons_succ])
          refine wpAnyH_done (by kernel_rfl) ?_ _
          replace BW := qd BW
          replace BA := BA.drew
          replace BX := BX.drew
          replace p0 := keep_drew p0
          have q1' : Hid (∀ (k : Nat) (x : ByteArray), Hid (k < 10 ∧ bs (kindsL.getD k []) = x) → wr.drew.cell? ⟨gk, k, none⟩ = some (.string x)) := fun k x h => keep_drew (q1.out k x h)
          clear q1 ck hHeld
          generalize wr.drew = wd at *
          have BX8 := BX.set0 ((k : Int) + 1)
          have BA8 : Bx (wd.setCell ⟨bx, 0, none⟩ (.int .i64 ((k : Int) + 1))) b2 ⟨0, 0, 0, false⟩ := BA.far (Ne.symm hbx)
          have p0' : (wd.setCell ⟨bx, 0, none⟩ (.int .i64 ((k : Int) + 1))).cell? ⟨gp, 0, none⟩ = some (.string pa) := cell_afar hgp p0
          have q1 : Hid (∀ (j : Nat) (x : ByteArray), Hid (j < 10 ∧ bs (kindsL.getD j []) = x) → (wd.setCell ⟨bx, 0, none⟩ (.int .i64 ((k : Int) + 1))).cell? ⟨gk, j, none⟩ = some (.string x)) := fun j x h => cell_afar hgk (q1'.out j x h)
          have BW8 : Below w.heap.size w (wd.setCell ⟨bx, 0, none⟩ (.int .i64 ((k : Int) + 1))) := BW.setCell (p := ⟨bx, 0, none⟩) hbxw.out _
          have a0 := BX.c0
          have z0 := BX.z 0
          go_wp2
          go_roundw
          case rel => exact ⟨k + 1, by go_num, by omega, BA8, by rw [hst.out]; exact BX8, p0', q1, BW8⟩
          case measure => simp [intOf]; omega
        · have hqq : (xk.toList == pa.toList) = false := by rw [← hxk, beq_eq_false_iff_ne, ByteArray.toList_eq, ByteArray.toList_eq]; exact hq
          have hst : Hid (kst pa.data.toList (k + 1) = kst pa.data.toList k) := by unfold Hid; rw [kst, if_neg hq]
          clear hxk hq
          go_wp2_with fail
          refine wp_region_held_drew (S := fun w' => w'.cell? ⟨gk, k + 1, none⟩ = some (.string xk) ∧ w'.cell? ⟨gp, 0, none⟩ = some (.string pa)) (by kernel_rfl) ?_ (fun hHeld => ?_)
          · (try dsimp only); (refine ⟨?_, ?_⟩ <;> (repeat (first | with_reducible assumption | with_reducible refine keep_drew ?_ | with_reducible refine keep_below (by assumption) ?_)))
          refine wpAnyH_take (i := 0) (oi := { dst := some 31, op := Go.Op.move (Go.Operand.tmp 6), type := 28, pos := "l53_board.go:47", after := #[], guard := none }) (v := ?_) rfl (by kernel_rfl) (by kernel_rfl) (by kernel_rfl) (fun _ _ _ h => h) (Or.inl ⟨by rfl, ?_⟩) (by assumption) ?_
          rotate_left 1
          · (intro w hSw; (try dsimp only at hSw); go_simp; try with_reducible rfl)
          (try simp only [Act.put, List.setIfInBounds_toArray, List.set_cons_zero, List.set_cons_succ])
          refine wpAnyH_take (i := 1) (oi := { dst := some 32, op := Go.Op.move (Go.Operand.tmp 7), type := 3, pos := "l53_board.go:47", after := #[], guard := none }) (v := ?_) rfl (by kernel_rfl) (by kernel_rfl) (by kernel_rfl) (fun _ _ _ h => h) (Or.inl ⟨by rfl, ?_⟩) (by assumption) ?_
          rotate_left 1
          · (intro w hSw; (try dsimp only at hSw); go_simp; try with_reducible rfl)
          (try simp only [Act.put, List.setIfInBounds_toArray, List.set_cons_zero, List.set_cons_succ])
          refine wpAnyH_take (i := 2) (oi := { dst := some 33, op := Go.Op.indexAddr 28 (Go.Operand.tmp 31) (Go.Operand.tmp 32), type := 0, pos := "l53_board.go:47", after := #[{ on := 0, ground := Go.Ground.data }, { on := 1, ground := Go.Ground.data }], guard := none }) (v := ?_) rfl (by kernel_rfl) (by kernel_rfl) (by kernel_rfl) (fun _ _ _ h => h) (Or.inl ⟨by rfl, ?_⟩) (by assumption) ?_
          rotate_left 1
          · (intro w hSw; (try dsimp only at hSw); go_simp; try with_reducible rfl)
          (try simp only [Act.put, List.setIfInBounds_toArray, List.set_cons_zero, List.set_cons_succ])
          refine wpAnyH_take (i := 3) (oi := { dst := some 34, op := Go.Op.load 9 (Go.Operand.tmp 33), type := 9, pos := "l53_board.go:47", after := #[{ on := 2, ground := Go.Ground.data }], guard := none }) (v := ?_) rfl (by kernel_rfl) (by kernel_rfl) (by kernel_rfl) (fun _ _ _ h => h) (Or.inl ⟨by rfl, ?_⟩) (by assumption) ?_
          rotate_left 1
          · (intro w hSw; (try dsimp only at hSw); go_simp; try with_reducible rfl)
          (try simp only [Act.put, List.setIfInBounds_toArray, List.set_cons_zero, List.set_cons_succ])
          refine wpAnyH_take (i := 4) (oi := { dst := some 35, op := Go.Op.move (Go.Operand.tmp 4), type := 28, pos := "l53_board.go:47", after := #[], guard := none }) (v := ?_) rfl (by kernel_rfl) (by kernel_rfl) (by kernel_rfl) (fun _ _ _ h => h) (Or.inl ⟨by rfl, ?_⟩) (by assumption) ?_
          rotate_left 1
          · (intro w hSw; (try dsimp only at hSw); go_simp; try with_reducible rfl)
          (try simp only [Act.put, List.setIfInBounds_toArray, List.set_cons_zero, List.set_cons_succ])
          refine wpAnyH_take (i := 5) (oi := { dst := some 36, op := Go.Op.indexAddr 28 (Go.Operand.tmp 35) (Go.Operand.const (Go.Value.int Go.IntKind.i64 0)), type := 0, pos := "l53_board.go:47", after := #[{ on := 4, ground := Go.Ground.data }], guard := none }) (v := ?_) rfl (by kernel_rfl) (by kernel_rfl) (by kernel_rfl) (fun _ _ _ h => h) (Or.inl ⟨by rfl, ?_⟩) (by assumption) ?_
          rotate_left 1
          · (intro w hSw; (try dsimp only at hSw); go_simp; try with_reducible rfl)
          (try simp only [Act.put, List.setIfInBounds_toArray, List.set_cons_zero, List.set_cons_succ])
          refine wpAnyH_take (i := 6) (oi := { dst := some 37, op := Go.Op.load 9 (Go.Operand.tmp 36), type := 9, pos := "l53_board.go:47", after := #[{ on := 5, ground := Go.Ground.data }], guard := none }) (v := ?_) rfl (by kernel_rfl) (by kernel_rfl) (by kernel_rfl) (fun _ _ _ h => h) (Or.inl ⟨by rfl, ?_⟩) (by assumption) ?_
          rotate_left 1
          · (intro w hSw; (try dsimp only at hSw); go_simp; try with_reducible rfl)
          (try simp only [Act.put, List.setIfInBounds_toArray, List.set_cons_zero, List.set_cons_succ])
          refine wpAnyH_take (i := 7) (oi := { dst := some 38, op := Go.Op.binOp Go.BinOp.eql 9 (Go.Operand.tmp 34) (Go.Operand.tmp 37) 9, type := 4, pos := "l53_board.go:47", after := #[{ on := 3, ground := Go.Ground.data }, { on := 6, ground := Go.Ground.data }], guard := none }) (v := ?_) rfl (by kernel_rfl) (by kernel_rfl) (by kernel_rfl) (fun _ _ _ h => h) (Or.inl ⟨by rfl, ?_⟩) (by assumption) ?_
          rotate_left 1
          · (intro w hSw; (try dsimp only at hSw); go_simp; try with_reducible rfl)
          (try simp only [Act.put, List.setIfInBounds_toArray, List.set_cons_zero, List.set_cons_succ])
          refine wpAnyH_done (by kernel_rfl) ?_ _
          replace BW := qd BW
          replace BA := BA.drew
          replace BX := BX.drew
          replace p0 := keep_drew p0
          have q1' : Hid (∀ (k : Nat) (x : ByteArray), Hid (k < 10 ∧ bs (kindsL.getD k []) = x) → wr.drew.cell? ⟨gk, k, none⟩ = some (.string x)) := fun k x h => keep_drew (q1.out k x h)
          clear q1 ck hHeld
          go_wp2
          go_roundw
          case rel => exact ⟨k + 1, by go_num, by omega, BA, by rw [hst.out]; exact BX, p0, q1', BW⟩
          case measure => simp [intOf]; omega
      · obtain rfl : k = 9 := by omega
        clear q1 hlt hk
        obtain ⟨f, hf⟩ : ∃ f : Fc, f = ⟨kst pa.data.toList 9, nb, 0, false⟩ := ⟨_, rfl⟩
        have hm1 : Hid (0 < f.n → 0 ≤ f.i → mvP (cutL 32 s.data.toList) = (f, decide (0 ≤ f.s))) := by
          intro h1 h2
          rw [hP.out]
          simp only [mvP]
          rw [hnb.out, hf]
          rw [hf] at h1 h2
          simp at h1 h2 ⊢
          exact ⟨h1, h2⟩
        have hm0 : Hid (¬ (0 < f.n ∧ 0 ≤ f.i) → mvP (cutL 32 s.data.toList) = (f, false)) := by
          intro h1
          rw [hP.out]
          simp only [mvP]
          rw [hnb.out, hf]
          rw [hf] at h1
          simp at h1 ⊢
          exact h1
        rw [← hf] at BX
        clear hf hnb hP
        have e0 := BX.c0
        have e1 := BX.c1
        have e2 := BX.c2
        have e3 := BX.c3
        go_wp2_with fail
        generalize wr = wF at *
        by_cases hkn : 0 < f.n
        · by_cases hnb : 0 ≤ f.i
          · have hv : Hid (mvP (cutL 32 s.data.toList) = (f, decide (0 ≤ f.s))) := hm1.out hkn hnb
            clear hm1 hm0
            refine wp_region_held_drew (S := fun w' => w'.cell? ⟨bx, 0, none⟩ = some (.int .i64 f.n) ∧ w'.cell? ⟨bx, 1, none⟩ = some (.int .i64 f.i) ∧ w'.cell? ⟨bx, 2, none⟩ = some (.int .i64 f.s) ∧ w'.cell? ⟨bx, 3, none⟩ = some (.bool f.g)) (by kernel_rfl) ?_ (fun hHeld => ?_)
            · (try dsimp only); (refine ⟨?_, ?_, ?_, ?_⟩ <;> (repeat (first | with_reducible assumption | with_reducible refine keep_drew ?_ | with_reducible refine keep_below (by assumption) ?_)))
            refine wpAnyH_take (i := 0) (oi := { dst := some 68, op := Go.Op.load 31 (Go.Operand.tmp 5), type := 31, pos := "l53_board.go:58", after := #[], guard := none }) (v := ?_) rfl (by kernel_rfl) (by kernel_rfl) (by kernel_rfl) (fun _ _ _ h => h) (Or.inl ⟨by rfl, ?_⟩) (by assumption) ?_
            rotate_left 1
            · (intro w hSw; (try dsimp only at hSw); go_simp; try with_reducible rfl)
            (try simp only [Act.put, List.setIfInBounds_toArray, List.set_cons_zero, List.set_cons_succ])
            refine wpAnyH_take (i := 1) (oi := { dst := some 69, op := Go.Op.fieldAddr 31 (Go.Operand.tmp 5) 0, type := 0, pos := "l53_board.go:58", after := #[], guard := none }) (v := ?_) rfl (by kernel_rfl) (by kernel_rfl) (by kernel_rfl) (fun _ _ _ h => h) (Or.inl ⟨by rfl, ?_⟩) (by assumption) ?_
            rotate_left 1
            · (intro w hSw; (try dsimp only at hSw); go_simp; try with_reducible rfl)
            (try simp only [Act.put, List.setIfInBounds_toArray, List.set_cons_zero, List.set_cons_succ])
            refine wpAnyH_take (i := 2) (oi := { dst := some 70, op := Go.Op.load 3 (Go.Operand.tmp 69), type := 3, pos := "l53_board.go:58", after := #[{ on := 1, ground := Go.Ground.data }], guard := none }) (v := ?_) rfl (by kernel_rfl) (by kernel_rfl) (by kernel_rfl) (fun _ _ _ h => h) (Or.inl ⟨by rfl, ?_⟩) (by assumption) ?_
            rotate_left 1
            · (intro w hSw; (try dsimp only at hSw); go_simp; try with_reducible rfl)
            (try simp only [Act.put, List.setIfInBounds_toArray, List.set_cons_zero, List.set_cons_succ])
            refine wpAnyH_take (i := 3) (oi := { dst := some 71, op := Go.Op.binOp Go.BinOp.gtr 3 (Go.Operand.tmp 70) (Go.Operand.const (Go.Value.int Go.IntKind.i64 0)) 3, type := 4, pos := "l53_board.go:58", after := #[{ on := 2, ground := Go.Ground.data }], guard := none }) (v := ?_) rfl (by kernel_rfl) (by kernel_rfl) (by kernel_rfl) (fun _ _ _ h => h) (Or.inl ⟨by rfl, ?_⟩) (by assumption) ?_
            rotate_left 1
            · (intro w hSw; (try dsimp only at hSw); go_simp; try with_reducible rfl)
            (try simp only [Act.put, List.setIfInBounds_toArray, List.set_cons_zero, List.set_cons_succ])
            refine wpAnyH_take (i := 4) (oi := { dst := some 72, op := Go.Op.move (Go.Operand.tmp 71), type := 4, pos := "l53_board.go:58", after := #[{ on := 3, ground := Go.Ground.data }], guard := none }) (v := ?_) rfl (by kernel_rfl) (by kernel_rfl) (by kernel_rfl) (fun _ _ _ h => h) (Or.inl ⟨by rfl, ?_⟩) (by assumption) ?_
            rotate_left 1
            · (intro w hSw; (try dsimp only at hSw); go_simp; try with_reducible rfl)
            (try simp only [Act.put, List.setIfInBounds_toArray, List.set_cons_zero, List.set_cons_succ])
            refine wpAnyH_take (i := 5) (oi := { dst := some 73, op := Go.Op.fieldAddr 31 (Go.Operand.tmp 5) 1, type := 0, pos := "l53_board.go:58", after := #[{ on := 4, ground := Go.Ground.guard }], guard := some (4, true) }) (v := ?_) rfl (by kernel_rfl) (by kernel_rfl) (by kernel_rfl) (fun _ _ _ h => h) (Or.inl ⟨by rfl, ?_⟩) (by assumption) ?_
            rotate_left 1
            · (intro w hSw; (try dsimp only at hSw); go_simp; try with_reducible rfl)
            (try simp only [Act.put, List.setIfInBounds_toArray, List.set_cons_zero, List.set_cons_succ])
            refine wpAnyH_take (i := 6) (oi := { dst := some 74, op := Go.Op.load 3 (Go.Operand.tmp 73), type := 3, pos := "l53_board.go:58", after := #[{ on := 5, ground := Go.Ground.data }, { on := 4, ground := Go.Ground.guard }], guard := some (4, true) }) (v := ?_) rfl (by kernel_rfl) (by kernel_rfl) (by kernel_rfl) (fun _ _ _ h => h) (Or.inl ⟨by rfl, ?_⟩) (by assumption) ?_
            rotate_left 1
            · (intro w hSw; (try dsimp only at hSw); go_simp; try with_reducible rfl)
            (try simp only [Act.put, List.setIfInBounds_toArray, List.set_cons_zero, List.set_cons_succ])
            refine wpAnyH_take (i := 7) (oi := { dst := some 75, op := Go.Op.binOp Go.BinOp.geq 3 (Go.Operand.tmp 74) (Go.Operand.const (Go.Value.int Go.IntKind.i64 0)) 3, type := 4, pos := "l53_board.go:58", after := #[{ on := 6, ground := Go.Ground.data }, { on := 4, ground := Go.Ground.guard }], guard := some (4, true) }) (v := ?_) rfl (by kernel_rfl) (by kernel_rfl) (by kernel_rfl) (fun _ _ _ h => h) (Or.inl ⟨by rfl, ?_⟩) (by assumption) ?_
            rotate_left 1
            · (intro w hSw; (try dsimp only at hSw); go_simp; try with_reducible rfl)
            (try simp only [Act.put, List.setIfInBounds_toArray, List.set_cons_zero, List.set_cons_succ])
            refine wpAnyH_take (i := 8) (oi := { dst := some 76, op := Go.Op.pick (Go.Operand.tmp 72) (Go.Operand.tmp 75) (Go.Operand.const (Go.Value.bool false)), type := 4, pos := "l53_board.go:58", after := #[{ on := 4, ground := Go.Ground.data }, { on := 7, ground := Go.Ground.data }], guard := none }) (v := ?_) rfl (by kernel_rfl) (by kernel_rfl) (by kernel_rfl) (fun _ _ _ h => h) (Or.inl ⟨by rfl, ?_⟩) (by assumption) ?_
            rotate_left 1
            · (intro w hSw; (try dsimp only at hSw); go_simp; try with_reducible rfl)
            (try simp only [Act.put, List.setIfInBounds_toArray, List.set_cons_zero, List.set_cons_succ])
            refine wpAnyH_take (i := 9) (oi := { dst := some 77, op := Go.Op.move (Go.Operand.tmp 76), type := 4, pos := "l53_board.go:58", after := #[{ on := 8, ground := Go.Ground.data }, { on := 4, ground := Go.Ground.chain }], guard := none }) (v := ?_) rfl (by kernel_rfl) (by kernel_rfl) (by kernel_rfl) (fun _ _ _ h => h) (Or.inl ⟨by rfl, ?_⟩) (by assumption) ?_
            rotate_left 1
            · (intro w hSw; (try dsimp only at hSw); go_simp; try with_reducible rfl)
            (try simp only [Act.put, List.setIfInBounds_toArray, List.set_cons_zero, List.set_cons_succ])
            refine wpAnyH_take (i := 10) (oi := { dst := some 78, op := Go.Op.fieldAddr 31 (Go.Operand.tmp 5) 2, type := 0, pos := "l53_board.go:58", after := #[{ on := 9, ground := Go.Ground.guard }, { on := 14, ground := Go.Ground.gcOnly Go.Departure.lateStores }], guard := some (9, true) }) (v := ?_) rfl (by kernel_rfl) (by kernel_rfl) (by kernel_rfl) (fun _ _ _ h => h) (Or.inl ⟨by rfl, ?_⟩) (by assumption) ?_
            rotate_left 1
            · (intro w hSw; (try dsimp only at hSw); go_simp; try with_reducible rfl)
            (try simp only [Act.put, List.setIfInBounds_toArray, List.set_cons_zero, List.set_cons_succ])
            refine wpAnyH_take (i := 11) (oi := { dst := some 79, op := Go.Op.load 3 (Go.Operand.tmp 78), type := 3, pos := "l53_board.go:58", after := #[{ on := 10, ground := Go.Ground.data }, { on := 9, ground := Go.Ground.guard }, { on := 14, ground := Go.Ground.gcOnly Go.Departure.lateStores }], guard := some (9, true) }) (v := ?_) rfl (by kernel_rfl) (by kernel_rfl) (by kernel_rfl) (fun _ _ _ h => h) (Or.inl ⟨by rfl, ?_⟩) (by assumption) ?_
            rotate_left 1
            · (intro w hSw; (try dsimp only at hSw); go_simp; try with_reducible rfl)
            (try simp only [Act.put, List.setIfInBounds_toArray, List.set_cons_zero, List.set_cons_succ])
            refine wpAnyH_take (i := 12) (oi := { dst := some 80, op := Go.Op.binOp Go.BinOp.geq 3 (Go.Operand.tmp 79) (Go.Operand.const (Go.Value.int Go.IntKind.i64 0)) 3, type := 4, pos := "l53_board.go:58", after := #[{ on := 11, ground := Go.Ground.data }, { on := 9, ground := Go.Ground.guard }, { on := 14, ground := Go.Ground.gcOnly Go.Departure.lateStores }], guard := some (9, true) }) (v := ?_) rfl (by kernel_rfl) (by kernel_rfl) (by kernel_rfl) (fun _ _ _ h => h) (Or.inl ⟨by rfl, ?_⟩) (by assumption) ?_
            rotate_left 1
            · (intro w hSw; (try dsimp only at hSw); go_simp; try with_reducible rfl)
            (try simp only [Act.put, List.setIfInBounds_toArray, List.set_cons_zero, List.set_cons_succ])
            refine wpAnyH_take (i := 13) (oi := { dst := some 81, op := Go.Op.pick (Go.Operand.tmp 77) (Go.Operand.tmp 80) (Go.Operand.const (Go.Value.bool false)), type := 4, pos := "l53_board.go:58", after := #[{ on := 9, ground := Go.Ground.data }, { on := 12, ground := Go.Ground.data }, { on := 14, ground := Go.Ground.gcOnly Go.Departure.lateStores }], guard := none }) (v := ?_) rfl (by kernel_rfl) (by kernel_rfl) (by kernel_rfl) (fun _ _ _ h => h) (Or.inl ⟨by rfl, ?_⟩) (by assumption) ?_
            rotate_left 1
            · (intro w hSw; (try dsimp only at hSw); go_simp; try with_reducible rfl)
            (try simp only [Act.put, List.setIfInBounds_toArray, List.set_cons_zero, List.set_cons_succ])
            replace BW := qd BW
            replace BA := BA.drew
            replace BX := BX.drew
            clear hHeld e0 e1 e2 e3
            generalize wF.drew = wd at *
            have BA8 := (((BA.set0 f.n).set1 f.i).set2 f.s).set3 f.g
            have BE : Below w.heap.size w ((((wd.setCell ⟨b2, 0, none⟩ (.int .i64 f.n)).setCell ⟨b2, 1, none⟩ (.int .i64 f.i)).setCell ⟨b2, 2, none⟩ (.int .i64 f.s)).setCell ⟨b2, 3, none⟩ (.bool f.g)) := (((BW.setCell hb2.out _).setCell hb2.out _).setCell hb2.out _).setCell hb2.out _
            have BX8 : Bx ((((wd.setCell ⟨b2, 0, none⟩ (.int .i64 f.n)).setCell ⟨b2, 1, none⟩ (.int .i64 f.i)).setCell ⟨b2, 2, none⟩ (.int .i64 f.s)).setCell ⟨b2, 3, none⟩ (.bool f.g)) bx f := (((BX.far hbx).far hbx).far hbx).far hbx
            have a0 := BA.c0
            have a1 := BA.c1
            have a2 := BA.c2
            have a3 := BA.c3
            have z0 := BA.z 0
            have z1 := BA.z 1
            have z2 := BA.z 2
            have z3 := BA.z 3
            refine wpAnyH_ready (rs := [14]) (by kernel_rfl) (by simp) ?_
            refine AllReadyH.cons (o := { dst := none, op := Go.Op.store 31 (Go.Operand.tmp 2) (Go.Operand.tmp 68), type := 0, pos := "l53_board.go:58", after := #[{ on := 0, ground := Go.Ground.data }, { on := 9, ground := Go.Ground.chain }, { on := 0, ground := Go.Ground.phase }, { on := 1, ground := Go.Ground.textOnly Go.Departure.lateStores }, { on := 2, ground := Go.Ground.textOnly Go.Departure.lateStores }, { on := 3, ground := Go.Ground.textOnly Go.Departure.lateStores }, { on := 4, ground := Go.Ground.textOnly Go.Departure.lateStores }, { on := 5, ground := Go.Ground.textOnly Go.Departure.lateStores }, { on := 6, ground := Go.Ground.textOnly Go.Departure.lateStores }, { on := 7, ground := Go.Ground.textOnly Go.Departure.lateStores }, { on := 8, ground := Go.Ground.textOnly Go.Departure.lateStores }, { on := 9, ground := Go.Ground.textOnly Go.Departure.lateStores }, { on := 10, ground := Go.Ground.textOnly Go.Departure.lateStores }, { on := 11, ground := Go.Ground.textOnly Go.Departure.lateStores }, { on := 12, ground := Go.Ground.textOnly Go.Departure.lateStores }, { on := 13, ground := Go.Ground.textOnly Go.Departure.lateStores }], guard := none }) rfl (fun K hK => ?_) (AllReadyH.nil)
            go_simp
            refine hK.out _ _ ?_ (fun hHeld => ?_)
            · exact ⟨BX8.c0, BX8.c1, BX8.c2, BX8.c3⟩
            clear hK K
            (try simp only [Act.put, List.setIfInBounds_toArray, List.set_cons_zero, List.set_cons_succ])
            refine wpAnyH_take (i := 15) (oi := { dst := some 3, op := Go.Op.assign (Go.Operand.tmp 81), type := 4, pos := "l53_board.go:58", after := #[{ on := 13, ground := Go.Ground.data }, { on := 14, ground := Go.Ground.chain }, { on := 0, ground := Go.Ground.phase }, { on := 1, ground := Go.Ground.phase }, { on := 2, ground := Go.Ground.phase }, { on := 3, ground := Go.Ground.phase }, { on := 4, ground := Go.Ground.phase }, { on := 5, ground := Go.Ground.phase }, { on := 6, ground := Go.Ground.phase }, { on := 7, ground := Go.Ground.phase }, { on := 8, ground := Go.Ground.phase }, { on := 9, ground := Go.Ground.phase }, { on := 10, ground := Go.Ground.phase }, { on := 11, ground := Go.Ground.phase }, { on := 12, ground := Go.Ground.phase }, { on := 13, ground := Go.Ground.phase }, { on := 14, ground := Go.Ground.phase }], guard := none }) (v := ?_) rfl (by kernel_rfl) (by kernel_rfl) (by kernel_rfl) (fun _ _ _ h => h) (Or.inl ⟨by rfl, ?_⟩) (by assumption) ?_
            rotate_left 1
            · (intro w hSw; (try dsimp only at hSw); go_simp; try with_reducible rfl)
            (try simp only [Act.put, List.setIfInBounds_toArray, List.set_cons_zero, List.set_cons_succ])
            refine wpAnyH_done (by kernel_rfl) ?_ _
            clear a0 a1 a2 a3 z0 z1 z2 z3 BA BW BX BX8 hHeld
            generalize ((((wd.setCell ⟨b2, 0, none⟩ (.int .i64 f.n)).setCell ⟨b2, 1, none⟩ (.int .i64 f.i)).setCell ⟨b2, 2, none⟩ (.int .i64 f.s)).setCell ⟨b2, 3, none⟩ (.bool f.g)) = w9 at *
            have a0 := BA8.c0
            have a1 := BA8.c1
            have a2 := BA8.c2
            have a3 := BA8.c3
            go_wp2
            exact bodyPost_ret (v := .tuple #[.agg #[.int .i64 f.n, .int .i64 f.i, .int .i64 f.s, .bool f.g], .bool (decide (0 ≤ f.s))]) (by simp [results, Tryz.results10, go_sem, a0, a1, a2, a3]) rfl (Rev.of hv BE)
          · have hv : Hid (mvP (cutL 32 s.data.toList) = (f, false)) := hm0.out (fun h => hnb h.2)
            clear hm1 hm0
            refine wp_region_held_drew (S := fun w' => w'.cell? ⟨bx, 0, none⟩ = some (.int .i64 f.n) ∧ w'.cell? ⟨bx, 1, none⟩ = some (.int .i64 f.i) ∧ w'.cell? ⟨bx, 2, none⟩ = some (.int .i64 f.s) ∧ w'.cell? ⟨bx, 3, none⟩ = some (.bool f.g)) (by kernel_rfl) ?_ (fun hHeld => ?_)
            · (try dsimp only); (refine ⟨?_, ?_, ?_, ?_⟩ <;> (repeat (first | with_reducible assumption | with_reducible refine keep_drew ?_ | with_reducible refine keep_below (by assumption) ?_)))
            refine wpAnyH_take (i := 0) (oi := { dst := some 68, op := Go.Op.load 31 (Go.Operand.tmp 5), type := 31, pos := "l53_board.go:58", after := #[], guard := none }) (v := ?_) rfl (by kernel_rfl) (by kernel_rfl) (by kernel_rfl) (fun _ _ _ h => h) (Or.inl ⟨by rfl, ?_⟩) (by assumption) ?_
            rotate_left 1
            · (intro w hSw; (try dsimp only at hSw); go_simp; try with_reducible rfl)
            (try simp only [Act.put, List.setIfInBounds_toArray, List.set_cons_zero, List.set_cons_succ])
            refine wpAnyH_take (i := 1) (oi := { dst := some 69, op := Go.Op.fieldAddr 31 (Go.Operand.tmp 5) 0, type := 0, pos := "l53_board.go:58", after := #[], guard := none }) (v := ?_) rfl (by kernel_rfl) (by kernel_rfl) (by kernel_rfl) (fun _ _ _ h => h) (Or.inl ⟨by rfl, ?_⟩) (by assumption) ?_
            rotate_left 1
            · (intro w hSw; (try dsimp only at hSw); go_simp; try with_reducible rfl)
            (try simp only [Act.put, List.setIfInBounds_toArray, List.set_cons_zero, List.set_cons_succ])
            refine wpAnyH_take (i := 2) (oi := { dst := some 70, op := Go.Op.load 3 (Go.Operand.tmp 69), type := 3, pos := "l53_board.go:58", after := #[{ on := 1, ground := Go.Ground.data }], guard := none }) (v := ?_) rfl (by kernel_rfl) (by kernel_rfl) (by kernel_rfl) (fun _ _ _ h => h) (Or.inl ⟨by rfl, ?_⟩) (by assumption) ?_
            rotate_left 1
            · (intro w hSw; (try dsimp only at hSw); go_simp; try with_reducible rfl)
            (try simp only [Act.put, List.setIfInBounds_toArray, List.set_cons_zero, List.set_cons_succ])
            refine wpAnyH_take (i := 3) (oi := { dst := some 71, op := Go.Op.binOp Go.BinOp.gtr 3 (Go.Operand.tmp 70) (Go.Operand.const (Go.Value.int Go.IntKind.i64 0)) 3, type := 4, pos := "l53_board.go:58", after := #[{ on := 2, ground := Go.Ground.data }], guard := none }) (v := ?_) rfl (by kernel_rfl) (by kernel_rfl) (by kernel_rfl) (fun _ _ _ h => h) (Or.inl ⟨by rfl, ?_⟩) (by assumption) ?_
            rotate_left 1
            · (intro w hSw; (try dsimp only at hSw); go_simp; try with_reducible rfl)
            (try simp only [Act.put, List.setIfInBounds_toArray, List.set_cons_zero, List.set_cons_succ])
            refine wpAnyH_take (i := 4) (oi := { dst := some 72, op := Go.Op.move (Go.Operand.tmp 71), type := 4, pos := "l53_board.go:58", after := #[{ on := 3, ground := Go.Ground.data }], guard := none }) (v := ?_) rfl (by kernel_rfl) (by kernel_rfl) (by kernel_rfl) (fun _ _ _ h => h) (Or.inl ⟨by rfl, ?_⟩) (by assumption) ?_
            rotate_left 1
            · (intro w hSw; (try dsimp only at hSw); go_simp; try with_reducible rfl)
            (try simp only [Act.put, List.setIfInBounds_toArray, List.set_cons_zero, List.set_cons_succ])
            refine wpAnyH_take (i := 5) (oi := { dst := some 73, op := Go.Op.fieldAddr 31 (Go.Operand.tmp 5) 1, type := 0, pos := "l53_board.go:58", after := #[{ on := 4, ground := Go.Ground.guard }], guard := some (4, true) }) (v := ?_) rfl (by kernel_rfl) (by kernel_rfl) (by kernel_rfl) (fun _ _ _ h => h) (Or.inl ⟨by rfl, ?_⟩) (by assumption) ?_
            rotate_left 1
            · (intro w hSw; (try dsimp only at hSw); go_simp; try with_reducible rfl)
            (try simp only [Act.put, List.setIfInBounds_toArray, List.set_cons_zero, List.set_cons_succ])
            refine wpAnyH_take (i := 6) (oi := { dst := some 74, op := Go.Op.load 3 (Go.Operand.tmp 73), type := 3, pos := "l53_board.go:58", after := #[{ on := 5, ground := Go.Ground.data }, { on := 4, ground := Go.Ground.guard }], guard := some (4, true) }) (v := ?_) rfl (by kernel_rfl) (by kernel_rfl) (by kernel_rfl) (fun _ _ _ h => h) (Or.inl ⟨by rfl, ?_⟩) (by assumption) ?_
            rotate_left 1
            · (intro w hSw; (try dsimp only at hSw); go_simp; try with_reducible rfl)
            (try simp only [Act.put, List.setIfInBounds_toArray, List.set_cons_zero, List.set_cons_succ])
            refine wpAnyH_take (i := 7) (oi := { dst := some 75, op := Go.Op.binOp Go.BinOp.geq 3 (Go.Operand.tmp 74) (Go.Operand.const (Go.Value.int Go.IntKind.i64 0)) 3, type := 4, pos := "l53_board.go:58", after := #[{ on := 6, ground := Go.Ground.data }, { on := 4, ground := Go.Ground.guard }], guard := some (4, true) }) (v := ?_) rfl (by kernel_rfl) (by kernel_rfl) (by kernel_rfl) (fun _ _ _ h => h) (Or.inl ⟨by rfl, ?_⟩) (by assumption) ?_
            rotate_left 1
            · (intro w hSw; (try dsimp only at hSw); go_simp; try with_reducible rfl)
            (try simp only [Act.put, List.setIfInBounds_toArray, List.set_cons_zero, List.set_cons_succ])
            refine wpAnyH_take (i := 8) (oi := { dst := some 76, op := Go.Op.pick (Go.Operand.tmp 72) (Go.Operand.tmp 75) (Go.Operand.const (Go.Value.bool false)), type := 4, pos := "l53_board.go:58", after := #[{ on := 4, ground := Go.Ground.data }, { on := 7, ground := Go.Ground.data }], guard := none }) (v := ?_) rfl (by kernel_rfl) (by kernel_rfl) (by kernel_rfl) (fun _ _ _ h => h) (Or.inl ⟨by rfl, ?_⟩) (by assumption) ?_
            rotate_left 1
            · (intro w hSw; (try dsimp only at hSw); go_simp; try with_reducible rfl)
            (try simp only [Act.put, List.setIfInBounds_toArray, List.set_cons_zero, List.set_cons_succ])
            refine wpAnyH_take (i := 9) (oi := { dst := some 77, op := Go.Op.move (Go.Operand.tmp 76), type := 4, pos := "l53_board.go:58", after := #[{ on := 8, ground := Go.Ground.data }, { on := 4, ground := Go.Ground.chain }], guard := none }) (v := ?_) rfl (by kernel_rfl) (by kernel_rfl) (by kernel_rfl) (fun _ _ _ h => h) (Or.inl ⟨by rfl, ?_⟩) (by assumption) ?_
            rotate_left 1
            · (intro w hSw; (try dsimp only at hSw); go_simp; try with_reducible rfl)
            (try simp only [Act.put, List.setIfInBounds_toArray, List.set_cons_zero, List.set_cons_succ])
            refine wpAnyH_take (i := 10) (oi := { dst := some 78, op := Go.Op.fieldAddr 31 (Go.Operand.tmp 5) 2, type := 0, pos := "l53_board.go:58", after := #[{ on := 9, ground := Go.Ground.guard }, { on := 14, ground := Go.Ground.gcOnly Go.Departure.lateStores }], guard := some (9, true) }) (v := undef) rfl (by kernel_rfl) (by kernel_rfl) (by kernel_rfl) (fun _ _ _ h => h) (Or.inr ⟨by rfl, rfl⟩) (by assumption) ?_
            (try simp only [Act.put, List.setIfInBounds_toArray, List.set_cons_zero, List.set_cons_succ])
            refine wpAnyH_take (i := 11) (oi := { dst := some 79, op := Go.Op.load 3 (Go.Operand.tmp 78), type := 3, pos := "l53_board.go:58", after := #[{ on := 10, ground := Go.Ground.data }, { on := 9, ground := Go.Ground.guard }, { on := 14, ground := Go.Ground.gcOnly Go.Departure.lateStores }], guard := some (9, true) }) (v := undef) rfl (by kernel_rfl) (by kernel_rfl) (by kernel_rfl) (fun _ _ _ h => h) (Or.inr ⟨by rfl, rfl⟩) (by assumption) ?_
            (try simp only [Act.put, List.setIfInBounds_toArray, List.set_cons_zero, List.set_cons_succ])
            refine wpAnyH_take (i := 12) (oi := { dst := some 80, op := Go.Op.binOp Go.BinOp.geq 3 (Go.Operand.tmp 79) (Go.Operand.const (Go.Value.int Go.IntKind.i64 0)) 3, type := 4, pos := "l53_board.go:58", after := #[{ on := 11, ground := Go.Ground.data }, { on := 9, ground := Go.Ground.guard }, { on := 14, ground := Go.Ground.gcOnly Go.Departure.lateStores }], guard := some (9, true) }) (v := undef) rfl (by kernel_rfl) (by kernel_rfl) (by kernel_rfl) (fun _ _ _ h => h) (Or.inr ⟨by rfl, rfl⟩) (by assumption) ?_
            (try simp only [Act.put, List.setIfInBounds_toArray, List.set_cons_zero, List.set_cons_succ])
            refine wpAnyH_take (i := 13) (oi := { dst := some 81, op := Go.Op.pick (Go.Operand.tmp 77) (Go.Operand.tmp 80) (Go.Operand.const (Go.Value.bool false)), type := 4, pos := "l53_board.go:58", after := #[{ on := 9, ground := Go.Ground.data }, { on := 12, ground := Go.Ground.data }, { on := 14, ground := Go.Ground.gcOnly Go.Departure.lateStores }], guard := none }) (v := ?_) rfl (by kernel_rfl) (by kernel_rfl) (by kernel_rfl) (fun _ _ _ h => h) (Or.inl ⟨by rfl, ?_⟩) (by assumption) ?_
            rotate_left 1
            · (intro w hSw; (try dsimp only at hSw); go_simp; try with_reducible rfl)
            (try simp only [Act.put, List.setIfInBounds_toArray, List.set_cons_zero, List.set_cons_succ])
            replace BW := qd BW
            replace BA := BA.drew
            replace BX := BX.drew
            clear hHeld e0 e1 e2 e3
            generalize wF.drew = wd at *
            have BA8 := (((BA.set0 f.n).set1 f.i).set2 f.s).set3 f.g
            have BE : Below w.heap.size w ((((wd.setCell ⟨b2, 0, none⟩ (.int .i64 f.n)).setCell ⟨b2, 1, none⟩ (.int .i64 f.i)).setCell ⟨b2, 2, none⟩ (.int .i64 f.s)).setCell ⟨b2, 3, none⟩ (.bool f.g)) := (((BW.setCell hb2.out _).setCell hb2.out _).setCell hb2.out _).setCell hb2.out _
            have BX8 : Bx ((((wd.setCell ⟨b2, 0, none⟩ (.int .i64 f.n)).setCell ⟨b2, 1, none⟩ (.int .i64 f.i)).setCell ⟨b2, 2, none⟩ (.int .i64 f.s)).setCell ⟨b2, 3, none⟩ (.bool f.g)) bx f := (((BX.far hbx).far hbx).far hbx).far hbx
            have a0 := BA.c0
            have a1 := BA.c1
            have a2 := BA.c2
            have a3 := BA.c3
            have z0 := BA.z 0
            have z1 := BA.z 1
            have z2 := BA.z 2
            have z3 := BA.z 3
            refine wpAnyH_ready (rs := [14]) (by kernel_rfl) (by simp) ?_
            refine AllReadyH.cons (o := { dst := none, op := Go.Op.store 31 (Go.Operand.tmp 2) (Go.Operand.tmp 68), type := 0, pos := "l53_board.go:58", after := #[{ on := 0, ground := Go.Ground.data }, { on := 9, ground := Go.Ground.chain }, { on := 0, ground := Go.Ground.phase }, { on := 1, ground := Go.Ground.textOnly Go.Departure.lateStores }, { on := 2, ground := Go.Ground.textOnly Go.Departure.lateStores }, { on := 3, ground := Go.Ground.textOnly Go.Departure.lateStores }, { on := 4, ground := Go.Ground.textOnly Go.Departure.lateStores }, { on := 5, ground := Go.Ground.textOnly Go.Departure.lateStores }, { on := 6, ground := Go.Ground.textOnly Go.Departure.lateStores }, { on := 7, ground := Go.Ground.textOnly Go.Departure.lateStores }, { on := 8, ground := Go.Ground.textOnly Go.Departure.lateStores }, { on := 9, ground := Go.Ground.textOnly Go.Departure.lateStores }, { on := 10, ground := Go.Ground.textOnly Go.Departure.lateStores }, { on := 11, ground := Go.Ground.textOnly Go.Departure.lateStores }, { on := 12, ground := Go.Ground.textOnly Go.Departure.lateStores }, { on := 13, ground := Go.Ground.textOnly Go.Departure.lateStores }], guard := none }) rfl (fun K hK => ?_) (AllReadyH.nil)
            go_simp
            refine hK.out _ _ ?_ (fun hHeld => ?_)
            · exact ⟨BX8.c0, BX8.c1, BX8.c2, BX8.c3⟩
            clear hK K
            (try simp only [Act.put, List.setIfInBounds_toArray, List.set_cons_zero, List.set_cons_succ])
            refine wpAnyH_take (i := 15) (oi := { dst := some 3, op := Go.Op.assign (Go.Operand.tmp 81), type := 4, pos := "l53_board.go:58", after := #[{ on := 13, ground := Go.Ground.data }, { on := 14, ground := Go.Ground.chain }, { on := 0, ground := Go.Ground.phase }, { on := 1, ground := Go.Ground.phase }, { on := 2, ground := Go.Ground.phase }, { on := 3, ground := Go.Ground.phase }, { on := 4, ground := Go.Ground.phase }, { on := 5, ground := Go.Ground.phase }, { on := 6, ground := Go.Ground.phase }, { on := 7, ground := Go.Ground.phase }, { on := 8, ground := Go.Ground.phase }, { on := 9, ground := Go.Ground.phase }, { on := 10, ground := Go.Ground.phase }, { on := 11, ground := Go.Ground.phase }, { on := 12, ground := Go.Ground.phase }, { on := 13, ground := Go.Ground.phase }, { on := 14, ground := Go.Ground.phase }], guard := none }) (v := ?_) rfl (by kernel_rfl) (by kernel_rfl) (by kernel_rfl) (fun _ _ _ h => h) (Or.inl ⟨by rfl, ?_⟩) (by assumption) ?_
            rotate_left 1
            · (intro w hSw; (try dsimp only at hSw); go_simp; try with_reducible rfl)
            (try simp only [Act.put, List.setIfInBounds_toArray, List.set_cons_zero, List.set_cons_succ])
            refine wpAnyH_done (by kernel_rfl) ?_ _
            clear a0 a1 a2 a3 z0 z1 z2 z3 BA BW BX BX8 hHeld
            generalize ((((wd.setCell ⟨b2, 0, none⟩ (.int .i64 f.n)).setCell ⟨b2, 1, none⟩ (.int .i64 f.i)).setCell ⟨b2, 2, none⟩ (.int .i64 f.s)).setCell ⟨b2, 3, none⟩ (.bool f.g)) = w9 at *
            have a0 := BA8.c0
            have a1 := BA8.c1
            have a2 := BA8.c2
            have a3 := BA8.c3
            go_wp2
            exact bodyPost_ret (v := .tuple #[.agg #[.int .i64 f.n, .int .i64 f.i, .int .i64 f.s, .bool f.g], .bool false]) (by simp [results, Tryz.results10, go_sem, a0, a1, a2, a3]) rfl (Rev.of hv BE)
        · have hv : Hid (mvP (cutL 32 s.data.toList) = (f, false)) := hm0.out (fun h => hkn h.1)
          clear hm1 hm0
          refine wp_region_held_drew (S := fun w' => w'.cell? ⟨bx, 0, none⟩ = some (.int .i64 f.n) ∧ w'.cell? ⟨bx, 1, none⟩ = some (.int .i64 f.i) ∧ w'.cell? ⟨bx, 2, none⟩ = some (.int .i64 f.s) ∧ w'.cell? ⟨bx, 3, none⟩ = some (.bool f.g)) (by kernel_rfl) ?_ (fun hHeld => ?_)
          · (try dsimp only); (refine ⟨?_, ?_, ?_, ?_⟩ <;> (repeat (first | with_reducible assumption | with_reducible refine keep_drew ?_ | with_reducible refine keep_below (by assumption) ?_)))
          refine wpAnyH_take (i := 0) (oi := { dst := some 68, op := Go.Op.load 31 (Go.Operand.tmp 5), type := 31, pos := "l53_board.go:58", after := #[], guard := none }) (v := ?_) rfl (by kernel_rfl) (by kernel_rfl) (by kernel_rfl) (fun _ _ _ h => h) (Or.inl ⟨by rfl, ?_⟩) (by assumption) ?_
          rotate_left 1
          · (intro w hSw; (try dsimp only at hSw); go_simp; try with_reducible rfl)
          (try simp only [Act.put, List.setIfInBounds_toArray, List.set_cons_zero, List.set_cons_succ])
          refine wpAnyH_take (i := 1) (oi := { dst := some 69, op := Go.Op.fieldAddr 31 (Go.Operand.tmp 5) 0, type := 0, pos := "l53_board.go:58", after := #[], guard := none }) (v := ?_) rfl (by kernel_rfl) (by kernel_rfl) (by kernel_rfl) (fun _ _ _ h => h) (Or.inl ⟨by rfl, ?_⟩) (by assumption) ?_
          rotate_left 1
          · (intro w hSw; (try dsimp only at hSw); go_simp; try with_reducible rfl)
          (try simp only [Act.put, List.setIfInBounds_toArray, List.set_cons_zero, List.set_cons_succ])
          refine wpAnyH_take (i := 2) (oi := { dst := some 70, op := Go.Op.load 3 (Go.Operand.tmp 69), type := 3, pos := "l53_board.go:58", after := #[{ on := 1, ground := Go.Ground.data }], guard := none }) (v := ?_) rfl (by kernel_rfl) (by kernel_rfl) (by kernel_rfl) (fun _ _ _ h => h) (Or.inl ⟨by rfl, ?_⟩) (by assumption) ?_
          rotate_left 1
          · (intro w hSw; (try dsimp only at hSw); go_simp; try with_reducible rfl)
          (try simp only [Act.put, List.setIfInBounds_toArray, List.set_cons_zero, List.set_cons_succ])
          refine wpAnyH_take (i := 3) (oi := { dst := some 71, op := Go.Op.binOp Go.BinOp.gtr 3 (Go.Operand.tmp 70) (Go.Operand.const (Go.Value.int Go.IntKind.i64 0)) 3, type := 4, pos := "l53_board.go:58", after := #[{ on := 2, ground := Go.Ground.data }], guard := none }) (v := ?_) rfl (by kernel_rfl) (by kernel_rfl) (by kernel_rfl) (fun _ _ _ h => h) (Or.inl ⟨by rfl, ?_⟩) (by assumption) ?_
          rotate_left 1
          · (intro w hSw; (try dsimp only at hSw); go_simp; try with_reducible rfl)
          (try simp only [Act.put, List.setIfInBounds_toArray, List.set_cons_zero, List.set_cons_succ])
          refine wpAnyH_take (i := 4) (oi := { dst := some 72, op := Go.Op.move (Go.Operand.tmp 71), type := 4, pos := "l53_board.go:58", after := #[{ on := 3, ground := Go.Ground.data }], guard := none }) (v := ?_) rfl (by kernel_rfl) (by kernel_rfl) (by kernel_rfl) (fun _ _ _ h => h) (Or.inl ⟨by rfl, ?_⟩) (by assumption) ?_
          rotate_left 1
          · (intro w hSw; (try dsimp only at hSw); go_simp; try with_reducible rfl)
          (try simp only [Act.put, List.setIfInBounds_toArray, List.set_cons_zero, List.set_cons_succ])
          refine wpAnyH_take (i := 5) (oi := { dst := some 73, op := Go.Op.fieldAddr 31 (Go.Operand.tmp 5) 1, type := 0, pos := "l53_board.go:58", after := #[{ on := 4, ground := Go.Ground.guard }], guard := some (4, true) }) (v := undef) rfl (by kernel_rfl) (by kernel_rfl) (by kernel_rfl) (fun _ _ _ h => h) (Or.inr ⟨by rfl, rfl⟩) (by assumption) ?_
          (try simp only [Act.put, List.setIfInBounds_toArray, List.set_cons_zero, List.set_cons_succ])
          refine wpAnyH_take (i := 6) (oi := { dst := some 74, op := Go.Op.load 3 (Go.Operand.tmp 73), type := 3, pos := "l53_board.go:58", after := #[{ on := 5, ground := Go.Ground.data }, { on := 4, ground := Go.Ground.guard }], guard := some (4, true) }) (v := undef) rfl (by kernel_rfl) (by kernel_rfl) (by kernel_rfl) (fun _ _ _ h => h) (Or.inr ⟨by rfl, rfl⟩) (by assumption) ?_
          (try simp only [Act.put, List.setIfInBounds_toArray, List.set_cons_zero, List.set_cons_succ])
          refine wpAnyH_take (i := 7) (oi := { dst := some 75, op := Go.Op.binOp Go.BinOp.geq 3 (Go.Operand.tmp 74) (Go.Operand.const (Go.Value.int Go.IntKind.i64 0)) 3, type := 4, pos := "l53_board.go:58", after := #[{ on := 6, ground := Go.Ground.data }, { on := 4, ground := Go.Ground.guard }], guard := some (4, true) }) (v := undef) rfl (by kernel_rfl) (by kernel_rfl) (by kernel_rfl) (fun _ _ _ h => h) (Or.inr ⟨by rfl, rfl⟩) (by assumption) ?_
          (try simp only [Act.put, List.setIfInBounds_toArray, List.set_cons_zero, List.set_cons_succ])
          refine wpAnyH_take (i := 8) (oi := { dst := some 76, op := Go.Op.pick (Go.Operand.tmp 72) (Go.Operand.tmp 75) (Go.Operand.const (Go.Value.bool false)), type := 4, pos := "l53_board.go:58", after := #[{ on := 4, ground := Go.Ground.data }, { on := 7, ground := Go.Ground.data }], guard := none }) (v := ?_) rfl (by kernel_rfl) (by kernel_rfl) (by kernel_rfl) (fun _ _ _ h => h) (Or.inl ⟨by rfl, ?_⟩) (by assumption) ?_
          rotate_left 1
          · (intro w hSw; (try dsimp only at hSw); go_simp; try with_reducible rfl)
          (try simp only [Act.put, List.setIfInBounds_toArray, List.set_cons_zero, List.set_cons_succ])
          refine wpAnyH_take (i := 9) (oi := { dst := some 77, op := Go.Op.move (Go.Operand.tmp 76), type := 4, pos := "l53_board.go:58", after := #[{ on := 8, ground := Go.Ground.data }, { on := 4, ground := Go.Ground.chain }], guard := none }) (v := ?_) rfl (by kernel_rfl) (by kernel_rfl) (by kernel_rfl) (fun _ _ _ h => h) (Or.inl ⟨by rfl, ?_⟩) (by assumption) ?_
          rotate_left 1
          · (intro w hSw; (try dsimp only at hSw); go_simp; try with_reducible rfl)
          (try simp only [Act.put, List.setIfInBounds_toArray, List.set_cons_zero, List.set_cons_succ])
          refine wpAnyH_take (i := 10) (oi := { dst := some 78, op := Go.Op.fieldAddr 31 (Go.Operand.tmp 5) 2, type := 0, pos := "l53_board.go:58", after := #[{ on := 9, ground := Go.Ground.guard }, { on := 14, ground := Go.Ground.gcOnly Go.Departure.lateStores }], guard := some (9, true) }) (v := undef) rfl (by kernel_rfl) (by kernel_rfl) (by kernel_rfl) (fun _ _ _ h => h) (Or.inr ⟨by rfl, rfl⟩) (by assumption) ?_
          (try simp only [Act.put, List.setIfInBounds_toArray, List.set_cons_zero, List.set_cons_succ])
          refine wpAnyH_take (i := 11) (oi := { dst := some 79, op := Go.Op.load 3 (Go.Operand.tmp 78), type := 3, pos := "l53_board.go:58", after := #[{ on := 10, ground := Go.Ground.data }, { on := 9, ground := Go.Ground.guard }, { on := 14, ground := Go.Ground.gcOnly Go.Departure.lateStores }], guard := some (9, true) }) (v := undef) rfl (by kernel_rfl) (by kernel_rfl) (by kernel_rfl) (fun _ _ _ h => h) (Or.inr ⟨by rfl, rfl⟩) (by assumption) ?_
          (try simp only [Act.put, List.setIfInBounds_toArray, List.set_cons_zero, List.set_cons_succ])
          refine wpAnyH_take (i := 12) (oi := { dst := some 80, op := Go.Op.binOp Go.BinOp.geq 3 (Go.Operand.tmp 79) (Go.Operand.const (Go.Value.int Go.IntKind.i64 0)) 3, type := 4, pos := "l53_board.go:58", after := #[{ on := 11, ground := Go.Ground.data }, { on := 9, ground := Go.Ground.guard }, { on := 14, ground := Go.Ground.gcOnly Go.Departure.lateStores }], guard := some (9, true) }) (v := undef) rfl (by kernel_rfl) (by kernel_rfl) (by kernel_rfl) (fun _ _ _ h => h) (Or.inr ⟨by rfl, rfl⟩) (by assumption) ?_
          (try simp only [Act.put, List.setIfInBounds_toArray, List.set_cons_zero, List.set_cons_succ])
          refine wpAnyH_take (i := 13) (oi := { dst := some 81, op := Go.Op.pick (Go.Operand.tmp 77) (Go.Operand.tmp 80) (Go.Operand.const (Go.Value.bool false)), type := 4, pos := "l53_board.go:58", after := #[{ on := 9, ground := Go.Ground.data }, { on := 12, ground := Go.Ground.data }, { on := 14, ground := Go.Ground.gcOnly Go.Departure.lateStores }], guard := none }) (v := ?_) rfl (by kernel_rfl) (by kernel_rfl) (by kernel_rfl) (fun _ _ _ h => h) (Or.inl ⟨by rfl, ?_⟩) (by assumption) ?_
          rotate_left 1
          · (intro w hSw; (try dsimp only at hSw); go_simp; try with_reducible rfl)
          (try simp only [Act.put, List.setIfInBounds_toArray, List.set_cons_zero, List.set_cons_succ])
          replace BW := qd BW
          replace BA := BA.drew
          replace BX := BX.drew
          clear hHeld e0 e1 e2 e3
          generalize wF.drew = wd at *
          have BA8 := (((BA.set0 f.n).set1 f.i).set2 f.s).set3 f.g
          have BE : Below w.heap.size w ((((wd.setCell ⟨b2, 0, none⟩ (.int .i64 f.n)).setCell ⟨b2, 1, none⟩ (.int .i64 f.i)).setCell ⟨b2, 2, none⟩ (.int .i64 f.s)).setCell ⟨b2, 3, none⟩ (.bool f.g)) := (((BW.setCell hb2.out _).setCell hb2.out _).setCell hb2.out _).setCell hb2.out _
          have BX8 : Bx ((((wd.setCell ⟨b2, 0, none⟩ (.int .i64 f.n)).setCell ⟨b2, 1, none⟩ (.int .i64 f.i)).setCell ⟨b2, 2, none⟩ (.int .i64 f.s)).setCell ⟨b2, 3, none⟩ (.bool f.g)) bx f := (((BX.far hbx).far hbx).far hbx).far hbx
          have a0 := BA.c0
          have a1 := BA.c1
          have a2 := BA.c2
          have a3 := BA.c3
          have z0 := BA.z 0
          have z1 := BA.z 1
          have z2 := BA.z 2
          have z3 := BA.z 3
          refine wpAnyH_ready (rs := [14]) (by kernel_rfl) (by simp) ?_
          refine AllReadyH.cons (o := { dst := none, op := Go.Op.store 31 (Go.Operand.tmp 2) (Go.Operand.tmp 68), type := 0, pos := "l53_board.go:58", after := #[{ on := 0, ground := Go.Ground.data }, { on := 9, ground := Go.Ground.chain }, { on := 0, ground := Go.Ground.phase }, { on := 1, ground := Go.Ground.textOnly Go.Departure.lateStores }, { on := 2, ground := Go.Ground.textOnly Go.Departure.lateStores }, { on := 3, ground := Go.Ground.textOnly Go.Departure.lateStores }, { on := 4, ground := Go.Ground.textOnly Go.Departure.lateStores }, { on := 5, ground := Go.Ground.textOnly Go.Departure.lateStores }, { on := 6, ground := Go.Ground.textOnly Go.Departure.lateStores }, { on := 7, ground := Go.Ground.textOnly Go.Departure.lateStores }, { on := 8, ground := Go.Ground.textOnly Go.Departure.lateStores }, { on := 9, ground := Go.Ground.textOnly Go.Departure.lateStores }, { on := 10, ground := Go.Ground.textOnly Go.Departure.lateStores }, { on := 11, ground := Go.Ground.textOnly Go.Departure.lateStores }, { on := 12, ground := Go.Ground.textOnly Go.Departure.lateStores }, { on := 13, ground := Go.Ground.textOnly Go.Departure.lateStores }], guard := none }) rfl (fun K hK => ?_) (AllReadyH.nil)
          go_simp
          refine hK.out _ _ ?_ (fun hHeld => ?_)
          · exact ⟨BX8.c0, BX8.c1, BX8.c2, BX8.c3⟩
          clear hK K
          (try simp only [Act.put, List.setIfInBounds_toArray, List.set_cons_zero, List.set_cons_succ])
          refine wpAnyH_take (i := 15) (oi := { dst := some 3, op := Go.Op.assign (Go.Operand.tmp 81), type := 4, pos := "l53_board.go:58", after := #[{ on := 13, ground := Go.Ground.data }, { on := 14, ground := Go.Ground.chain }, { on := 0, ground := Go.Ground.phase }, { on := 1, ground := Go.Ground.phase }, { on := 2, ground := Go.Ground.phase }, { on := 3, ground := Go.Ground.phase }, { on := 4, ground := Go.Ground.phase }, { on := 5, ground := Go.Ground.phase }, { on := 6, ground := Go.Ground.phase }, { on := 7, ground := Go.Ground.phase }, { on := 8, ground := Go.Ground.phase }, { on := 9, ground := Go.Ground.phase }, { on := 10, ground := Go.Ground.phase }, { on := 11, ground := Go.Ground.phase }, { on := 12, ground := Go.Ground.phase }, { on := 13, ground := Go.Ground.phase }, { on := 14, ground := Go.Ground.phase }], guard := none }) (v := ?_) rfl (by kernel_rfl) (by kernel_rfl) (by kernel_rfl) (fun _ _ _ h => h) (Or.inl ⟨by rfl, ?_⟩) (by assumption) ?_
          rotate_left 1
          · (intro w hSw; (try dsimp only at hSw); go_simp; try with_reducible rfl)
          (try simp only [Act.put, List.setIfInBounds_toArray, List.set_cons_zero, List.set_cons_succ])
          refine wpAnyH_done (by kernel_rfl) ?_ _
          clear a0 a1 a2 a3 z0 z1 z2 z3 BA BW BX BX8 hHeld
          generalize ((((wd.setCell ⟨b2, 0, none⟩ (.int .i64 f.n)).setCell ⟨b2, 1, none⟩ (.int .i64 f.i)).setCell ⟨b2, 2, none⟩ (.int .i64 f.s)).setCell ⟨b2, 3, none⟩ (.bool f.g)) = w9 at *
          have a0 := BA8.c0
          have a1 := BA8.c1
          have a2 := BA8.c2
          have a3 := BA8.c3
          go_wp2
          exact bodyPost_ret (v := .tuple #[.agg #[.int .i64 f.n, .int .i64 f.i, .int .i64 f.s, .bool f.g], .bool false]) (by simp [results, Tryz.results10, go_sem, a0, a1, a2, a3]) rfl (Rev.of hv BE)
  · have la : (bs a).size ≤ 1048576 := by have := hms a (by simp); show a.toArray.size ≤ _; rw [List.size_toArray]; omega
    have lb : (bs b).size ≤ 1048576 := by have := hms b (by simp); show b.toArray.size ≤ _; rw [List.size_toArray]; omega
    have lc : (bs c).size ≤ 1048576 := by have := hms c (by simp); show c.toArray.size ≤ _; rw [List.size_toArray]; omega
    have p0 := hpc 0 a rfl
    have p1 := hpc 1 b rfl
    have p2 := hpc 2 c rfl
    obtain ⟨pa, hpaa⟩ : ∃ p, bs a = p := ⟨_, rfl⟩
    obtain ⟨pb, hpbb⟩ : ∃ p, bs b = p := ⟨_, rfl⟩
    obtain ⟨pc, hpcc⟩ : ∃ p, bs c = p := ⟨_, rfl⟩
    have ea : a = pa.data.toList := by rw [← hpaa]
    have eb : b = pb.data.toList := by rw [← hpbb]
    have ec : c = pc.data.toList := by rw [← hpcc]
    rw [hpaa] at p0 la
    rw [hpbb] at p1 lb
    rw [hpcc] at p2 lc
    subst ea eb ec
    clear hpaa hpbb hpcc hpc hms
    obtain ⟨nb, hnb⟩ : ∃ k, Hid (mnum pb.data.toList = k) := ⟨mnum pb.data.toList, Eq.refl _⟩
    have hNB := fun w => snum_lit pb nb lb hnb.out w
    go_wp2_with fail
    refine (hNB _).mono ?_
    rintro e w2 ⟨rfl, bb⟩
    replace p0 := keep_below bb p0
    replace p2 := keep_below bb p2
    replace BW := btrans BW bb
    replace BA := BA.below bb
    have hgp2 : gp < w2.heap.size := by have := bb.size; omega
    clear bb hNB p1
    have BX : Bx (w2.alloc (.cells #[.int .i64 0, .int .i64 nb, .int .i64 0, .bool false] 31)) w2.heap.size ⟨0, nb, 0, false⟩ := ⟨by simp, by simp, by simp, by simp, by simp, fun k => by simp⟩
    have b3 : Below w2.heap.size w2 (w2.alloc (.cells #[.int .i64 0, .int .i64 nb, .int .i64 0, .bool false] 31)) := balloc _ (Below.refl _ _)
    go_wp2_with fail
    replace p0 := keep_below b3 p0
    replace p2 := keep_below b3 p2
    have hbx : w2.heap.size ≠ b2 := by have := BA.lt; omega
    have hgp : gp ≠ w2.heap.size := by omega
    have hbxw : Hid (w.heap.size ≤ w2.heap.size) := BW.size
    replace BW := btrans BW b3
    replace BA := BA.below b3
    have hszk : w2.heap.size < (w2.alloc (.cells #[.int .i64 0, .int .i64 nb, .int .i64 0, .bool false] 31)).heap.size := by simp
    clear b3 hgp2
    generalize (w2.alloc (.cells #[.int .i64 0, .int .i64 nb, .int .i64 0, .bool false] 31)) = w3 at *
    obtain ⟨bx, hbe⟩ : ∃ bx, w2.heap.size = bx := ⟨_, rfl⟩
    rw [hbe] at BX hbx hgp hbxw hszk ⊢
    clear hbe
    refine (kinds_any _).mono ?_
    rintro e w4 ⟨rfl, bb, q1⟩
    replace p0 := keep_below bb p0
    replace p2 := keep_below bb p2
    replace BW := btrans BW bb
    replace BA := BA.below bb
    replace BX := BX.below bb
    have hgk : w3.heap.size ≠ bx := by omega
    obtain ⟨gk, hge⟩ : ∃ g, w3.heap.size = g := ⟨_, rfl⟩
    rw [hge] at q1 hgk ⊢
    replace q1 : Hid _ := q1
    clear hge bb hszk
    go_wp2_with fail
    go_loopw [7] (fun i wr => ∃ k : Nat, i = .int .i64 ((k : Int) + 1) ∧ k ≤ 9 ∧ Bx wr b2 ⟨0, 0, 0, false⟩ ∧ Bx wr bx ⟨kst pa.data.toList k, nb, 0, false⟩ ∧ (wr.cell? ⟨gp, 0, none⟩ = some (.string pa) ∧ wr.cell? ⟨gp, 2, none⟩ = some (.string pc)) ∧ Hid (∀ (k : Nat) (x : ByteArray), Hid (k < 10 ∧ bs (kindsL.getD k []) = x) → wr.cell? ⟨gk, k, none⟩ = some (.string x)) ∧ Below w.heap.size w wr) (fun i _ => 11 - (intOf i).toNat)
    case atStart => exact ⟨0, rfl, by omega, BA, BX, ⟨p0, p2⟩, q1, BW⟩
    case round =>
      clear BA BX p0 p2 q1 BW
      obtain ⟨k, rfl, hk, BA, BX, ⟨p0, p2⟩, q1, BW⟩ := hrel
      by_cases hlt : k < 9
      · have j0 : (0 : Int) ≤ (k : Int) + 1 := by omega
        have j1 : (k : Int) + 1 < 10 := by omega
        have jt : ((k : Int) + 1).toNat = k + 1 := by omega
        obtain ⟨xk, hxk⟩ : ∃ x, bs (kindsL.getD (k + 1) []) = x := ⟨_, rfl⟩
        have ck := q1.out (k + 1) xk ⟨by omega, hxk⟩
        by_cases hq : kindsL.getD (k + 1) [] = pa.data.toList
        · have hqq : (xk.toList == pa.toList) = true := by rw [← hxk, hq]; show (pa.toList == pa.toList) = true; simp
          have hst : Hid (kst pa.data.toList (k + 1) = (k : Int) + 1) := by unfold Hid; rw [kst, if_pos hq]
          clear hxk hq
          go_wp2_with fail
          refine wp_region_held_drew (S := fun w' => w'.cell? ⟨gk, k + 1, none⟩ = some (.string xk) ∧ w'.cell? ⟨gp, 0, none⟩ = some (.string pa)) (by kernel_rfl) ?_ (fun hHeld => ?_)
          · (try dsimp only); (refine ⟨?_, ?_⟩ <;> (repeat (first | with_reducible assumption | with_reducible refine keep_drew ?_ | with_reducible refine keep_below (by assumption) ?_)))
          refine wpAnyH_take (i := 0) (oi := { dst := some 31, op := Go.Op.move (Go.Operand.tmp 6), type := 28, pos := "l53_board.go:47", after := #[], guard := none }) (v := ?_) rfl (by kernel_rfl) (by kernel_rfl) (by kernel_rfl) (fun _ _ _ h => h) (Or.inl ⟨by rfl, ?_⟩) (by assumption) ?_
          rotate_left 1
          · (intro w hSw; (try dsimp only at hSw); go_simp; try with_reducible rfl)
          (try simp only [Act.put, List.setIfInBounds_toArray, List.set_cons_zero, List.set_cons_succ])
          refine wpAnyH_take (i := 1) (oi := { dst := some 32, op := Go.Op.move (Go.Operand.tmp 7), type := 3, pos := "l53_board.go:47", after := #[], guard := none }) (v := ?_) rfl (by kernel_rfl) (by kernel_rfl) (by kernel_rfl) (fun _ _ _ h => h) (Or.inl ⟨by rfl, ?_⟩) (by assumption) ?_
          rotate_left 1
          · (intro w hSw; (try dsimp only at hSw); go_simp; try with_reducible rfl)
          (try simp only [Act.put, List.setIfInBounds_toArray, List.set_cons_zero, List.set_cons_succ])
          refine wpAnyH_take (i := 2) (oi := { dst := some 33, op := Go.Op.indexAddr 28 (Go.Operand.tmp 31) (Go.Operand.tmp 32), type := 0, pos := "l53_board.go:47", after := #[{ on := 0, ground := Go.Ground.data }, { on := 1, ground := Go.Ground.data }], guard := none }) (v := ?_) rfl (by kernel_rfl) (by kernel_rfl) (by kernel_rfl) (fun _ _ _ h => h) (Or.inl ⟨by rfl, ?_⟩) (by assumption) ?_
          rotate_left 1
          · (intro w hSw; (try dsimp only at hSw); go_simp; try with_reducible rfl)
          (try simp only [Act.put, List.setIfInBounds_toArray, List.set_cons_zero, List.set_cons_succ])
          refine wpAnyH_take (i := 3) (oi := { dst := some 34, op := Go.Op.load 9 (Go.Operand.tmp 33), type := 9, pos := "l53_board.go:47", after := #[{ on := 2, ground := Go.Ground.data }], guard := none }) (v := ?_) rfl (by kernel_rfl) (by kernel_rfl) (by kernel_rfl) (fun _ _ _ h => h) (Or.inl ⟨by rfl, ?_⟩) (by assumption) ?_
          rotate_left 1
          · (intro w hSw; (try dsimp only at hSw); go_simp; try with_reducible rfl)
          (try simp only [Act.put, List.setIfInBounds_toArray, List.set_cons_zero, List.set_cons_succ])
          refine wpAnyH_take (i := 4) (oi := { dst := some 35, op := Go.Op.move (Go.Operand.tmp 4), type := 28, pos := "l53_board.go:47", after := #[], guard := none }) (v := ?_) rfl (by kernel_rfl) (by kernel_rfl) (by kernel_rfl) (fun _ _ _ h => h) (Or.inl ⟨by rfl, ?_⟩) (by assumption) ?_
          rotate_left 1
          · (intro w hSw; (try dsimp only at hSw); go_simp; try with_reducible rfl)
          (try simp only [Act.put, List.setIfInBounds_toArray, List.set_cons_zero, List.set_cons_succ])
          refine wpAnyH_take (i := 5) (oi := { dst := some 36, op := Go.Op.indexAddr 28 (Go.Operand.tmp 35) (Go.Operand.const (Go.Value.int Go.IntKind.i64 0)), type := 0, pos := "l53_board.go:47", after := #[{ on := 4, ground := Go.Ground.data }], guard := none }) (v := ?_) rfl (by kernel_rfl) (by kernel_rfl) (by kernel_rfl) (fun _ _ _ h => h) (Or.inl ⟨by rfl, ?_⟩) (by assumption) ?_
          rotate_left 1
          · (intro w hSw; (try dsimp only at hSw); go_simp; try with_reducible rfl)
          (try simp only [Act.put, List.setIfInBounds_toArray, List.set_cons_zero, List.set_cons_succ])
          refine wpAnyH_take (i := 6) (oi := { dst := some 37, op := Go.Op.load 9 (Go.Operand.tmp 36), type := 9, pos := "l53_board.go:47", after := #[{ on := 5, ground := Go.Ground.data }], guard := none }) (v := ?_) rfl (by kernel_rfl) (by kernel_rfl) (by kernel_rfl) (fun _ _ _ h => h) (Or.inl ⟨by rfl, ?_⟩) (by assumption) ?_
          rotate_left 1
          · (intro w hSw; (try dsimp only at hSw); go_simp; try with_reducible rfl)
          (try simp only [Act.put, List.setIfInBounds_toArray, List.set_cons_zero, List.set_cons_succ])
          refine wpAnyH_take (i := 7) (oi := { dst := some 38, op := Go.Op.binOp Go.BinOp.eql 9 (Go.Operand.tmp 34) (Go.Operand.tmp 37) 9, type := 4, pos := "l53_board.go:47", after := #[{ on := 3, ground := Go.Ground.data }, { on := 6, ground := Go.Ground.data }], guard := none }) (v := ?_) rfl (by kernel_rfl) (by kernel_rfl) (by kernel_rfl) (fun _ _ _ h => h) (Or.inl ⟨by rfl, ?_⟩) (by assumption) ?_
          rotate_left 1
          · (intro w hSw; (try dsimp only at hSw); go_simp; try with_reducible rfl)
          (try simp only [Act.put, List.setIfInBounds_toArray, List.set_cons_zero, List.set_cons_succ])
          refine wpAnyH_done (by kernel_rfl) ?_ _
          replace BW := qd BW
          replace BA := BA.drew
          replace BX := BX.drew
          replace p0 := keep_drew p0
          replace p2 := keep_drew p2
          have q1' : Hid (∀ (k : Nat) (x : ByteArray), Hid (k < 10 ∧ bs (kindsL.getD k []) = x) → wr.drew.cell? ⟨gk, k, none⟩ = some (.string x)) := fun k x h => keep_drew (q1.out k x h)
          clear q1 ck hHeld
          generalize wr.drew = wd at *
          have BX8 := BX.set0 ((k : Int) + 1)
          have BA8 : Bx (wd.setCell ⟨bx, 0, none⟩ (.int .i64 ((k : Int) + 1))) b2 ⟨0, 0, 0, false⟩ := BA.far (Ne.symm hbx)
          have p0' : (wd.setCell ⟨bx, 0, none⟩ (.int .i64 ((k : Int) + 1))).cell? ⟨gp, 0, none⟩ = some (.string pa) := cell_afar hgp p0
          have p2' : (wd.setCell ⟨bx, 0, none⟩ (.int .i64 ((k : Int) + 1))).cell? ⟨gp, 2, none⟩ = some (.string pc) := cell_afar hgp p2
          have q1 : Hid (∀ (j : Nat) (x : ByteArray), Hid (j < 10 ∧ bs (kindsL.getD j []) = x) → (wd.setCell ⟨bx, 0, none⟩ (.int .i64 ((k : Int) + 1))).cell? ⟨gk, j, none⟩ = some (.string x)) := fun j x h => cell_afar hgk (q1'.out j x h)
          have BW8 : Below w.heap.size w (wd.setCell ⟨bx, 0, none⟩ (.int .i64 ((k : Int) + 1))) := BW.setCell (p := ⟨bx, 0, none⟩) hbxw.out _
          have a0 := BX.c0
          have z0 := BX.z 0
          go_wp2
          go_roundw
          case rel => exact ⟨k + 1, by go_num, by omega, BA8, by rw [hst.out]; exact BX8, ⟨p0', p2'⟩, q1, BW8⟩
          case measure => simp [intOf]; omega
        · have hqq : (xk.toList == pa.toList) = false := by rw [← hxk, beq_eq_false_iff_ne, ByteArray.toList_eq, ByteArray.toList_eq]; exact hq
          have hst : Hid (kst pa.data.toList (k + 1) = kst pa.data.toList k) := by unfold Hid; rw [kst, if_neg hq]
          clear hxk hq
          go_wp2_with fail
          refine wp_region_held_drew (S := fun w' => w'.cell? ⟨gk, k + 1, none⟩ = some (.string xk) ∧ w'.cell? ⟨gp, 0, none⟩ = some (.string pa)) (by kernel_rfl) ?_ (fun hHeld => ?_)
          · (try dsimp only); (refine ⟨?_, ?_⟩ <;> (repeat (first | with_reducible assumption | with_reducible refine keep_drew ?_ | with_reducible refine keep_below (by assumption) ?_)))
          refine wpAnyH_take (i := 0) (oi := { dst := some 31, op := Go.Op.move (Go.Operand.tmp 6), type := 28, pos := "l53_board.go:47", after := #[], guard := none }) (v := ?_) rfl (by kernel_rfl) (by kernel_rfl) (by kernel_rfl) (fun _ _ _ h => h) (Or.inl ⟨by rfl, ?_⟩) (by assumption) ?_
          rotate_left 1
          · (intro w hSw; (try dsimp only at hSw); go_simp; try with_reducible rfl)
          (try simp only [Act.put, List.setIfInBounds_toArray, List.set_cons_zero, List.set_cons_succ])
          refine wpAnyH_take (i := 1) (oi := { dst := some 32, op := Go.Op.move (Go.Operand.tmp 7), type := 3, pos := "l53_board.go:47", after := #[], guard := none }) (v := ?_) rfl (by kernel_rfl) (by kernel_rfl) (by kernel_rfl) (fun _ _ _ h => h) (Or.inl ⟨by rfl, ?_⟩) (by assumption) ?_
          rotate_left 1
          · (intro w hSw; (try dsimp only at hSw); go_simp; try with_reducible rfl)
          (try simp only [Act.put, List.setIfInBounds_toArray, List.set_cons_zero, List.set_cons_succ])
          refine wpAnyH_take (i := 2) (oi := { dst := some 33, op := Go.Op.indexAddr 28 (Go.Operand.tmp 31) (Go.Operand.tmp 32), type := 0, pos := "l53_board.go:47", after := #[{ on := 0, ground := Go.Ground.data }, { on := 1, ground := Go.Ground.data }], guard := none }) (v := ?_) rfl (by kernel_rfl) (by kernel_rfl) (by kernel_rfl) (fun _ _ _ h => h) (Or.inl ⟨by rfl, ?_⟩) (by assumption) ?_
          rotate_left 1
          · (intro w hSw; (try dsimp only at hSw); go_simp; try with_reducible rfl)
          (try simp only [Act.put, List.setIfInBounds_toArray, List.set_cons_zero, List.set_cons_succ])
          refine wpAnyH_take (i := 3) (oi := { dst := some 34, op := Go.Op.load 9 (Go.Operand.tmp 33), type := 9, pos := "l53_board.go:47", after := #[{ on := 2, ground := Go.Ground.data }], guard := none }) (v := ?_) rfl (by kernel_rfl) (by kernel_rfl) (by kernel_rfl) (fun _ _ _ h => h) (Or.inl ⟨by rfl, ?_⟩) (by assumption) ?_
          rotate_left 1
          · (intro w hSw; (try dsimp only at hSw); go_simp; try with_reducible rfl)
          (try simp only [Act.put, List.setIfInBounds_toArray, List.set_cons_zero, List.set_cons_succ])
          refine wpAnyH_take (i := 4) (oi := { dst := some 35, op := Go.Op.move (Go.Operand.tmp 4), type := 28, pos := "l53_board.go:47", after := #[], guard := none }) (v := ?_) rfl (by kernel_rfl) (by kernel_rfl) (by kernel_rfl) (fun _ _ _ h => h) (Or.inl ⟨by rfl, ?_⟩) (by assumption) ?_
          rotate_left 1
          · (intro w hSw; (try dsimp only at hSw); go_simp; try with_reducible rfl)
          (try simp only [Act.put, List.setIfInBounds_toArray, List.set_cons_zero, List.set_cons_succ])
          refine wpAnyH_take (i := 5) (oi := { dst := some 36, op := Go.Op.indexAddr 28 (Go.Operand.tmp 35) (Go.Operand.const (Go.Value.int Go.IntKind.i64 0)), type := 0, pos := "l53_board.go:47", after := #[{ on := 4, ground := Go.Ground.data }], guard := none }) (v := ?_) rfl (by kernel_rfl) (by kernel_rfl) (by kernel_rfl) (fun _ _ _ h => h) (Or.inl ⟨by rfl, ?_⟩) (by assumption) ?_
          rotate_left 1
          · (intro w hSw; (try dsimp only at hSw); go_simp; try with_reducible rfl)
          (try simp only [Act.put, List.setIfInBounds_toArray, List.set_cons_zero, List.set_cons_succ])
          refine wpAnyH_take (i := 6) (oi := { dst := some 37, op := Go.Op.load 9 (Go.Operand.tmp 36), type := 9, pos := "l53_board.go:47", after := #[{ on := 5, ground := Go.Ground.data }], guard := none }) (v := ?_) rfl (by kernel_rfl) (by kernel_rfl) (by kernel_rfl) (fun _ _ _ h => h) (Or.inl ⟨by rfl, ?_⟩) (by assumption) ?_
          rotate_left 1
          · (intro w hSw; (try dsimp only at hSw); go_simp; try with_reducible rfl)
          (try simp only [Act.put, List.setIfInBounds_toArray, List.set_cons_zero, List.set_cons_succ])
          refine wpAnyH_take (i := 7) (oi := { dst := some 38, op := Go.Op.binOp Go.BinOp.eql 9 (Go.Operand.tmp 34) (Go.Operand.tmp 37) 9, type := 4, pos := "l53_board.go:47", after := #[{ on := 3, ground := Go.Ground.data }, { on := 6, ground := Go.Ground.data }], guard := none }) (v := ?_) rfl (by kernel_rfl) (by kernel_rfl) (by kernel_rfl) (fun _ _ _ h => h) (Or.inl ⟨by rfl, ?_⟩) (by assumption) ?_
          rotate_left 1
          · (intro w hSw; (try dsimp only at hSw); go_simp; try with_reducible rfl)
          (try simp only [Act.put, List.setIfInBounds_toArray, List.set_cons_zero, List.set_cons_succ])
          refine wpAnyH_done (by kernel_rfl) ?_ _
          replace BW := qd BW
          replace BA := BA.drew
          replace BX := BX.drew
          replace p0 := keep_drew p0
          replace p2 := keep_drew p2
          have q1' : Hid (∀ (k : Nat) (x : ByteArray), Hid (k < 10 ∧ bs (kindsL.getD k []) = x) → wr.drew.cell? ⟨gk, k, none⟩ = some (.string x)) := fun k x h => keep_drew (q1.out k x h)
          clear q1 ck hHeld
          go_wp2
          go_roundw
          case rel => exact ⟨k + 1, by go_num, by omega, BA, by rw [hst.out]; exact BX, ⟨p0, p2⟩, q1', BW⟩
          case measure => simp [intOf]; omega
      · obtain rfl : k = 9 := by omega
        clear q1 hlt hk
        obtain ⟨ka, hka⟩ : ∃ k, Hid (kst pa.data.toList 9 = k) := ⟨kst pa.data.toList 9, Eq.refl _⟩
        rw [hka.out] at BX
        obtain ⟨nc, hnc⟩ : ∃ k, Hid (mnum pc.data.toList = k) := ⟨mnum pc.data.toList, Eq.refl _⟩
        by_cases hc : pc = bs [107, 101, 101, 112]
        · have hc2 : (pc.toList == [107, 101, 101, 112]) = true := by rw [hc, ByteArray.toList_eq]; rfl
          by_cases hk : ka = 2
          · have hk2 : (ka == 2) = true := by simp [hk]
            obtain ⟨f, hf⟩ : ∃ f : Fc, f = ⟨ka, nb, 0, true⟩ := ⟨_, rfl⟩
            have hv : Hid (mvP (cutL 32 s.data.toList) = (f, decide (0 ≤ f.i))) := by
              unfold Hid
              rw [hP.out]
              simp only [mvP]
              rw [hka.out, hnb.out, if_pos ⟨hk, by rw [hc]⟩, hf]
            have a0 := BX.c0
            have a3 := BX.c3
            have z3 := BX.z 3
            have BX8 := BX.set3 true
            have BA8 : Bx (wr.setCell ⟨bx, 3, none⟩ (.bool true)) b2 ⟨0, 0, 0, false⟩ := BA.far (Ne.symm hbx)
            have BW8 : Below w.heap.size w (wr.setCell ⟨bx, 3, none⟩ (.bool true)) := BW.setCell (p := ⟨bx, 3, none⟩) hbxw.out _
            rw [show (⟨ka, nb, 0, true⟩ : Fc) = f from hf.symm] at BX8
            clear hf hnb hP hka hnc hk hc
            go_wp2_with fail
            clear a0 a3 z3 BA BX BW p0 p2
            generalize (wr.setCell ⟨bx, 3, none⟩ (.bool true)) = wF at *
            have BA := BA8
            have BX := BX8
            have BW := BW8
            clear BA8 BX8 BW8
            have e0 := BX.c0
            have e1 := BX.c1
            have e2 := BX.c2
            have e3 := BX.c3
            refine wp_region_held_drew (S := fun w' => w'.cell? ⟨bx, 0, none⟩ = some (.int .i64 f.n) ∧ w'.cell? ⟨bx, 1, none⟩ = some (.int .i64 f.i) ∧ w'.cell? ⟨bx, 2, none⟩ = some (.int .i64 f.s) ∧ w'.cell? ⟨bx, 3, none⟩ = some (.bool f.g)) (by kernel_rfl) ?_ (fun hHeld => ?_)
            · (try dsimp only); (refine ⟨?_, ?_, ?_, ?_⟩ <;> (repeat (first | with_reducible assumption | with_reducible refine keep_drew ?_ | with_reducible refine keep_below (by assumption) ?_)))
            refine wpAnyH_take (i := 0) (oi := { dst := some 56, op := Go.Op.load 31 (Go.Operand.tmp 5), type := 31, pos := "l53_board.go:53", after := #[], guard := none }) (v := ?_) rfl (by kernel_rfl) (by kernel_rfl) (by kernel_rfl) (fun _ _ _ h => h) (Or.inl ⟨by rfl, ?_⟩) (by assumption) ?_
            rotate_left 1
            · (intro w hSw; (try dsimp only at hSw); go_simp; try with_reducible rfl)
            (try simp only [Act.put, List.setIfInBounds_toArray, List.set_cons_zero, List.set_cons_succ])
            refine wpAnyH_take (i := 1) (oi := { dst := some 57, op := Go.Op.fieldAddr 31 (Go.Operand.tmp 5) 1, type := 0, pos := "l53_board.go:53", after := #[{ on := 4, ground := Go.Ground.gcOnly Go.Departure.lateStores }], guard := none }) (v := ?_) rfl (by kernel_rfl) (by kernel_rfl) (by kernel_rfl) (fun _ _ _ h => h) (Or.inl ⟨by rfl, ?_⟩) (by assumption) ?_
            rotate_left 1
            · (intro w hSw; (try dsimp only at hSw); go_simp; try with_reducible rfl)
            (try simp only [Act.put, List.setIfInBounds_toArray, List.set_cons_zero, List.set_cons_succ])
            refine wpAnyH_take (i := 2) (oi := { dst := some 58, op := Go.Op.load 3 (Go.Operand.tmp 57), type := 3, pos := "l53_board.go:53", after := #[{ on := 1, ground := Go.Ground.data }, { on := 4, ground := Go.Ground.gcOnly Go.Departure.lateStores }], guard := none }) (v := ?_) rfl (by kernel_rfl) (by kernel_rfl) (by kernel_rfl) (fun _ _ _ h => h) (Or.inl ⟨by rfl, ?_⟩) (by assumption) ?_
            rotate_left 1
            · (intro w hSw; (try dsimp only at hSw); go_simp; try with_reducible rfl)
            (try simp only [Act.put, List.setIfInBounds_toArray, List.set_cons_zero, List.set_cons_succ])
            refine wpAnyH_take (i := 3) (oi := { dst := some 59, op := Go.Op.binOp Go.BinOp.geq 3 (Go.Operand.tmp 58) (Go.Operand.const (Go.Value.int Go.IntKind.i64 0)) 3, type := 4, pos := "l53_board.go:53", after := #[{ on := 2, ground := Go.Ground.data }, { on := 4, ground := Go.Ground.gcOnly Go.Departure.lateStores }], guard := none }) (v := ?_) rfl (by kernel_rfl) (by kernel_rfl) (by kernel_rfl) (fun _ _ _ h => h) (Or.inl ⟨by rfl, ?_⟩) (by assumption) ?_
            rotate_left 1
            · (intro w hSw; (try dsimp only at hSw); go_simp; try with_reducible rfl)
            (try simp only [Act.put, List.setIfInBounds_toArray, List.set_cons_zero, List.set_cons_succ])
            replace BW := qd BW
            replace BA := BA.drew
            replace BX := BX.drew
            clear hHeld e0 e1 e2 e3
            generalize wF.drew = wd at *
            have BA8 := (((BA.set0 f.n).set1 f.i).set2 f.s).set3 f.g
            have BE : Below w.heap.size w ((((wd.setCell ⟨b2, 0, none⟩ (.int .i64 f.n)).setCell ⟨b2, 1, none⟩ (.int .i64 f.i)).setCell ⟨b2, 2, none⟩ (.int .i64 f.s)).setCell ⟨b2, 3, none⟩ (.bool f.g)) := (((BW.setCell hb2.out _).setCell hb2.out _).setCell hb2.out _).setCell hb2.out _
            have BX8 : Bx ((((wd.setCell ⟨b2, 0, none⟩ (.int .i64 f.n)).setCell ⟨b2, 1, none⟩ (.int .i64 f.i)).setCell ⟨b2, 2, none⟩ (.int .i64 f.s)).setCell ⟨b2, 3, none⟩ (.bool f.g)) bx f := (((BX.far hbx).far hbx).far hbx).far hbx
            have a0 := BA.c0
            have a1 := BA.c1
            have a2 := BA.c2
            have a3 := BA.c3
            have z0 := BA.z 0
            have z1 := BA.z 1
            have z2 := BA.z 2
            have z3 := BA.z 3
            refine wpAnyH_ready (rs := [4]) (by kernel_rfl) (by simp) ?_
            refine AllReadyH.cons (o := { dst := none, op := Go.Op.store 31 (Go.Operand.tmp 2) (Go.Operand.tmp 56), type := 0, pos := "l53_board.go:53", after := #[{ on := 0, ground := Go.Ground.data }, { on := 0, ground := Go.Ground.phase }, { on := 1, ground := Go.Ground.textOnly Go.Departure.lateStores }, { on := 2, ground := Go.Ground.textOnly Go.Departure.lateStores }, { on := 3, ground := Go.Ground.textOnly Go.Departure.lateStores }], guard := none }) rfl (fun K hK => ?_) (AllReadyH.nil)
            go_simp
            refine hK.out _ _ ?_ (fun hHeld => ?_)
            · exact ⟨BX8.c0, BX8.c1, BX8.c2, BX8.c3⟩
            clear hK K
            (try simp only [Act.put, List.setIfInBounds_toArray, List.set_cons_zero, List.set_cons_succ])
            refine wpAnyH_take (i := 5) (oi := { dst := some 3, op := Go.Op.assign (Go.Operand.tmp 59), type := 4, pos := "l53_board.go:53", after := #[{ on := 3, ground := Go.Ground.data }, { on := 4, ground := Go.Ground.chain }, { on := 0, ground := Go.Ground.phase }, { on := 1, ground := Go.Ground.phase }, { on := 2, ground := Go.Ground.phase }, { on := 3, ground := Go.Ground.phase }, { on := 4, ground := Go.Ground.phase }], guard := none }) (v := ?_) rfl (by kernel_rfl) (by kernel_rfl) (by kernel_rfl) (fun _ _ _ h => h) (Or.inl ⟨by rfl, ?_⟩) (by assumption) ?_
            rotate_left 1
            · (intro w hSw; (try dsimp only at hSw); go_simp; try with_reducible rfl)
            (try simp only [Act.put, List.setIfInBounds_toArray, List.set_cons_zero, List.set_cons_succ])
            refine wpAnyH_done (by kernel_rfl) ?_ _
            clear a0 a1 a2 a3 z0 z1 z2 z3 BA BW BX BX8 hHeld
            generalize ((((wd.setCell ⟨b2, 0, none⟩ (.int .i64 f.n)).setCell ⟨b2, 1, none⟩ (.int .i64 f.i)).setCell ⟨b2, 2, none⟩ (.int .i64 f.s)).setCell ⟨b2, 3, none⟩ (.bool f.g)) = w9 at *
            have a0 := BA8.c0
            have a1 := BA8.c1
            have a2 := BA8.c2
            have a3 := BA8.c3
            go_wp2
            exact bodyPost_ret (v := .tuple #[.agg #[.int .i64 f.n, .int .i64 f.i, .int .i64 f.s, .bool f.g], .bool (decide (0 ≤ f.i))]) (by simp [results, Tryz.results10, go_sem, a0, a1, a2, a3]) rfl (Rev.of hv BE)
          · have hk2 : (ka == 2) = false := by simp [hk]
            clear hc
            have a0 := BX.c0
            have hNC := fun w => snum_lit pc nc lc hnc.out w
            go_wp2_with fail
            refine (hNC _).mono ?_
            rintro e w6 ⟨rfl, bb⟩
            replace BW := btrans BW bb
            replace BA := BA.below bb
            replace BX := BX.below bb
            clear bb a0 p2 hNC p0
            have BX8 := BX.set2 nc
            have BA8 : Bx (w6.setCell ⟨bx, 2, none⟩ (.int .i64 nc)) b2 ⟨0, 0, 0, false⟩ := BA.far (Ne.symm hbx)
            have BW8 : Below w.heap.size w (w6.setCell ⟨bx, 2, none⟩ (.int .i64 nc)) := BW.setCell (p := ⟨bx, 2, none⟩) hbxw.out _
            have a2 := BX.c2
            have z2 := BX.z 2
            obtain ⟨f, hf⟩ : ∃ f : Fc, f = ⟨ka, nb, nc, false⟩ := ⟨_, rfl⟩
            have hm1 : Hid (0 < f.n → 0 ≤ f.i → mvP (cutL 32 s.data.toList) = (f, decide (0 ≤ f.s))) := by
              intro h1 h2
              rw [hP.out]
              simp only [mvP]
              rw [hka.out, hnb.out, hnc.out, if_neg (fun h => hk h.1), hf]
              rw [hf] at h1 h2
              simp at h1 h2 ⊢
              exact fun _ => ⟨h1, h2⟩
            have hm0 : Hid (¬ (0 < f.n ∧ 0 ≤ f.i) → mvP (cutL 32 s.data.toList) = (f, false)) := by
              intro h1
              rw [hP.out]
              simp only [mvP]
              rw [hka.out, hnb.out, hnc.out, if_neg (fun h => hk h.1), hf]
              rw [hf] at h1
              simp at h1 ⊢
              intro h2 h3
              have := h1 h2
              omega
            rw [show (⟨ka, nb, nc, false⟩ : Fc) = f from hf.symm] at BX8
            clear hf hnb hP hka hnc
            go_wp2_with fail
            clear a2 z2 BA BX BW
            generalize (w6.setCell ⟨bx, 2, none⟩ (.int .i64 nc)) = wF at *
            have BA := BA8
            have BX := BX8
            have BW := BW8
            clear BA8 BX8 BW8
            have e0 := BX.c0
            have e1 := BX.c1
            have e2 := BX.c2
            have e3 := BX.c3
            by_cases hkn : 0 < f.n
            · by_cases hnb : 0 ≤ f.i
              · have hv : Hid (mvP (cutL 32 s.data.toList) = (f, decide (0 ≤ f.s))) := hm1.out hkn hnb
                clear hm1 hm0
                refine wp_region_held_drew (S := fun w' => w'.cell? ⟨bx, 0, none⟩ = some (.int .i64 f.n) ∧ w'.cell? ⟨bx, 1, none⟩ = some (.int .i64 f.i) ∧ w'.cell? ⟨bx, 2, none⟩ = some (.int .i64 f.s) ∧ w'.cell? ⟨bx, 3, none⟩ = some (.bool f.g)) (by kernel_rfl) ?_ (fun hHeld => ?_)
                · (try dsimp only); (refine ⟨?_, ?_, ?_, ?_⟩ <;> (repeat (first | with_reducible assumption | with_reducible refine keep_drew ?_ | with_reducible refine keep_below (by assumption) ?_)))
                refine wpAnyH_take (i := 0) (oi := { dst := some 68, op := Go.Op.load 31 (Go.Operand.tmp 5), type := 31, pos := "l53_board.go:58", after := #[], guard := none }) (v := ?_) rfl (by kernel_rfl) (by kernel_rfl) (by kernel_rfl) (fun _ _ _ h => h) (Or.inl ⟨by rfl, ?_⟩) (by assumption) ?_
                rotate_left 1
                · (intro w hSw; (try dsimp only at hSw); go_simp; try with_reducible rfl)
                (try simp only [Act.put, List.setIfInBounds_toArray, List.set_cons_zero, List.set_cons_succ])
                refine wpAnyH_take (i := 1) (oi := { dst := some 69, op := Go.Op.fieldAddr 31 (Go.Operand.tmp 5) 0, type := 0, pos := "l53_board.go:58", after := #[], guard := none }) (v := ?_) rfl (by kernel_rfl) (by kernel_rfl) (by kernel_rfl) (fun _ _ _ h => h) (Or.inl ⟨by rfl, ?_⟩) (by assumption) ?_
                rotate_left 1
                · (intro w hSw; (try dsimp only at hSw); go_simp; try with_reducible rfl)
                (try simp only [Act.put, List.setIfInBounds_toArray, List.set_cons_zero, List.set_cons_succ])
                refine wpAnyH_take (i := 2) (oi := { dst := some 70, op := Go.Op.load 3 (Go.Operand.tmp 69), type := 3, pos := "l53_board.go:58", after := #[{ on := 1, ground := Go.Ground.data }], guard := none }) (v := ?_) rfl (by kernel_rfl) (by kernel_rfl) (by kernel_rfl) (fun _ _ _ h => h) (Or.inl ⟨by rfl, ?_⟩) (by assumption) ?_
                rotate_left 1
                · (intro w hSw; (try dsimp only at hSw); go_simp; try with_reducible rfl)
                (try simp only [Act.put, List.setIfInBounds_toArray, List.set_cons_zero, List.set_cons_succ])
                refine wpAnyH_take (i := 3) (oi := { dst := some 71, op := Go.Op.binOp Go.BinOp.gtr 3 (Go.Operand.tmp 70) (Go.Operand.const (Go.Value.int Go.IntKind.i64 0)) 3, type := 4, pos := "l53_board.go:58", after := #[{ on := 2, ground := Go.Ground.data }], guard := none }) (v := ?_) rfl (by kernel_rfl) (by kernel_rfl) (by kernel_rfl) (fun _ _ _ h => h) (Or.inl ⟨by rfl, ?_⟩) (by assumption) ?_
                rotate_left 1
                · (intro w hSw; (try dsimp only at hSw); go_simp; try with_reducible rfl)
                (try simp only [Act.put, List.setIfInBounds_toArray, List.set_cons_zero, List.set_cons_succ])
                refine wpAnyH_take (i := 4) (oi := { dst := some 72, op := Go.Op.move (Go.Operand.tmp 71), type := 4, pos := "l53_board.go:58", after := #[{ on := 3, ground := Go.Ground.data }], guard := none }) (v := ?_) rfl (by kernel_rfl) (by kernel_rfl) (by kernel_rfl) (fun _ _ _ h => h) (Or.inl ⟨by rfl, ?_⟩) (by assumption) ?_
                rotate_left 1
                · (intro w hSw; (try dsimp only at hSw); go_simp; try with_reducible rfl)
                (try simp only [Act.put, List.setIfInBounds_toArray, List.set_cons_zero, List.set_cons_succ])
                refine wpAnyH_take (i := 5) (oi := { dst := some 73, op := Go.Op.fieldAddr 31 (Go.Operand.tmp 5) 1, type := 0, pos := "l53_board.go:58", after := #[{ on := 4, ground := Go.Ground.guard }], guard := some (4, true) }) (v := ?_) rfl (by kernel_rfl) (by kernel_rfl) (by kernel_rfl) (fun _ _ _ h => h) (Or.inl ⟨by rfl, ?_⟩) (by assumption) ?_
                rotate_left 1
                · (intro w hSw; (try dsimp only at hSw); go_simp; try with_reducible rfl)
                (try simp only [Act.put, List.setIfInBounds_toArray, List.set_cons_zero, List.set_cons_succ])
                refine wpAnyH_take (i := 6) (oi := { dst := some 74, op := Go.Op.load 3 (Go.Operand.tmp 73), type := 3, pos := "l53_board.go:58", after := #[{ on := 5, ground := Go.Ground.data }, { on := 4, ground := Go.Ground.guard }], guard := some (4, true) }) (v := ?_) rfl (by kernel_rfl) (by kernel_rfl) (by kernel_rfl) (fun _ _ _ h => h) (Or.inl ⟨by rfl, ?_⟩) (by assumption) ?_
                rotate_left 1
                · (intro w hSw; (try dsimp only at hSw); go_simp; try with_reducible rfl)
                (try simp only [Act.put, List.setIfInBounds_toArray, List.set_cons_zero, List.set_cons_succ])
                refine wpAnyH_take (i := 7) (oi := { dst := some 75, op := Go.Op.binOp Go.BinOp.geq 3 (Go.Operand.tmp 74) (Go.Operand.const (Go.Value.int Go.IntKind.i64 0)) 3, type := 4, pos := "l53_board.go:58", after := #[{ on := 6, ground := Go.Ground.data }, { on := 4, ground := Go.Ground.guard }], guard := some (4, true) }) (v := ?_) rfl (by kernel_rfl) (by kernel_rfl) (by kernel_rfl) (fun _ _ _ h => h) (Or.inl ⟨by rfl, ?_⟩) (by assumption) ?_
                rotate_left 1
                · (intro w hSw; (try dsimp only at hSw); go_simp; try with_reducible rfl)
                (try simp only [Act.put, List.setIfInBounds_toArray, List.set_cons_zero, List.set_cons_succ])
                refine wpAnyH_take (i := 8) (oi := { dst := some 76, op := Go.Op.pick (Go.Operand.tmp 72) (Go.Operand.tmp 75) (Go.Operand.const (Go.Value.bool false)), type := 4, pos := "l53_board.go:58", after := #[{ on := 4, ground := Go.Ground.data }, { on := 7, ground := Go.Ground.data }], guard := none }) (v := ?_) rfl (by kernel_rfl) (by kernel_rfl) (by kernel_rfl) (fun _ _ _ h => h) (Or.inl ⟨by rfl, ?_⟩) (by assumption) ?_
                rotate_left 1
                · (intro w hSw; (try dsimp only at hSw); go_simp; try with_reducible rfl)
                (try simp only [Act.put, List.setIfInBounds_toArray, List.set_cons_zero, List.set_cons_succ])
                refine wpAnyH_take (i := 9) (oi := { dst := some 77, op := Go.Op.move (Go.Operand.tmp 76), type := 4, pos := "l53_board.go:58", after := #[{ on := 8, ground := Go.Ground.data }, { on := 4, ground := Go.Ground.chain }], guard := none }) (v := ?_) rfl (by kernel_rfl) (by kernel_rfl) (by kernel_rfl) (fun _ _ _ h => h) (Or.inl ⟨by rfl, ?_⟩) (by assumption) ?_
                rotate_left 1
                · (intro w hSw; (try dsimp only at hSw); go_simp; try with_reducible rfl)
                (try simp only [Act.put, List.setIfInBounds_toArray, List.set_cons_zero, List.set_cons_succ])
                refine wpAnyH_take (i := 10) (oi := { dst := some 78, op := Go.Op.fieldAddr 31 (Go.Operand.tmp 5) 2, type := 0, pos := "l53_board.go:58", after := #[{ on := 9, ground := Go.Ground.guard }, { on := 14, ground := Go.Ground.gcOnly Go.Departure.lateStores }], guard := some (9, true) }) (v := ?_) rfl (by kernel_rfl) (by kernel_rfl) (by kernel_rfl) (fun _ _ _ h => h) (Or.inl ⟨by rfl, ?_⟩) (by assumption) ?_
                rotate_left 1
                · (intro w hSw; (try dsimp only at hSw); go_simp; try with_reducible rfl)
                (try simp only [Act.put, List.setIfInBounds_toArray, List.set_cons_zero, List.set_cons_succ])
                refine wpAnyH_take (i := 11) (oi := { dst := some 79, op := Go.Op.load 3 (Go.Operand.tmp 78), type := 3, pos := "l53_board.go:58", after := #[{ on := 10, ground := Go.Ground.data }, { on := 9, ground := Go.Ground.guard }, { on := 14, ground := Go.Ground.gcOnly Go.Departure.lateStores }], guard := some (9, true) }) (v := ?_) rfl (by kernel_rfl) (by kernel_rfl) (by kernel_rfl) (fun _ _ _ h => h) (Or.inl ⟨by rfl, ?_⟩) (by assumption) ?_
                rotate_left 1
                · (intro w hSw; (try dsimp only at hSw); go_simp; try with_reducible rfl)
                (try simp only [Act.put, List.setIfInBounds_toArray, List.set_cons_zero, List.set_cons_succ])
                refine wpAnyH_take (i := 12) (oi := { dst := some 80, op := Go.Op.binOp Go.BinOp.geq 3 (Go.Operand.tmp 79) (Go.Operand.const (Go.Value.int Go.IntKind.i64 0)) 3, type := 4, pos := "l53_board.go:58", after := #[{ on := 11, ground := Go.Ground.data }, { on := 9, ground := Go.Ground.guard }, { on := 14, ground := Go.Ground.gcOnly Go.Departure.lateStores }], guard := some (9, true) }) (v := ?_) rfl (by kernel_rfl) (by kernel_rfl) (by kernel_rfl) (fun _ _ _ h => h) (Or.inl ⟨by rfl, ?_⟩) (by assumption) ?_
                rotate_left 1
                · (intro w hSw; (try dsimp only at hSw); go_simp; try with_reducible rfl)
                (try simp only [Act.put, List.setIfInBounds_toArray, List.set_cons_zero, List.set_cons_succ])
                refine wpAnyH_take (i := 13) (oi := { dst := some 81, op := Go.Op.pick (Go.Operand.tmp 77) (Go.Operand.tmp 80) (Go.Operand.const (Go.Value.bool false)), type := 4, pos := "l53_board.go:58", after := #[{ on := 9, ground := Go.Ground.data }, { on := 12, ground := Go.Ground.data }, { on := 14, ground := Go.Ground.gcOnly Go.Departure.lateStores }], guard := none }) (v := ?_) rfl (by kernel_rfl) (by kernel_rfl) (by kernel_rfl) (fun _ _ _ h => h) (Or.inl ⟨by rfl, ?_⟩) (by assumption) ?_
                rotate_left 1
                · (intro w hSw; (try dsimp only at hSw); go_simp; try with_reducible rfl)
                (try simp only [Act.put, List.setIfInBounds_toArray, List.set_cons_zero, List.set_cons_succ])
                replace BW := qd BW
                replace BA := BA.drew
                replace BX := BX.drew
                clear hHeld e0 e1 e2 e3
                generalize wF.drew = wd at *
                have BA8 := (((BA.set0 f.n).set1 f.i).set2 f.s).set3 f.g
                have BE : Below w.heap.size w ((((wd.setCell ⟨b2, 0, none⟩ (.int .i64 f.n)).setCell ⟨b2, 1, none⟩ (.int .i64 f.i)).setCell ⟨b2, 2, none⟩ (.int .i64 f.s)).setCell ⟨b2, 3, none⟩ (.bool f.g)) := (((BW.setCell hb2.out _).setCell hb2.out _).setCell hb2.out _).setCell hb2.out _
                have BX8 : Bx ((((wd.setCell ⟨b2, 0, none⟩ (.int .i64 f.n)).setCell ⟨b2, 1, none⟩ (.int .i64 f.i)).setCell ⟨b2, 2, none⟩ (.int .i64 f.s)).setCell ⟨b2, 3, none⟩ (.bool f.g)) bx f := (((BX.far hbx).far hbx).far hbx).far hbx
                have a0 := BA.c0
                have a1 := BA.c1
                have a2 := BA.c2
                have a3 := BA.c3
                have z0 := BA.z 0
                have z1 := BA.z 1
                have z2 := BA.z 2
                have z3 := BA.z 3
                refine wpAnyH_ready (rs := [14]) (by kernel_rfl) (by simp) ?_
                refine AllReadyH.cons (o := { dst := none, op := Go.Op.store 31 (Go.Operand.tmp 2) (Go.Operand.tmp 68), type := 0, pos := "l53_board.go:58", after := #[{ on := 0, ground := Go.Ground.data }, { on := 9, ground := Go.Ground.chain }, { on := 0, ground := Go.Ground.phase }, { on := 1, ground := Go.Ground.textOnly Go.Departure.lateStores }, { on := 2, ground := Go.Ground.textOnly Go.Departure.lateStores }, { on := 3, ground := Go.Ground.textOnly Go.Departure.lateStores }, { on := 4, ground := Go.Ground.textOnly Go.Departure.lateStores }, { on := 5, ground := Go.Ground.textOnly Go.Departure.lateStores }, { on := 6, ground := Go.Ground.textOnly Go.Departure.lateStores }, { on := 7, ground := Go.Ground.textOnly Go.Departure.lateStores }, { on := 8, ground := Go.Ground.textOnly Go.Departure.lateStores }, { on := 9, ground := Go.Ground.textOnly Go.Departure.lateStores }, { on := 10, ground := Go.Ground.textOnly Go.Departure.lateStores }, { on := 11, ground := Go.Ground.textOnly Go.Departure.lateStores }, { on := 12, ground := Go.Ground.textOnly Go.Departure.lateStores }, { on := 13, ground := Go.Ground.textOnly Go.Departure.lateStores }], guard := none }) rfl (fun K hK => ?_) (AllReadyH.nil)
                go_simp
                refine hK.out _ _ ?_ (fun hHeld => ?_)
                · exact ⟨BX8.c0, BX8.c1, BX8.c2, BX8.c3⟩
                clear hK K
                (try simp only [Act.put, List.setIfInBounds_toArray, List.set_cons_zero, List.set_cons_succ])
                refine wpAnyH_take (i := 15) (oi := { dst := some 3, op := Go.Op.assign (Go.Operand.tmp 81), type := 4, pos := "l53_board.go:58", after := #[{ on := 13, ground := Go.Ground.data }, { on := 14, ground := Go.Ground.chain }, { on := 0, ground := Go.Ground.phase }, { on := 1, ground := Go.Ground.phase }, { on := 2, ground := Go.Ground.phase }, { on := 3, ground := Go.Ground.phase }, { on := 4, ground := Go.Ground.phase }, { on := 5, ground := Go.Ground.phase }, { on := 6, ground := Go.Ground.phase }, { on := 7, ground := Go.Ground.phase }, { on := 8, ground := Go.Ground.phase }, { on := 9, ground := Go.Ground.phase }, { on := 10, ground := Go.Ground.phase }, { on := 11, ground := Go.Ground.phase }, { on := 12, ground := Go.Ground.phase }, { on := 13, ground := Go.Ground.phase }, { on := 14, ground := Go.Ground.phase }], guard := none }) (v := ?_) rfl (by kernel_rfl) (by kernel_rfl) (by kernel_rfl) (fun _ _ _ h => h) (Or.inl ⟨by rfl, ?_⟩) (by assumption) ?_
                rotate_left 1
                · (intro w hSw; (try dsimp only at hSw); go_simp; try with_reducible rfl)
                (try simp only [Act.put, List.setIfInBounds_toArray, List.set_cons_zero, List.set_cons_succ])
                refine wpAnyH_done (by kernel_rfl) ?_ _
                clear a0 a1 a2 a3 z0 z1 z2 z3 BA BW BX BX8 hHeld
                generalize ((((wd.setCell ⟨b2, 0, none⟩ (.int .i64 f.n)).setCell ⟨b2, 1, none⟩ (.int .i64 f.i)).setCell ⟨b2, 2, none⟩ (.int .i64 f.s)).setCell ⟨b2, 3, none⟩ (.bool f.g)) = w9 at *
                have a0 := BA8.c0
                have a1 := BA8.c1
                have a2 := BA8.c2
                have a3 := BA8.c3
                go_wp2
                exact bodyPost_ret (v := .tuple #[.agg #[.int .i64 f.n, .int .i64 f.i, .int .i64 f.s, .bool f.g], .bool (decide (0 ≤ f.s))]) (by simp [results, Tryz.results10, go_sem, a0, a1, a2, a3]) rfl (Rev.of hv BE)
              · have hv : Hid (mvP (cutL 32 s.data.toList) = (f, false)) := hm0.out (fun h => hnb h.2)
                clear hm1 hm0
                refine wp_region_held_drew (S := fun w' => w'.cell? ⟨bx, 0, none⟩ = some (.int .i64 f.n) ∧ w'.cell? ⟨bx, 1, none⟩ = some (.int .i64 f.i) ∧ w'.cell? ⟨bx, 2, none⟩ = some (.int .i64 f.s) ∧ w'.cell? ⟨bx, 3, none⟩ = some (.bool f.g)) (by kernel_rfl) ?_ (fun hHeld => ?_)
                · (try dsimp only); (refine ⟨?_, ?_, ?_, ?_⟩ <;> (repeat (first | with_reducible assumption | with_reducible refine keep_drew ?_ | with_reducible refine keep_below (by assumption) ?_)))
                refine wpAnyH_take (i := 0) (oi := { dst := some 68, op := Go.Op.load 31 (Go.Operand.tmp 5), type := 31, pos := "l53_board.go:58", after := #[], guard := none }) (v := ?_) rfl (by kernel_rfl) (by kernel_rfl) (by kernel_rfl) (fun _ _ _ h => h) (Or.inl ⟨by rfl, ?_⟩) (by assumption) ?_
                rotate_left 1
                · (intro w hSw; (try dsimp only at hSw); go_simp; try with_reducible rfl)
                (try simp only [Act.put, List.setIfInBounds_toArray, List.set_cons_zero, List.set_cons_succ])
                refine wpAnyH_take (i := 1) (oi := { dst := some 69, op := Go.Op.fieldAddr 31 (Go.Operand.tmp 5) 0, type := 0, pos := "l53_board.go:58", after := #[], guard := none }) (v := ?_) rfl (by kernel_rfl) (by kernel_rfl) (by kernel_rfl) (fun _ _ _ h => h) (Or.inl ⟨by rfl, ?_⟩) (by assumption) ?_
                rotate_left 1
                · (intro w hSw; (try dsimp only at hSw); go_simp; try with_reducible rfl)
                (try simp only [Act.put, List.setIfInBounds_toArray, List.set_cons_zero, List.set_cons_succ])
                refine wpAnyH_take (i := 2) (oi := { dst := some 70, op := Go.Op.load 3 (Go.Operand.tmp 69), type := 3, pos := "l53_board.go:58", after := #[{ on := 1, ground := Go.Ground.data }], guard := none }) (v := ?_) rfl (by kernel_rfl) (by kernel_rfl) (by kernel_rfl) (fun _ _ _ h => h) (Or.inl ⟨by rfl, ?_⟩) (by assumption) ?_
                rotate_left 1
                · (intro w hSw; (try dsimp only at hSw); go_simp; try with_reducible rfl)
                (try simp only [Act.put, List.setIfInBounds_toArray, List.set_cons_zero, List.set_cons_succ])
                refine wpAnyH_take (i := 3) (oi := { dst := some 71, op := Go.Op.binOp Go.BinOp.gtr 3 (Go.Operand.tmp 70) (Go.Operand.const (Go.Value.int Go.IntKind.i64 0)) 3, type := 4, pos := "l53_board.go:58", after := #[{ on := 2, ground := Go.Ground.data }], guard := none }) (v := ?_) rfl (by kernel_rfl) (by kernel_rfl) (by kernel_rfl) (fun _ _ _ h => h) (Or.inl ⟨by rfl, ?_⟩) (by assumption) ?_
                rotate_left 1
                · (intro w hSw; (try dsimp only at hSw); go_simp; try with_reducible rfl)
                (try simp only [Act.put, List.setIfInBounds_toArray, List.set_cons_zero, List.set_cons_succ])
                refine wpAnyH_take (i := 4) (oi := { dst := some 72, op := Go.Op.move (Go.Operand.tmp 71), type := 4, pos := "l53_board.go:58", after := #[{ on := 3, ground := Go.Ground.data }], guard := none }) (v := ?_) rfl (by kernel_rfl) (by kernel_rfl) (by kernel_rfl) (fun _ _ _ h => h) (Or.inl ⟨by rfl, ?_⟩) (by assumption) ?_
                rotate_left 1
                · (intro w hSw; (try dsimp only at hSw); go_simp; try with_reducible rfl)
                (try simp only [Act.put, List.setIfInBounds_toArray, List.set_cons_zero, List.set_cons_succ])
                refine wpAnyH_take (i := 5) (oi := { dst := some 73, op := Go.Op.fieldAddr 31 (Go.Operand.tmp 5) 1, type := 0, pos := "l53_board.go:58", after := #[{ on := 4, ground := Go.Ground.guard }], guard := some (4, true) }) (v := ?_) rfl (by kernel_rfl) (by kernel_rfl) (by kernel_rfl) (fun _ _ _ h => h) (Or.inl ⟨by rfl, ?_⟩) (by assumption) ?_
                rotate_left 1
                · (intro w hSw; (try dsimp only at hSw); go_simp; try with_reducible rfl)
                (try simp only [Act.put, List.setIfInBounds_toArray, List.set_cons_zero, List.set_cons_succ])
                refine wpAnyH_take (i := 6) (oi := { dst := some 74, op := Go.Op.load 3 (Go.Operand.tmp 73), type := 3, pos := "l53_board.go:58", after := #[{ on := 5, ground := Go.Ground.data }, { on := 4, ground := Go.Ground.guard }], guard := some (4, true) }) (v := ?_) rfl (by kernel_rfl) (by kernel_rfl) (by kernel_rfl) (fun _ _ _ h => h) (Or.inl ⟨by rfl, ?_⟩) (by assumption) ?_
                rotate_left 1
                · (intro w hSw; (try dsimp only at hSw); go_simp; try with_reducible rfl)
                (try simp only [Act.put, List.setIfInBounds_toArray, List.set_cons_zero, List.set_cons_succ])
                refine wpAnyH_take (i := 7) (oi := { dst := some 75, op := Go.Op.binOp Go.BinOp.geq 3 (Go.Operand.tmp 74) (Go.Operand.const (Go.Value.int Go.IntKind.i64 0)) 3, type := 4, pos := "l53_board.go:58", after := #[{ on := 6, ground := Go.Ground.data }, { on := 4, ground := Go.Ground.guard }], guard := some (4, true) }) (v := ?_) rfl (by kernel_rfl) (by kernel_rfl) (by kernel_rfl) (fun _ _ _ h => h) (Or.inl ⟨by rfl, ?_⟩) (by assumption) ?_
                rotate_left 1
                · (intro w hSw; (try dsimp only at hSw); go_simp; try with_reducible rfl)
                (try simp only [Act.put, List.setIfInBounds_toArray, List.set_cons_zero, List.set_cons_succ])
                refine wpAnyH_take (i := 8) (oi := { dst := some 76, op := Go.Op.pick (Go.Operand.tmp 72) (Go.Operand.tmp 75) (Go.Operand.const (Go.Value.bool false)), type := 4, pos := "l53_board.go:58", after := #[{ on := 4, ground := Go.Ground.data }, { on := 7, ground := Go.Ground.data }], guard := none }) (v := ?_) rfl (by kernel_rfl) (by kernel_rfl) (by kernel_rfl) (fun _ _ _ h => h) (Or.inl ⟨by rfl, ?_⟩) (by assumption) ?_
                rotate_left 1
                · (intro w hSw; (try dsimp only at hSw); go_simp; try with_reducible rfl)
                (try simp only [Act.put, List.setIfInBounds_toArray, List.set_cons_zero, List.set_cons_succ])
                refine wpAnyH_take (i := 9) (oi := { dst := some 77, op := Go.Op.move (Go.Operand.tmp 76), type := 4, pos := "l53_board.go:58", after := #[{ on := 8, ground := Go.Ground.data }, { on := 4, ground := Go.Ground.chain }], guard := none }) (v := ?_) rfl (by kernel_rfl) (by kernel_rfl) (by kernel_rfl) (fun _ _ _ h => h) (Or.inl ⟨by rfl, ?_⟩) (by assumption) ?_
                rotate_left 1
                · (intro w hSw; (try dsimp only at hSw); go_simp; try with_reducible rfl)
                (try simp only [Act.put, List.setIfInBounds_toArray, List.set_cons_zero, List.set_cons_succ])
                refine wpAnyH_take (i := 10) (oi := { dst := some 78, op := Go.Op.fieldAddr 31 (Go.Operand.tmp 5) 2, type := 0, pos := "l53_board.go:58", after := #[{ on := 9, ground := Go.Ground.guard }, { on := 14, ground := Go.Ground.gcOnly Go.Departure.lateStores }], guard := some (9, true) }) (v := undef) rfl (by kernel_rfl) (by kernel_rfl) (by kernel_rfl) (fun _ _ _ h => h) (Or.inr ⟨by rfl, rfl⟩) (by assumption) ?_
                (try simp only [Act.put, List.setIfInBounds_toArray, List.set_cons_zero, List.set_cons_succ])
                refine wpAnyH_take (i := 11) (oi := { dst := some 79, op := Go.Op.load 3 (Go.Operand.tmp 78), type := 3, pos := "l53_board.go:58", after := #[{ on := 10, ground := Go.Ground.data }, { on := 9, ground := Go.Ground.guard }, { on := 14, ground := Go.Ground.gcOnly Go.Departure.lateStores }], guard := some (9, true) }) (v := undef) rfl (by kernel_rfl) (by kernel_rfl) (by kernel_rfl) (fun _ _ _ h => h) (Or.inr ⟨by rfl, rfl⟩) (by assumption) ?_
                (try simp only [Act.put, List.setIfInBounds_toArray, List.set_cons_zero, List.set_cons_succ])
                refine wpAnyH_take (i := 12) (oi := { dst := some 80, op := Go.Op.binOp Go.BinOp.geq 3 (Go.Operand.tmp 79) (Go.Operand.const (Go.Value.int Go.IntKind.i64 0)) 3, type := 4, pos := "l53_board.go:58", after := #[{ on := 11, ground := Go.Ground.data }, { on := 9, ground := Go.Ground.guard }, { on := 14, ground := Go.Ground.gcOnly Go.Departure.lateStores }], guard := some (9, true) }) (v := undef) rfl (by kernel_rfl) (by kernel_rfl) (by kernel_rfl) (fun _ _ _ h => h) (Or.inr ⟨by rfl, rfl⟩) (by assumption) ?_
                (try simp only [Act.put, List.setIfInBounds_toArray, List.set_cons_zero, List.set_cons_succ])
                refine wpAnyH_take (i := 13) (oi := { dst := some 81, op := Go.Op.pick (Go.Operand.tmp 77) (Go.Operand.tmp 80) (Go.Operand.const (Go.Value.bool false)), type := 4, pos := "l53_board.go:58", after := #[{ on := 9, ground := Go.Ground.data }, { on := 12, ground := Go.Ground.data }, { on := 14, ground := Go.Ground.gcOnly Go.Departure.lateStores }], guard := none }) (v := ?_) rfl (by kernel_rfl) (by kernel_rfl) (by kernel_rfl) (fun _ _ _ h => h) (Or.inl ⟨by rfl, ?_⟩) (by assumption) ?_
                rotate_left 1
                · (intro w hSw; (try dsimp only at hSw); go_simp; try with_reducible rfl)
                (try simp only [Act.put, List.setIfInBounds_toArray, List.set_cons_zero, List.set_cons_succ])
                replace BW := qd BW
                replace BA := BA.drew
                replace BX := BX.drew
                clear hHeld e0 e1 e2 e3
                generalize wF.drew = wd at *
                have BA8 := (((BA.set0 f.n).set1 f.i).set2 f.s).set3 f.g
                have BE : Below w.heap.size w ((((wd.setCell ⟨b2, 0, none⟩ (.int .i64 f.n)).setCell ⟨b2, 1, none⟩ (.int .i64 f.i)).setCell ⟨b2, 2, none⟩ (.int .i64 f.s)).setCell ⟨b2, 3, none⟩ (.bool f.g)) := (((BW.setCell hb2.out _).setCell hb2.out _).setCell hb2.out _).setCell hb2.out _
                have BX8 : Bx ((((wd.setCell ⟨b2, 0, none⟩ (.int .i64 f.n)).setCell ⟨b2, 1, none⟩ (.int .i64 f.i)).setCell ⟨b2, 2, none⟩ (.int .i64 f.s)).setCell ⟨b2, 3, none⟩ (.bool f.g)) bx f := (((BX.far hbx).far hbx).far hbx).far hbx
                have a0 := BA.c0
                have a1 := BA.c1
                have a2 := BA.c2
                have a3 := BA.c3
                have z0 := BA.z 0
                have z1 := BA.z 1
                have z2 := BA.z 2
                have z3 := BA.z 3
                refine wpAnyH_ready (rs := [14]) (by kernel_rfl) (by simp) ?_
                refine AllReadyH.cons (o := { dst := none, op := Go.Op.store 31 (Go.Operand.tmp 2) (Go.Operand.tmp 68), type := 0, pos := "l53_board.go:58", after := #[{ on := 0, ground := Go.Ground.data }, { on := 9, ground := Go.Ground.chain }, { on := 0, ground := Go.Ground.phase }, { on := 1, ground := Go.Ground.textOnly Go.Departure.lateStores }, { on := 2, ground := Go.Ground.textOnly Go.Departure.lateStores }, { on := 3, ground := Go.Ground.textOnly Go.Departure.lateStores }, { on := 4, ground := Go.Ground.textOnly Go.Departure.lateStores }, { on := 5, ground := Go.Ground.textOnly Go.Departure.lateStores }, { on := 6, ground := Go.Ground.textOnly Go.Departure.lateStores }, { on := 7, ground := Go.Ground.textOnly Go.Departure.lateStores }, { on := 8, ground := Go.Ground.textOnly Go.Departure.lateStores }, { on := 9, ground := Go.Ground.textOnly Go.Departure.lateStores }, { on := 10, ground := Go.Ground.textOnly Go.Departure.lateStores }, { on := 11, ground := Go.Ground.textOnly Go.Departure.lateStores }, { on := 12, ground := Go.Ground.textOnly Go.Departure.lateStores }, { on := 13, ground := Go.Ground.textOnly Go.Departure.lateStores }], guard := none }) rfl (fun K hK => ?_) (AllReadyH.nil)
                go_simp
                refine hK.out _ _ ?_ (fun hHeld => ?_)
                · exact ⟨BX8.c0, BX8.c1, BX8.c2, BX8.c3⟩
                clear hK K
                (try simp only [Act.put, List.setIfInBounds_toArray, List.set_cons_zero, List.set_cons_succ])
                refine wpAnyH_take (i := 15) (oi := { dst := some 3, op := Go.Op.assign (Go.Operand.tmp 81), type := 4, pos := "l53_board.go:58", after := #[{ on := 13, ground := Go.Ground.data }, { on := 14, ground := Go.Ground.chain }, { on := 0, ground := Go.Ground.phase }, { on := 1, ground := Go.Ground.phase }, { on := 2, ground := Go.Ground.phase }, { on := 3, ground := Go.Ground.phase }, { on := 4, ground := Go.Ground.phase }, { on := 5, ground := Go.Ground.phase }, { on := 6, ground := Go.Ground.phase }, { on := 7, ground := Go.Ground.phase }, { on := 8, ground := Go.Ground.phase }, { on := 9, ground := Go.Ground.phase }, { on := 10, ground := Go.Ground.phase }, { on := 11, ground := Go.Ground.phase }, { on := 12, ground := Go.Ground.phase }, { on := 13, ground := Go.Ground.phase }, { on := 14, ground := Go.Ground.phase }], guard := none }) (v := ?_) rfl (by kernel_rfl) (by kernel_rfl) (by kernel_rfl) (fun _ _ _ h => h) (Or.inl ⟨by rfl, ?_⟩) (by assumption) ?_
                rotate_left 1
                · (intro w hSw; (try dsimp only at hSw); go_simp; try with_reducible rfl)
                (try simp only [Act.put, List.setIfInBounds_toArray, List.set_cons_zero, List.set_cons_succ])
                refine wpAnyH_done (by kernel_rfl) ?_ _
                clear a0 a1 a2 a3 z0 z1 z2 z3 BA BW BX BX8 hHeld
                generalize ((((wd.setCell ⟨b2, 0, none⟩ (.int .i64 f.n)).setCell ⟨b2, 1, none⟩ (.int .i64 f.i)).setCell ⟨b2, 2, none⟩ (.int .i64 f.s)).setCell ⟨b2, 3, none⟩ (.bool f.g)) = w9 at *
                have a0 := BA8.c0
                have a1 := BA8.c1
                have a2 := BA8.c2
                have a3 := BA8.c3
                go_wp2
                exact bodyPost_ret (v := .tuple #[.agg #[.int .i64 f.n, .int .i64 f.i, .int .i64 f.s, .bool f.g], .bool false]) (by simp [results, Tryz.results10, go_sem, a0, a1, a2, a3]) rfl (Rev.of hv BE)
            · have hv : Hid (mvP (cutL 32 s.data.toList) = (f, false)) := hm0.out (fun h => hkn h.1)
              clear hm1 hm0
              refine wp_region_held_drew (S := fun w' => w'.cell? ⟨bx, 0, none⟩ = some (.int .i64 f.n) ∧ w'.cell? ⟨bx, 1, none⟩ = some (.int .i64 f.i) ∧ w'.cell? ⟨bx, 2, none⟩ = some (.int .i64 f.s) ∧ w'.cell? ⟨bx, 3, none⟩ = some (.bool f.g)) (by kernel_rfl) ?_ (fun hHeld => ?_)
              · (try dsimp only); (refine ⟨?_, ?_, ?_, ?_⟩ <;> (repeat (first | with_reducible assumption | with_reducible refine keep_drew ?_ | with_reducible refine keep_below (by assumption) ?_)))
              refine wpAnyH_take (i := 0) (oi := { dst := some 68, op := Go.Op.load 31 (Go.Operand.tmp 5), type := 31, pos := "l53_board.go:58", after := #[], guard := none }) (v := ?_) rfl (by kernel_rfl) (by kernel_rfl) (by kernel_rfl) (fun _ _ _ h => h) (Or.inl ⟨by rfl, ?_⟩) (by assumption) ?_
              rotate_left 1
              · (intro w hSw; (try dsimp only at hSw); go_simp; try with_reducible rfl)
              (try simp only [Act.put, List.setIfInBounds_toArray, List.set_cons_zero, List.set_cons_succ])
              refine wpAnyH_take (i := 1) (oi := { dst := some 69, op := Go.Op.fieldAddr 31 (Go.Operand.tmp 5) 0, type := 0, pos := "l53_board.go:58", after := #[], guard := none }) (v := ?_) rfl (by kernel_rfl) (by kernel_rfl) (by kernel_rfl) (fun _ _ _ h => h) (Or.inl ⟨by rfl, ?_⟩) (by assumption) ?_
              rotate_left 1
              · (intro w hSw; (try dsimp only at hSw); go_simp; try with_reducible rfl)
              (try simp only [Act.put, List.setIfInBounds_toArray, List.set_cons_zero, List.set_cons_succ])
              refine wpAnyH_take (i := 2) (oi := { dst := some 70, op := Go.Op.load 3 (Go.Operand.tmp 69), type := 3, pos := "l53_board.go:58", after := #[{ on := 1, ground := Go.Ground.data }], guard := none }) (v := ?_) rfl (by kernel_rfl) (by kernel_rfl) (by kernel_rfl) (fun _ _ _ h => h) (Or.inl ⟨by rfl, ?_⟩) (by assumption) ?_
              rotate_left 1
              · (intro w hSw; (try dsimp only at hSw); go_simp; try with_reducible rfl)
              (try simp only [Act.put, List.setIfInBounds_toArray, List.set_cons_zero, List.set_cons_succ])
              refine wpAnyH_take (i := 3) (oi := { dst := some 71, op := Go.Op.binOp Go.BinOp.gtr 3 (Go.Operand.tmp 70) (Go.Operand.const (Go.Value.int Go.IntKind.i64 0)) 3, type := 4, pos := "l53_board.go:58", after := #[{ on := 2, ground := Go.Ground.data }], guard := none }) (v := ?_) rfl (by kernel_rfl) (by kernel_rfl) (by kernel_rfl) (fun _ _ _ h => h) (Or.inl ⟨by rfl, ?_⟩) (by assumption) ?_
              rotate_left 1
              · (intro w hSw; (try dsimp only at hSw); go_simp; try with_reducible rfl)
              (try simp only [Act.put, List.setIfInBounds_toArray, List.set_cons_zero, List.set_cons_succ])
              refine wpAnyH_take (i := 4) (oi := { dst := some 72, op := Go.Op.move (Go.Operand.tmp 71), type := 4, pos := "l53_board.go:58", after := #[{ on := 3, ground := Go.Ground.data }], guard := none }) (v := ?_) rfl (by kernel_rfl) (by kernel_rfl) (by kernel_rfl) (fun _ _ _ h => h) (Or.inl ⟨by rfl, ?_⟩) (by assumption) ?_
              rotate_left 1
              · (intro w hSw; (try dsimp only at hSw); go_simp; try with_reducible rfl)
              (try simp only [Act.put, List.setIfInBounds_toArray, List.set_cons_zero, List.set_cons_succ])
              refine wpAnyH_take (i := 5) (oi := { dst := some 73, op := Go.Op.fieldAddr 31 (Go.Operand.tmp 5) 1, type := 0, pos := "l53_board.go:58", after := #[{ on := 4, ground := Go.Ground.guard }], guard := some (4, true) }) (v := undef) rfl (by kernel_rfl) (by kernel_rfl) (by kernel_rfl) (fun _ _ _ h => h) (Or.inr ⟨by rfl, rfl⟩) (by assumption) ?_
              (try simp only [Act.put, List.setIfInBounds_toArray, List.set_cons_zero, List.set_cons_succ])
              refine wpAnyH_take (i := 6) (oi := { dst := some 74, op := Go.Op.load 3 (Go.Operand.tmp 73), type := 3, pos := "l53_board.go:58", after := #[{ on := 5, ground := Go.Ground.data }, { on := 4, ground := Go.Ground.guard }], guard := some (4, true) }) (v := undef) rfl (by kernel_rfl) (by kernel_rfl) (by kernel_rfl) (fun _ _ _ h => h) (Or.inr ⟨by rfl, rfl⟩) (by assumption) ?_
              (try simp only [Act.put, List.setIfInBounds_toArray, List.set_cons_zero, List.set_cons_succ])
              refine wpAnyH_take (i := 7) (oi := { dst := some 75, op := Go.Op.binOp Go.BinOp.geq 3 (Go.Operand.tmp 74) (Go.Operand.const (Go.Value.int Go.IntKind.i64 0)) 3, type := 4, pos := "l53_board.go:58", after := #[{ on := 6, ground := Go.Ground.data }, { on := 4, ground := Go.Ground.guard }], guard := some (4, true) }) (v := undef) rfl (by kernel_rfl) (by kernel_rfl) (by kernel_rfl) (fun _ _ _ h => h) (Or.inr ⟨by rfl, rfl⟩) (by assumption) ?_
              (try simp only [Act.put, List.setIfInBounds_toArray, List.set_cons_zero, List.set_cons_succ])
              refine wpAnyH_take (i := 8) (oi := { dst := some 76, op := Go.Op.pick (Go.Operand.tmp 72) (Go.Operand.tmp 75) (Go.Operand.const (Go.Value.bool false)), type := 4, pos := "l53_board.go:58", after := #[{ on := 4, ground := Go.Ground.data }, { on := 7, ground := Go.Ground.data }], guard := none }) (v := ?_) rfl (by kernel_rfl) (by kernel_rfl) (by kernel_rfl) (fun _ _ _ h => h) (Or.inl ⟨by rfl, ?_⟩) (by assumption) ?_
              rotate_left 1
              · (intro w hSw; (try dsimp only at hSw); go_simp; try with_reducible rfl)
              (try simp only [Act.put, List.setIfInBounds_toArray, List.set_cons_zero, List.set_cons_succ])
              refine wpAnyH_take (i := 9) (oi := { dst := some 77, op := Go.Op.move (Go.Operand.tmp 76), type := 4, pos := "l53_board.go:58", after := #[{ on := 8, ground := Go.Ground.data }, { on := 4, ground := Go.Ground.chain }], guard := none }) (v := ?_) rfl (by kernel_rfl) (by kernel_rfl) (by kernel_rfl) (fun _ _ _ h => h) (Or.inl ⟨by rfl, ?_⟩) (by assumption) ?_
              rotate_left 1
              · (intro w hSw; (try dsimp only at hSw); go_simp; try with_reducible rfl)
              (try simp only [Act.put, List.setIfInBounds_toArray, List.set_cons_zero, List.set_cons_succ])
              refine wpAnyH_take (i := 10) (oi := { dst := some 78, op := Go.Op.fieldAddr 31 (Go.Operand.tmp 5) 2, type := 0, pos := "l53_board.go:58", after := #[{ on := 9, ground := Go.Ground.guard }, { on := 14, ground := Go.Ground.gcOnly Go.Departure.lateStores }], guard := some (9, true) }) (v := undef) rfl (by kernel_rfl) (by kernel_rfl) (by kernel_rfl) (fun _ _ _ h => h) (Or.inr ⟨by rfl, rfl⟩) (by assumption) ?_
              (try simp only [Act.put, List.setIfInBounds_toArray, List.set_cons_zero, List.set_cons_succ])
              refine wpAnyH_take (i := 11) (oi := { dst := some 79, op := Go.Op.load 3 (Go.Operand.tmp 78), type := 3, pos := "l53_board.go:58", after := #[{ on := 10, ground := Go.Ground.data }, { on := 9, ground := Go.Ground.guard }, { on := 14, ground := Go.Ground.gcOnly Go.Departure.lateStores }], guard := some (9, true) }) (v := undef) rfl (by kernel_rfl) (by kernel_rfl) (by kernel_rfl) (fun _ _ _ h => h) (Or.inr ⟨by rfl, rfl⟩) (by assumption) ?_
              (try simp only [Act.put, List.setIfInBounds_toArray, List.set_cons_zero, List.set_cons_succ])
              refine wpAnyH_take (i := 12) (oi := { dst := some 80, op := Go.Op.binOp Go.BinOp.geq 3 (Go.Operand.tmp 79) (Go.Operand.const (Go.Value.int Go.IntKind.i64 0)) 3, type := 4, pos := "l53_board.go:58", after := #[{ on := 11, ground := Go.Ground.data }, { on := 9, ground := Go.Ground.guard }, { on := 14, ground := Go.Ground.gcOnly Go.Departure.lateStores }], guard := some (9, true) }) (v := undef) rfl (by kernel_rfl) (by kernel_rfl) (by kernel_rfl) (fun _ _ _ h => h) (Or.inr ⟨by rfl, rfl⟩) (by assumption) ?_
              (try simp only [Act.put, List.setIfInBounds_toArray, List.set_cons_zero, List.set_cons_succ])
              refine wpAnyH_take (i := 13) (oi := { dst := some 81, op := Go.Op.pick (Go.Operand.tmp 77) (Go.Operand.tmp 80) (Go.Operand.const (Go.Value.bool false)), type := 4, pos := "l53_board.go:58", after := #[{ on := 9, ground := Go.Ground.data }, { on := 12, ground := Go.Ground.data }, { on := 14, ground := Go.Ground.gcOnly Go.Departure.lateStores }], guard := none }) (v := ?_) rfl (by kernel_rfl) (by kernel_rfl) (by kernel_rfl) (fun _ _ _ h => h) (Or.inl ⟨by rfl, ?_⟩) (by assumption) ?_
              rotate_left 1
              · (intro w hSw; (try dsimp only at hSw); go_simp; try with_reducible rfl)
              (try simp only [Act.put, List.setIfInBounds_toArray, List.set_cons_zero, List.set_cons_succ])
              replace BW := qd BW
              replace BA := BA.drew
              replace BX := BX.drew
              clear hHeld e0 e1 e2 e3
              generalize wF.drew = wd at *
              have BA8 := (((BA.set0 f.n).set1 f.i).set2 f.s).set3 f.g
              have BE : Below w.heap.size w ((((wd.setCell ⟨b2, 0, none⟩ (.int .i64 f.n)).setCell ⟨b2, 1, none⟩ (.int .i64 f.i)).setCell ⟨b2, 2, none⟩ (.int .i64 f.s)).setCell ⟨b2, 3, none⟩ (.bool f.g)) := (((BW.setCell hb2.out _).setCell hb2.out _).setCell hb2.out _).setCell hb2.out _
              have BX8 : Bx ((((wd.setCell ⟨b2, 0, none⟩ (.int .i64 f.n)).setCell ⟨b2, 1, none⟩ (.int .i64 f.i)).setCell ⟨b2, 2, none⟩ (.int .i64 f.s)).setCell ⟨b2, 3, none⟩ (.bool f.g)) bx f := (((BX.far hbx).far hbx).far hbx).far hbx
              have a0 := BA.c0
              have a1 := BA.c1
              have a2 := BA.c2
              have a3 := BA.c3
              have z0 := BA.z 0
              have z1 := BA.z 1
              have z2 := BA.z 2
              have z3 := BA.z 3
              refine wpAnyH_ready (rs := [14]) (by kernel_rfl) (by simp) ?_
              refine AllReadyH.cons (o := { dst := none, op := Go.Op.store 31 (Go.Operand.tmp 2) (Go.Operand.tmp 68), type := 0, pos := "l53_board.go:58", after := #[{ on := 0, ground := Go.Ground.data }, { on := 9, ground := Go.Ground.chain }, { on := 0, ground := Go.Ground.phase }, { on := 1, ground := Go.Ground.textOnly Go.Departure.lateStores }, { on := 2, ground := Go.Ground.textOnly Go.Departure.lateStores }, { on := 3, ground := Go.Ground.textOnly Go.Departure.lateStores }, { on := 4, ground := Go.Ground.textOnly Go.Departure.lateStores }, { on := 5, ground := Go.Ground.textOnly Go.Departure.lateStores }, { on := 6, ground := Go.Ground.textOnly Go.Departure.lateStores }, { on := 7, ground := Go.Ground.textOnly Go.Departure.lateStores }, { on := 8, ground := Go.Ground.textOnly Go.Departure.lateStores }, { on := 9, ground := Go.Ground.textOnly Go.Departure.lateStores }, { on := 10, ground := Go.Ground.textOnly Go.Departure.lateStores }, { on := 11, ground := Go.Ground.textOnly Go.Departure.lateStores }, { on := 12, ground := Go.Ground.textOnly Go.Departure.lateStores }, { on := 13, ground := Go.Ground.textOnly Go.Departure.lateStores }], guard := none }) rfl (fun K hK => ?_) (AllReadyH.nil)
              go_simp
              refine hK.out _ _ ?_ (fun hHeld => ?_)
              · exact ⟨BX8.c0, BX8.c1, BX8.c2, BX8.c3⟩
              clear hK K
              (try simp only [Act.put, List.setIfInBounds_toArray, List.set_cons_zero, List.set_cons_succ])
              refine wpAnyH_take (i := 15) (oi := { dst := some 3, op := Go.Op.assign (Go.Operand.tmp 81), type := 4, pos := "l53_board.go:58", after := #[{ on := 13, ground := Go.Ground.data }, { on := 14, ground := Go.Ground.chain }, { on := 0, ground := Go.Ground.phase }, { on := 1, ground := Go.Ground.phase }, { on := 2, ground := Go.Ground.phase }, { on := 3, ground := Go.Ground.phase }, { on := 4, ground := Go.Ground.phase }, { on := 5, ground := Go.Ground.phase }, { on := 6, ground := Go.Ground.phase }, { on := 7, ground := Go.Ground.phase }, { on := 8, ground := Go.Ground.phase }, { on := 9, ground := Go.Ground.phase }, { on := 10, ground := Go.Ground.phase }, { on := 11, ground := Go.Ground.phase }, { on := 12, ground := Go.Ground.phase }, { on := 13, ground := Go.Ground.phase }, { on := 14, ground := Go.Ground.phase }], guard := none }) (v := ?_) rfl (by kernel_rfl) (by kernel_rfl) (by kernel_rfl) (fun _ _ _ h => h) (Or.inl ⟨by rfl, ?_⟩) (by assumption) ?_
              rotate_left 1
              · (intro w hSw; (try dsimp only at hSw); go_simp; try with_reducible rfl)
              (try simp only [Act.put, List.setIfInBounds_toArray, List.set_cons_zero, List.set_cons_succ])
              refine wpAnyH_done (by kernel_rfl) ?_ _
              clear a0 a1 a2 a3 z0 z1 z2 z3 BA BW BX BX8 hHeld
              generalize ((((wd.setCell ⟨b2, 0, none⟩ (.int .i64 f.n)).setCell ⟨b2, 1, none⟩ (.int .i64 f.i)).setCell ⟨b2, 2, none⟩ (.int .i64 f.s)).setCell ⟨b2, 3, none⟩ (.bool f.g)) = w9 at *
              have a0 := BA8.c0
              have a1 := BA8.c1
              have a2 := BA8.c2
              have a3 := BA8.c3
              go_wp2
              exact bodyPost_ret (v := .tuple #[.agg #[.int .i64 f.n, .int .i64 f.i, .int .i64 f.s, .bool f.g], .bool false]) (by simp [results, Tryz.results10, go_sem, a0, a1, a2, a3]) rfl (Rev.of hv BE)
        · have hc2 : (pc.toList == [107, 101, 101, 112]) = false := by rw [beq_eq_false_iff_ne, ByteArray.toList_eq]; intro e; exact hc (ByteArray.ext (Array.toList_inj.1 e))
          have a0 := BX.c0
          have hNC := fun w => snum_lit pc nc lc hnc.out w
          go_wp2_with fail
          refine (hNC _).mono ?_
          rintro e w6 ⟨rfl, bb⟩
          replace BW := btrans BW bb
          replace BA := BA.below bb
          replace BX := BX.below bb
          clear bb a0 p2 hNC p0
          have BX8 := BX.set2 nc
          have BA8 : Bx (w6.setCell ⟨bx, 2, none⟩ (.int .i64 nc)) b2 ⟨0, 0, 0, false⟩ := BA.far (Ne.symm hbx)
          have BW8 : Below w.heap.size w (w6.setCell ⟨bx, 2, none⟩ (.int .i64 nc)) := BW.setCell (p := ⟨bx, 2, none⟩) hbxw.out _
          have a2 := BX.c2
          have z2 := BX.z 2
          obtain ⟨f, hf⟩ : ∃ f : Fc, f = ⟨ka, nb, nc, false⟩ := ⟨_, rfl⟩
          have hm1 : Hid (0 < f.n → 0 ≤ f.i → mvP (cutL 32 s.data.toList) = (f, decide (0 ≤ f.s))) := by
            intro h1 h2
            rw [hP.out]
            simp only [mvP]
            rw [hka.out, hnb.out, hnc.out, if_neg (fun h => hc (ByteArray.ext (Array.toList_inj.1 h.2))), hf]
            rw [hf] at h1 h2
            simp at h1 h2 ⊢
            exact fun _ => ⟨h1, h2⟩
          have hm0 : Hid (¬ (0 < f.n ∧ 0 ≤ f.i) → mvP (cutL 32 s.data.toList) = (f, false)) := by
            intro h1
            rw [hP.out]
            simp only [mvP]
            rw [hka.out, hnb.out, hnc.out, if_neg (fun h => hc (ByteArray.ext (Array.toList_inj.1 h.2))), hf]
            rw [hf] at h1
            simp at h1 ⊢
            intro h2 h3
            have := h1 h2
            omega
          rw [show (⟨ka, nb, nc, false⟩ : Fc) = f from hf.symm] at BX8
          clear hf hnb hP hka hnc
          go_wp2_with fail
          clear a2 z2 BA BX BW
          generalize (w6.setCell ⟨bx, 2, none⟩ (.int .i64 nc)) = wF at *
          have BA := BA8
          have BX := BX8
          have BW := BW8
          clear BA8 BX8 BW8
          have e0 := BX.c0
          have e1 := BX.c1
          have e2 := BX.c2
          have e3 := BX.c3
          by_cases hkn : 0 < f.n
          · by_cases hnb : 0 ≤ f.i
            · have hv : Hid (mvP (cutL 32 s.data.toList) = (f, decide (0 ≤ f.s))) := hm1.out hkn hnb
              clear hm1 hm0
              refine wp_region_held_drew (S := fun w' => w'.cell? ⟨bx, 0, none⟩ = some (.int .i64 f.n) ∧ w'.cell? ⟨bx, 1, none⟩ = some (.int .i64 f.i) ∧ w'.cell? ⟨bx, 2, none⟩ = some (.int .i64 f.s) ∧ w'.cell? ⟨bx, 3, none⟩ = some (.bool f.g)) (by kernel_rfl) ?_ (fun hHeld => ?_)
              · (try dsimp only); (refine ⟨?_, ?_, ?_, ?_⟩ <;> (repeat (first | with_reducible assumption | with_reducible refine keep_drew ?_ | with_reducible refine keep_below (by assumption) ?_)))
              refine wpAnyH_take (i := 0) (oi := { dst := some 68, op := Go.Op.load 31 (Go.Operand.tmp 5), type := 31, pos := "l53_board.go:58", after := #[], guard := none }) (v := ?_) rfl (by kernel_rfl) (by kernel_rfl) (by kernel_rfl) (fun _ _ _ h => h) (Or.inl ⟨by rfl, ?_⟩) (by assumption) ?_
              rotate_left 1
              · (intro w hSw; (try dsimp only at hSw); go_simp; try with_reducible rfl)
              (try simp only [Act.put, List.setIfInBounds_toArray, List.set_cons_zero, List.set_cons_succ])
              refine wpAnyH_take (i := 1) (oi := { dst := some 69, op := Go.Op.fieldAddr 31 (Go.Operand.tmp 5) 0, type := 0, pos := "l53_board.go:58", after := #[], guard := none }) (v := ?_) rfl (by kernel_rfl) (by kernel_rfl) (by kernel_rfl) (fun _ _ _ h => h) (Or.inl ⟨by rfl, ?_⟩) (by assumption) ?_
              rotate_left 1
              · (intro w hSw; (try dsimp only at hSw); go_simp; try with_reducible rfl)
              (try simp only [Act.put, List.setIfInBounds_toArray, List.set_cons_zero, List.set_cons_succ])
              refine wpAnyH_take (i := 2) (oi := { dst := some 70, op := Go.Op.load 3 (Go.Operand.tmp 69), type := 3, pos := "l53_board.go:58", after := #[{ on := 1, ground := Go.Ground.data }], guard := none }) (v := ?_) rfl (by kernel_rfl) (by kernel_rfl) (by kernel_rfl) (fun _ _ _ h => h) (Or.inl ⟨by rfl, ?_⟩) (by assumption) ?_
              rotate_left 1
              · (intro w hSw; (try dsimp only at hSw); go_simp; try with_reducible rfl)
              (try simp only [Act.put, List.setIfInBounds_toArray, List.set_cons_zero, List.set_cons_succ])
              refine wpAnyH_take (i := 3) (oi := { dst := some 71, op := Go.Op.binOp Go.BinOp.gtr 3 (Go.Operand.tmp 70) (Go.Operand.const (Go.Value.int Go.IntKind.i64 0)) 3, type := 4, pos := "l53_board.go:58", after := #[{ on := 2, ground := Go.Ground.data }], guard := none }) (v := ?_) rfl (by kernel_rfl) (by kernel_rfl) (by kernel_rfl) (fun _ _ _ h => h) (Or.inl ⟨by rfl, ?_⟩) (by assumption) ?_
              rotate_left 1
              · (intro w hSw; (try dsimp only at hSw); go_simp; try with_reducible rfl)
              (try simp only [Act.put, List.setIfInBounds_toArray, List.set_cons_zero, List.set_cons_succ])
              refine wpAnyH_take (i := 4) (oi := { dst := some 72, op := Go.Op.move (Go.Operand.tmp 71), type := 4, pos := "l53_board.go:58", after := #[{ on := 3, ground := Go.Ground.data }], guard := none }) (v := ?_) rfl (by kernel_rfl) (by kernel_rfl) (by kernel_rfl) (fun _ _ _ h => h) (Or.inl ⟨by rfl, ?_⟩) (by assumption) ?_
              rotate_left 1
              · (intro w hSw; (try dsimp only at hSw); go_simp; try with_reducible rfl)
              (try simp only [Act.put, List.setIfInBounds_toArray, List.set_cons_zero, List.set_cons_succ])
              refine wpAnyH_take (i := 5) (oi := { dst := some 73, op := Go.Op.fieldAddr 31 (Go.Operand.tmp 5) 1, type := 0, pos := "l53_board.go:58", after := #[{ on := 4, ground := Go.Ground.guard }], guard := some (4, true) }) (v := ?_) rfl (by kernel_rfl) (by kernel_rfl) (by kernel_rfl) (fun _ _ _ h => h) (Or.inl ⟨by rfl, ?_⟩) (by assumption) ?_
              rotate_left 1
              · (intro w hSw; (try dsimp only at hSw); go_simp; try with_reducible rfl)
              (try simp only [Act.put, List.setIfInBounds_toArray, List.set_cons_zero, List.set_cons_succ])
              refine wpAnyH_take (i := 6) (oi := { dst := some 74, op := Go.Op.load 3 (Go.Operand.tmp 73), type := 3, pos := "l53_board.go:58", after := #[{ on := 5, ground := Go.Ground.data }, { on := 4, ground := Go.Ground.guard }], guard := some (4, true) }) (v := ?_) rfl (by kernel_rfl) (by kernel_rfl) (by kernel_rfl) (fun _ _ _ h => h) (Or.inl ⟨by rfl, ?_⟩) (by assumption) ?_
              rotate_left 1
              · (intro w hSw; (try dsimp only at hSw); go_simp; try with_reducible rfl)
              (try simp only [Act.put, List.setIfInBounds_toArray, List.set_cons_zero, List.set_cons_succ])
              refine wpAnyH_take (i := 7) (oi := { dst := some 75, op := Go.Op.binOp Go.BinOp.geq 3 (Go.Operand.tmp 74) (Go.Operand.const (Go.Value.int Go.IntKind.i64 0)) 3, type := 4, pos := "l53_board.go:58", after := #[{ on := 6, ground := Go.Ground.data }, { on := 4, ground := Go.Ground.guard }], guard := some (4, true) }) (v := ?_) rfl (by kernel_rfl) (by kernel_rfl) (by kernel_rfl) (fun _ _ _ h => h) (Or.inl ⟨by rfl, ?_⟩) (by assumption) ?_
              rotate_left 1
              · (intro w hSw; (try dsimp only at hSw); go_simp; try with_reducible rfl)
              (try simp only [Act.put, List.setIfInBounds_toArray, List.set_cons_zero, List.set_cons_succ])
              refine wpAnyH_take (i := 8) (oi := { dst := some 76, op := Go.Op.pick (Go.Operand.tmp 72) (Go.Operand.tmp 75) (Go.Operand.const (Go.Value.bool false)), type := 4, pos := "l53_board.go:58", after := #[{ on := 4, ground := Go.Ground.data }, { on := 7, ground := Go.Ground.data }], guard := none }) (v := ?_) rfl (by kernel_rfl) (by kernel_rfl) (by kernel_rfl) (fun _ _ _ h => h) (Or.inl ⟨by rfl, ?_⟩) (by assumption) ?_
              rotate_left 1
              · (intro w hSw; (try dsimp only at hSw); go_simp; try with_reducible rfl)
              (try simp only [Act.put, List.setIfInBounds_toArray, List.set_cons_zero, List.set_cons_succ])
              refine wpAnyH_take (i := 9) (oi := { dst := some 77, op := Go.Op.move (Go.Operand.tmp 76), type := 4, pos := "l53_board.go:58", after := #[{ on := 8, ground := Go.Ground.data }, { on := 4, ground := Go.Ground.chain }], guard := none }) (v := ?_) rfl (by kernel_rfl) (by kernel_rfl) (by kernel_rfl) (fun _ _ _ h => h) (Or.inl ⟨by rfl, ?_⟩) (by assumption) ?_
              rotate_left 1
              · (intro w hSw; (try dsimp only at hSw); go_simp; try with_reducible rfl)
              (try simp only [Act.put, List.setIfInBounds_toArray, List.set_cons_zero, List.set_cons_succ])
              refine wpAnyH_take (i := 10) (oi := { dst := some 78, op := Go.Op.fieldAddr 31 (Go.Operand.tmp 5) 2, type := 0, pos := "l53_board.go:58", after := #[{ on := 9, ground := Go.Ground.guard }, { on := 14, ground := Go.Ground.gcOnly Go.Departure.lateStores }], guard := some (9, true) }) (v := ?_) rfl (by kernel_rfl) (by kernel_rfl) (by kernel_rfl) (fun _ _ _ h => h) (Or.inl ⟨by rfl, ?_⟩) (by assumption) ?_
              rotate_left 1
              · (intro w hSw; (try dsimp only at hSw); go_simp; try with_reducible rfl)
              (try simp only [Act.put, List.setIfInBounds_toArray, List.set_cons_zero, List.set_cons_succ])
              refine wpAnyH_take (i := 11) (oi := { dst := some 79, op := Go.Op.load 3 (Go.Operand.tmp 78), type := 3, pos := "l53_board.go:58", after := #[{ on := 10, ground := Go.Ground.data }, { on := 9, ground := Go.Ground.guard }, { on := 14, ground := Go.Ground.gcOnly Go.Departure.lateStores }], guard := some (9, true) }) (v := ?_) rfl (by kernel_rfl) (by kernel_rfl) (by kernel_rfl) (fun _ _ _ h => h) (Or.inl ⟨by rfl, ?_⟩) (by assumption) ?_
              rotate_left 1
              · (intro w hSw; (try dsimp only at hSw); go_simp; try with_reducible rfl)
              (try simp only [Act.put, List.setIfInBounds_toArray, List.set_cons_zero, List.set_cons_succ])
              refine wpAnyH_take (i := 12) (oi := { dst := some 80, op := Go.Op.binOp Go.BinOp.geq 3 (Go.Operand.tmp 79) (Go.Operand.const (Go.Value.int Go.IntKind.i64 0)) 3, type := 4, pos := "l53_board.go:58", after := #[{ on := 11, ground := Go.Ground.data }, { on := 9, ground := Go.Ground.guard }, { on := 14, ground := Go.Ground.gcOnly Go.Departure.lateStores }], guard := some (9, true) }) (v := ?_) rfl (by kernel_rfl) (by kernel_rfl) (by kernel_rfl) (fun _ _ _ h => h) (Or.inl ⟨by rfl, ?_⟩) (by assumption) ?_
              rotate_left 1
              · (intro w hSw; (try dsimp only at hSw); go_simp; try with_reducible rfl)
              (try simp only [Act.put, List.setIfInBounds_toArray, List.set_cons_zero, List.set_cons_succ])
              refine wpAnyH_take (i := 13) (oi := { dst := some 81, op := Go.Op.pick (Go.Operand.tmp 77) (Go.Operand.tmp 80) (Go.Operand.const (Go.Value.bool false)), type := 4, pos := "l53_board.go:58", after := #[{ on := 9, ground := Go.Ground.data }, { on := 12, ground := Go.Ground.data }, { on := 14, ground := Go.Ground.gcOnly Go.Departure.lateStores }], guard := none }) (v := ?_) rfl (by kernel_rfl) (by kernel_rfl) (by kernel_rfl) (fun _ _ _ h => h) (Or.inl ⟨by rfl, ?_⟩) (by assumption) ?_
              rotate_left 1
              · (intro w hSw; (try dsimp only at hSw); go_simp; try with_reducible rfl)
              (try simp only [Act.put, List.setIfInBounds_toArray, List.set_cons_zero, List.set_cons_succ])
              replace BW := qd BW
              replace BA := BA.drew
              replace BX := BX.drew
              clear hHeld e0 e1 e2 e3
              generalize wF.drew = wd at *
              have BA8 := (((BA.set0 f.n).set1 f.i).set2 f.s).set3 f.g
              have BE : Below w.heap.size w ((((wd.setCell ⟨b2, 0, none⟩ (.int .i64 f.n)).setCell ⟨b2, 1, none⟩ (.int .i64 f.i)).setCell ⟨b2, 2, none⟩ (.int .i64 f.s)).setCell ⟨b2, 3, none⟩ (.bool f.g)) := (((BW.setCell hb2.out _).setCell hb2.out _).setCell hb2.out _).setCell hb2.out _
              have BX8 : Bx ((((wd.setCell ⟨b2, 0, none⟩ (.int .i64 f.n)).setCell ⟨b2, 1, none⟩ (.int .i64 f.i)).setCell ⟨b2, 2, none⟩ (.int .i64 f.s)).setCell ⟨b2, 3, none⟩ (.bool f.g)) bx f := (((BX.far hbx).far hbx).far hbx).far hbx
              have a0 := BA.c0
              have a1 := BA.c1
              have a2 := BA.c2
              have a3 := BA.c3
              have z0 := BA.z 0
              have z1 := BA.z 1
              have z2 := BA.z 2
              have z3 := BA.z 3
              refine wpAnyH_ready (rs := [14]) (by kernel_rfl) (by simp) ?_
              refine AllReadyH.cons (o := { dst := none, op := Go.Op.store 31 (Go.Operand.tmp 2) (Go.Operand.tmp 68), type := 0, pos := "l53_board.go:58", after := #[{ on := 0, ground := Go.Ground.data }, { on := 9, ground := Go.Ground.chain }, { on := 0, ground := Go.Ground.phase }, { on := 1, ground := Go.Ground.textOnly Go.Departure.lateStores }, { on := 2, ground := Go.Ground.textOnly Go.Departure.lateStores }, { on := 3, ground := Go.Ground.textOnly Go.Departure.lateStores }, { on := 4, ground := Go.Ground.textOnly Go.Departure.lateStores }, { on := 5, ground := Go.Ground.textOnly Go.Departure.lateStores }, { on := 6, ground := Go.Ground.textOnly Go.Departure.lateStores }, { on := 7, ground := Go.Ground.textOnly Go.Departure.lateStores }, { on := 8, ground := Go.Ground.textOnly Go.Departure.lateStores }, { on := 9, ground := Go.Ground.textOnly Go.Departure.lateStores }, { on := 10, ground := Go.Ground.textOnly Go.Departure.lateStores }, { on := 11, ground := Go.Ground.textOnly Go.Departure.lateStores }, { on := 12, ground := Go.Ground.textOnly Go.Departure.lateStores }, { on := 13, ground := Go.Ground.textOnly Go.Departure.lateStores }], guard := none }) rfl (fun K hK => ?_) (AllReadyH.nil)
              go_simp
              refine hK.out _ _ ?_ (fun hHeld => ?_)
              · exact ⟨BX8.c0, BX8.c1, BX8.c2, BX8.c3⟩
              clear hK K
              (try simp only [Act.put, List.setIfInBounds_toArray, List.set_cons_zero, List.set_cons_succ])
              refine wpAnyH_take (i := 15) (oi := { dst := some 3, op := Go.Op.assign (Go.Operand.tmp 81), type := 4, pos := "l53_board.go:58", after := #[{ on := 13, ground := Go.Ground.data }, { on := 14, ground := Go.Ground.chain }, { on := 0, ground := Go.Ground.phase }, { on := 1, ground := Go.Ground.phase }, { on := 2, ground := Go.Ground.phase }, { on := 3, ground := Go.Ground.phase }, { on := 4, ground := Go.Ground.phase }, { on := 5, ground := Go.Ground.phase }, { on := 6, ground := Go.Ground.phase }, { on := 7, ground := Go.Ground.phase }, { on := 8, ground := Go.Ground.phase }, { on := 9, ground := Go.Ground.phase }, { on := 10, ground := Go.Ground.phase }, { on := 11, ground := Go.Ground.phase }, { on := 12, ground := Go.Ground.phase }, { on := 13, ground := Go.Ground.phase }, { on := 14, ground := Go.Ground.phase }], guard := none }) (v := ?_) rfl (by kernel_rfl) (by kernel_rfl) (by kernel_rfl) (fun _ _ _ h => h) (Or.inl ⟨by rfl, ?_⟩) (by assumption) ?_
              rotate_left 1
              · (intro w hSw; (try dsimp only at hSw); go_simp; try with_reducible rfl)
              (try simp only [Act.put, List.setIfInBounds_toArray, List.set_cons_zero, List.set_cons_succ])
              refine wpAnyH_done (by kernel_rfl) ?_ _
              clear a0 a1 a2 a3 z0 z1 z2 z3 BA BW BX BX8 hHeld
              generalize ((((wd.setCell ⟨b2, 0, none⟩ (.int .i64 f.n)).setCell ⟨b2, 1, none⟩ (.int .i64 f.i)).setCell ⟨b2, 2, none⟩ (.int .i64 f.s)).setCell ⟨b2, 3, none⟩ (.bool f.g)) = w9 at *
              have a0 := BA8.c0
              have a1 := BA8.c1
              have a2 := BA8.c2
              have a3 := BA8.c3
              go_wp2
              exact bodyPost_ret (v := .tuple #[.agg #[.int .i64 f.n, .int .i64 f.i, .int .i64 f.s, .bool f.g], .bool (decide (0 ≤ f.s))]) (by simp [results, Tryz.results10, go_sem, a0, a1, a2, a3]) rfl (Rev.of hv BE)
            · have hv : Hid (mvP (cutL 32 s.data.toList) = (f, false)) := hm0.out (fun h => hnb h.2)
              clear hm1 hm0
              refine wp_region_held_drew (S := fun w' => w'.cell? ⟨bx, 0, none⟩ = some (.int .i64 f.n) ∧ w'.cell? ⟨bx, 1, none⟩ = some (.int .i64 f.i) ∧ w'.cell? ⟨bx, 2, none⟩ = some (.int .i64 f.s) ∧ w'.cell? ⟨bx, 3, none⟩ = some (.bool f.g)) (by kernel_rfl) ?_ (fun hHeld => ?_)
              · (try dsimp only); (refine ⟨?_, ?_, ?_, ?_⟩ <;> (repeat (first | with_reducible assumption | with_reducible refine keep_drew ?_ | with_reducible refine keep_below (by assumption) ?_)))
              refine wpAnyH_take (i := 0) (oi := { dst := some 68, op := Go.Op.load 31 (Go.Operand.tmp 5), type := 31, pos := "l53_board.go:58", after := #[], guard := none }) (v := ?_) rfl (by kernel_rfl) (by kernel_rfl) (by kernel_rfl) (fun _ _ _ h => h) (Or.inl ⟨by rfl, ?_⟩) (by assumption) ?_
              rotate_left 1
              · (intro w hSw; (try dsimp only at hSw); go_simp; try with_reducible rfl)
              (try simp only [Act.put, List.setIfInBounds_toArray, List.set_cons_zero, List.set_cons_succ])
              refine wpAnyH_take (i := 1) (oi := { dst := some 69, op := Go.Op.fieldAddr 31 (Go.Operand.tmp 5) 0, type := 0, pos := "l53_board.go:58", after := #[], guard := none }) (v := ?_) rfl (by kernel_rfl) (by kernel_rfl) (by kernel_rfl) (fun _ _ _ h => h) (Or.inl ⟨by rfl, ?_⟩) (by assumption) ?_
              rotate_left 1
              · (intro w hSw; (try dsimp only at hSw); go_simp; try with_reducible rfl)
              (try simp only [Act.put, List.setIfInBounds_toArray, List.set_cons_zero, List.set_cons_succ])
              refine wpAnyH_take (i := 2) (oi := { dst := some 70, op := Go.Op.load 3 (Go.Operand.tmp 69), type := 3, pos := "l53_board.go:58", after := #[{ on := 1, ground := Go.Ground.data }], guard := none }) (v := ?_) rfl (by kernel_rfl) (by kernel_rfl) (by kernel_rfl) (fun _ _ _ h => h) (Or.inl ⟨by rfl, ?_⟩) (by assumption) ?_
              rotate_left 1
              · (intro w hSw; (try dsimp only at hSw); go_simp; try with_reducible rfl)
              (try simp only [Act.put, List.setIfInBounds_toArray, List.set_cons_zero, List.set_cons_succ])
              refine wpAnyH_take (i := 3) (oi := { dst := some 71, op := Go.Op.binOp Go.BinOp.gtr 3 (Go.Operand.tmp 70) (Go.Operand.const (Go.Value.int Go.IntKind.i64 0)) 3, type := 4, pos := "l53_board.go:58", after := #[{ on := 2, ground := Go.Ground.data }], guard := none }) (v := ?_) rfl (by kernel_rfl) (by kernel_rfl) (by kernel_rfl) (fun _ _ _ h => h) (Or.inl ⟨by rfl, ?_⟩) (by assumption) ?_
              rotate_left 1
              · (intro w hSw; (try dsimp only at hSw); go_simp; try with_reducible rfl)
              (try simp only [Act.put, List.setIfInBounds_toArray, List.set_cons_zero, List.set_cons_succ])
              refine wpAnyH_take (i := 4) (oi := { dst := some 72, op := Go.Op.move (Go.Operand.tmp 71), type := 4, pos := "l53_board.go:58", after := #[{ on := 3, ground := Go.Ground.data }], guard := none }) (v := ?_) rfl (by kernel_rfl) (by kernel_rfl) (by kernel_rfl) (fun _ _ _ h => h) (Or.inl ⟨by rfl, ?_⟩) (by assumption) ?_
              rotate_left 1
              · (intro w hSw; (try dsimp only at hSw); go_simp; try with_reducible rfl)
              (try simp only [Act.put, List.setIfInBounds_toArray, List.set_cons_zero, List.set_cons_succ])
              refine wpAnyH_take (i := 5) (oi := { dst := some 73, op := Go.Op.fieldAddr 31 (Go.Operand.tmp 5) 1, type := 0, pos := "l53_board.go:58", after := #[{ on := 4, ground := Go.Ground.guard }], guard := some (4, true) }) (v := ?_) rfl (by kernel_rfl) (by kernel_rfl) (by kernel_rfl) (fun _ _ _ h => h) (Or.inl ⟨by rfl, ?_⟩) (by assumption) ?_
              rotate_left 1
              · (intro w hSw; (try dsimp only at hSw); go_simp; try with_reducible rfl)
              (try simp only [Act.put, List.setIfInBounds_toArray, List.set_cons_zero, List.set_cons_succ])
              refine wpAnyH_take (i := 6) (oi := { dst := some 74, op := Go.Op.load 3 (Go.Operand.tmp 73), type := 3, pos := "l53_board.go:58", after := #[{ on := 5, ground := Go.Ground.data }, { on := 4, ground := Go.Ground.guard }], guard := some (4, true) }) (v := ?_) rfl (by kernel_rfl) (by kernel_rfl) (by kernel_rfl) (fun _ _ _ h => h) (Or.inl ⟨by rfl, ?_⟩) (by assumption) ?_
              rotate_left 1
              · (intro w hSw; (try dsimp only at hSw); go_simp; try with_reducible rfl)
              (try simp only [Act.put, List.setIfInBounds_toArray, List.set_cons_zero, List.set_cons_succ])
              refine wpAnyH_take (i := 7) (oi := { dst := some 75, op := Go.Op.binOp Go.BinOp.geq 3 (Go.Operand.tmp 74) (Go.Operand.const (Go.Value.int Go.IntKind.i64 0)) 3, type := 4, pos := "l53_board.go:58", after := #[{ on := 6, ground := Go.Ground.data }, { on := 4, ground := Go.Ground.guard }], guard := some (4, true) }) (v := ?_) rfl (by kernel_rfl) (by kernel_rfl) (by kernel_rfl) (fun _ _ _ h => h) (Or.inl ⟨by rfl, ?_⟩) (by assumption) ?_
              rotate_left 1
              · (intro w hSw; (try dsimp only at hSw); go_simp; try with_reducible rfl)
              (try simp only [Act.put, List.setIfInBounds_toArray, List.set_cons_zero, List.set_cons_succ])
              refine wpAnyH_take (i := 8) (oi := { dst := some 76, op := Go.Op.pick (Go.Operand.tmp 72) (Go.Operand.tmp 75) (Go.Operand.const (Go.Value.bool false)), type := 4, pos := "l53_board.go:58", after := #[{ on := 4, ground := Go.Ground.data }, { on := 7, ground := Go.Ground.data }], guard := none }) (v := ?_) rfl (by kernel_rfl) (by kernel_rfl) (by kernel_rfl) (fun _ _ _ h => h) (Or.inl ⟨by rfl, ?_⟩) (by assumption) ?_
              rotate_left 1
              · (intro w hSw; (try dsimp only at hSw); go_simp; try with_reducible rfl)
              (try simp only [Act.put, List.setIfInBounds_toArray, List.set_cons_zero, List.set_cons_succ])
              refine wpAnyH_take (i := 9) (oi := { dst := some 77, op := Go.Op.move (Go.Operand.tmp 76), type := 4, pos := "l53_board.go:58", after := #[{ on := 8, ground := Go.Ground.data }, { on := 4, ground := Go.Ground.chain }], guard := none }) (v := ?_) rfl (by kernel_rfl) (by kernel_rfl) (by kernel_rfl) (fun _ _ _ h => h) (Or.inl ⟨by rfl, ?_⟩) (by assumption) ?_
              rotate_left 1
              · (intro w hSw; (try dsimp only at hSw); go_simp; try with_reducible rfl)
              (try simp only [Act.put, List.setIfInBounds_toArray, List.set_cons_zero, List.set_cons_succ])
              refine wpAnyH_take (i := 10) (oi := { dst := some 78, op := Go.Op.fieldAddr 31 (Go.Operand.tmp 5) 2, type := 0, pos := "l53_board.go:58", after := #[{ on := 9, ground := Go.Ground.guard }, { on := 14, ground := Go.Ground.gcOnly Go.Departure.lateStores }], guard := some (9, true) }) (v := undef) rfl (by kernel_rfl) (by kernel_rfl) (by kernel_rfl) (fun _ _ _ h => h) (Or.inr ⟨by rfl, rfl⟩) (by assumption) ?_
              (try simp only [Act.put, List.setIfInBounds_toArray, List.set_cons_zero, List.set_cons_succ])
              refine wpAnyH_take (i := 11) (oi := { dst := some 79, op := Go.Op.load 3 (Go.Operand.tmp 78), type := 3, pos := "l53_board.go:58", after := #[{ on := 10, ground := Go.Ground.data }, { on := 9, ground := Go.Ground.guard }, { on := 14, ground := Go.Ground.gcOnly Go.Departure.lateStores }], guard := some (9, true) }) (v := undef) rfl (by kernel_rfl) (by kernel_rfl) (by kernel_rfl) (fun _ _ _ h => h) (Or.inr ⟨by rfl, rfl⟩) (by assumption) ?_
              (try simp only [Act.put, List.setIfInBounds_toArray, List.set_cons_zero, List.set_cons_succ])
              refine wpAnyH_take (i := 12) (oi := { dst := some 80, op := Go.Op.binOp Go.BinOp.geq 3 (Go.Operand.tmp 79) (Go.Operand.const (Go.Value.int Go.IntKind.i64 0)) 3, type := 4, pos := "l53_board.go:58", after := #[{ on := 11, ground := Go.Ground.data }, { on := 9, ground := Go.Ground.guard }, { on := 14, ground := Go.Ground.gcOnly Go.Departure.lateStores }], guard := some (9, true) }) (v := undef) rfl (by kernel_rfl) (by kernel_rfl) (by kernel_rfl) (fun _ _ _ h => h) (Or.inr ⟨by rfl, rfl⟩) (by assumption) ?_
              (try simp only [Act.put, List.setIfInBounds_toArray, List.set_cons_zero, List.set_cons_succ])
              refine wpAnyH_take (i := 13) (oi := { dst := some 81, op := Go.Op.pick (Go.Operand.tmp 77) (Go.Operand.tmp 80) (Go.Operand.const (Go.Value.bool false)), type := 4, pos := "l53_board.go:58", after := #[{ on := 9, ground := Go.Ground.data }, { on := 12, ground := Go.Ground.data }, { on := 14, ground := Go.Ground.gcOnly Go.Departure.lateStores }], guard := none }) (v := ?_) rfl (by kernel_rfl) (by kernel_rfl) (by kernel_rfl) (fun _ _ _ h => h) (Or.inl ⟨by rfl, ?_⟩) (by assumption) ?_
              rotate_left 1
              · (intro w hSw; (try dsimp only at hSw); go_simp; try with_reducible rfl)
              (try simp only [Act.put, List.setIfInBounds_toArray, List.set_cons_zero, List.set_cons_succ])
              replace BW := qd BW
              replace BA := BA.drew
              replace BX := BX.drew
              clear hHeld e0 e1 e2 e3
              generalize wF.drew = wd at *
              have BA8 := (((BA.set0 f.n).set1 f.i).set2 f.s).set3 f.g
              have BE : Below w.heap.size w ((((wd.setCell ⟨b2, 0, none⟩ (.int .i64 f.n)).setCell ⟨b2, 1, none⟩ (.int .i64 f.i)).setCell ⟨b2, 2, none⟩ (.int .i64 f.s)).setCell ⟨b2, 3, none⟩ (.bool f.g)) := (((BW.setCell hb2.out _).setCell hb2.out _).setCell hb2.out _).setCell hb2.out _
              have BX8 : Bx ((((wd.setCell ⟨b2, 0, none⟩ (.int .i64 f.n)).setCell ⟨b2, 1, none⟩ (.int .i64 f.i)).setCell ⟨b2, 2, none⟩ (.int .i64 f.s)).setCell ⟨b2, 3, none⟩ (.bool f.g)) bx f := (((BX.far hbx).far hbx).far hbx).far hbx
              have a0 := BA.c0
              have a1 := BA.c1
              have a2 := BA.c2
              have a3 := BA.c3
              have z0 := BA.z 0
              have z1 := BA.z 1
              have z2 := BA.z 2
              have z3 := BA.z 3
              refine wpAnyH_ready (rs := [14]) (by kernel_rfl) (by simp) ?_
              refine AllReadyH.cons (o := { dst := none, op := Go.Op.store 31 (Go.Operand.tmp 2) (Go.Operand.tmp 68), type := 0, pos := "l53_board.go:58", after := #[{ on := 0, ground := Go.Ground.data }, { on := 9, ground := Go.Ground.chain }, { on := 0, ground := Go.Ground.phase }, { on := 1, ground := Go.Ground.textOnly Go.Departure.lateStores }, { on := 2, ground := Go.Ground.textOnly Go.Departure.lateStores }, { on := 3, ground := Go.Ground.textOnly Go.Departure.lateStores }, { on := 4, ground := Go.Ground.textOnly Go.Departure.lateStores }, { on := 5, ground := Go.Ground.textOnly Go.Departure.lateStores }, { on := 6, ground := Go.Ground.textOnly Go.Departure.lateStores }, { on := 7, ground := Go.Ground.textOnly Go.Departure.lateStores }, { on := 8, ground := Go.Ground.textOnly Go.Departure.lateStores }, { on := 9, ground := Go.Ground.textOnly Go.Departure.lateStores }, { on := 10, ground := Go.Ground.textOnly Go.Departure.lateStores }, { on := 11, ground := Go.Ground.textOnly Go.Departure.lateStores }, { on := 12, ground := Go.Ground.textOnly Go.Departure.lateStores }, { on := 13, ground := Go.Ground.textOnly Go.Departure.lateStores }], guard := none }) rfl (fun K hK => ?_) (AllReadyH.nil)
              go_simp
              refine hK.out _ _ ?_ (fun hHeld => ?_)
              · exact ⟨BX8.c0, BX8.c1, BX8.c2, BX8.c3⟩
              clear hK K
              (try simp only [Act.put, List.setIfInBounds_toArray, List.set_cons_zero, List.set_cons_succ])
              refine wpAnyH_take (i := 15) (oi := { dst := some 3, op := Go.Op.assign (Go.Operand.tmp 81), type := 4, pos := "l53_board.go:58", after := #[{ on := 13, ground := Go.Ground.data }, { on := 14, ground := Go.Ground.chain }, { on := 0, ground := Go.Ground.phase }, { on := 1, ground := Go.Ground.phase }, { on := 2, ground := Go.Ground.phase }, { on := 3, ground := Go.Ground.phase }, { on := 4, ground := Go.Ground.phase }, { on := 5, ground := Go.Ground.phase }, { on := 6, ground := Go.Ground.phase }, { on := 7, ground := Go.Ground.phase }, { on := 8, ground := Go.Ground.phase }, { on := 9, ground := Go.Ground.phase }, { on := 10, ground := Go.Ground.phase }, { on := 11, ground := Go.Ground.phase }, { on := 12, ground := Go.Ground.phase }, { on := 13, ground := Go.Ground.phase }, { on := 14, ground := Go.Ground.phase }], guard := none }) (v := ?_) rfl (by kernel_rfl) (by kernel_rfl) (by kernel_rfl) (fun _ _ _ h => h) (Or.inl ⟨by rfl, ?_⟩) (by assumption) ?_
              rotate_left 1
              · (intro w hSw; (try dsimp only at hSw); go_simp; try with_reducible rfl)
              (try simp only [Act.put, List.setIfInBounds_toArray, List.set_cons_zero, List.set_cons_succ])
              refine wpAnyH_done (by kernel_rfl) ?_ _
              clear a0 a1 a2 a3 z0 z1 z2 z3 BA BW BX BX8 hHeld
              generalize ((((wd.setCell ⟨b2, 0, none⟩ (.int .i64 f.n)).setCell ⟨b2, 1, none⟩ (.int .i64 f.i)).setCell ⟨b2, 2, none⟩ (.int .i64 f.s)).setCell ⟨b2, 3, none⟩ (.bool f.g)) = w9 at *
              have a0 := BA8.c0
              have a1 := BA8.c1
              have a2 := BA8.c2
              have a3 := BA8.c3
              go_wp2
              exact bodyPost_ret (v := .tuple #[.agg #[.int .i64 f.n, .int .i64 f.i, .int .i64 f.s, .bool f.g], .bool false]) (by simp [results, Tryz.results10, go_sem, a0, a1, a2, a3]) rfl (Rev.of hv BE)
          · have hv : Hid (mvP (cutL 32 s.data.toList) = (f, false)) := hm0.out (fun h => hkn h.1)
            clear hm1 hm0
            refine wp_region_held_drew (S := fun w' => w'.cell? ⟨bx, 0, none⟩ = some (.int .i64 f.n) ∧ w'.cell? ⟨bx, 1, none⟩ = some (.int .i64 f.i) ∧ w'.cell? ⟨bx, 2, none⟩ = some (.int .i64 f.s) ∧ w'.cell? ⟨bx, 3, none⟩ = some (.bool f.g)) (by kernel_rfl) ?_ (fun hHeld => ?_)
            · (try dsimp only); (refine ⟨?_, ?_, ?_, ?_⟩ <;> (repeat (first | with_reducible assumption | with_reducible refine keep_drew ?_ | with_reducible refine keep_below (by assumption) ?_)))
            refine wpAnyH_take (i := 0) (oi := { dst := some 68, op := Go.Op.load 31 (Go.Operand.tmp 5), type := 31, pos := "l53_board.go:58", after := #[], guard := none }) (v := ?_) rfl (by kernel_rfl) (by kernel_rfl) (by kernel_rfl) (fun _ _ _ h => h) (Or.inl ⟨by rfl, ?_⟩) (by assumption) ?_
            rotate_left 1
            · (intro w hSw; (try dsimp only at hSw); go_simp; try with_reducible rfl)
            (try simp only [Act.put, List.setIfInBounds_toArray, List.set_cons_zero, List.set_cons_succ])
            refine wpAnyH_take (i := 1) (oi := { dst := some 69, op := Go.Op.fieldAddr 31 (Go.Operand.tmp 5) 0, type := 0, pos := "l53_board.go:58", after := #[], guard := none }) (v := ?_) rfl (by kernel_rfl) (by kernel_rfl) (by kernel_rfl) (fun _ _ _ h => h) (Or.inl ⟨by rfl, ?_⟩) (by assumption) ?_
            rotate_left 1
            · (intro w hSw; (try dsimp only at hSw); go_simp; try with_reducible rfl)
            (try simp only [Act.put, List.setIfInBounds_toArray, List.set_cons_zero, List.set_cons_succ])
            refine wpAnyH_take (i := 2) (oi := { dst := some 70, op := Go.Op.load 3 (Go.Operand.tmp 69), type := 3, pos := "l53_board.go:58", after := #[{ on := 1, ground := Go.Ground.data }], guard := none }) (v := ?_) rfl (by kernel_rfl) (by kernel_rfl) (by kernel_rfl) (fun _ _ _ h => h) (Or.inl ⟨by rfl, ?_⟩) (by assumption) ?_
            rotate_left 1
            · (intro w hSw; (try dsimp only at hSw); go_simp; try with_reducible rfl)
            (try simp only [Act.put, List.setIfInBounds_toArray, List.set_cons_zero, List.set_cons_succ])
            refine wpAnyH_take (i := 3) (oi := { dst := some 71, op := Go.Op.binOp Go.BinOp.gtr 3 (Go.Operand.tmp 70) (Go.Operand.const (Go.Value.int Go.IntKind.i64 0)) 3, type := 4, pos := "l53_board.go:58", after := #[{ on := 2, ground := Go.Ground.data }], guard := none }) (v := ?_) rfl (by kernel_rfl) (by kernel_rfl) (by kernel_rfl) (fun _ _ _ h => h) (Or.inl ⟨by rfl, ?_⟩) (by assumption) ?_
            rotate_left 1
            · (intro w hSw; (try dsimp only at hSw); go_simp; try with_reducible rfl)
            (try simp only [Act.put, List.setIfInBounds_toArray, List.set_cons_zero, List.set_cons_succ])
            refine wpAnyH_take (i := 4) (oi := { dst := some 72, op := Go.Op.move (Go.Operand.tmp 71), type := 4, pos := "l53_board.go:58", after := #[{ on := 3, ground := Go.Ground.data }], guard := none }) (v := ?_) rfl (by kernel_rfl) (by kernel_rfl) (by kernel_rfl) (fun _ _ _ h => h) (Or.inl ⟨by rfl, ?_⟩) (by assumption) ?_
            rotate_left 1
            · (intro w hSw; (try dsimp only at hSw); go_simp; try with_reducible rfl)
            (try simp only [Act.put, List.setIfInBounds_toArray, List.set_cons_zero, List.set_cons_succ])
            refine wpAnyH_take (i := 5) (oi := { dst := some 73, op := Go.Op.fieldAddr 31 (Go.Operand.tmp 5) 1, type := 0, pos := "l53_board.go:58", after := #[{ on := 4, ground := Go.Ground.guard }], guard := some (4, true) }) (v := undef) rfl (by kernel_rfl) (by kernel_rfl) (by kernel_rfl) (fun _ _ _ h => h) (Or.inr ⟨by rfl, rfl⟩) (by assumption) ?_
            (try simp only [Act.put, List.setIfInBounds_toArray, List.set_cons_zero, List.set_cons_succ])
            refine wpAnyH_take (i := 6) (oi := { dst := some 74, op := Go.Op.load 3 (Go.Operand.tmp 73), type := 3, pos := "l53_board.go:58", after := #[{ on := 5, ground := Go.Ground.data }, { on := 4, ground := Go.Ground.guard }], guard := some (4, true) }) (v := undef) rfl (by kernel_rfl) (by kernel_rfl) (by kernel_rfl) (fun _ _ _ h => h) (Or.inr ⟨by rfl, rfl⟩) (by assumption) ?_
            (try simp only [Act.put, List.setIfInBounds_toArray, List.set_cons_zero, List.set_cons_succ])
            refine wpAnyH_take (i := 7) (oi := { dst := some 75, op := Go.Op.binOp Go.BinOp.geq 3 (Go.Operand.tmp 74) (Go.Operand.const (Go.Value.int Go.IntKind.i64 0)) 3, type := 4, pos := "l53_board.go:58", after := #[{ on := 6, ground := Go.Ground.data }, { on := 4, ground := Go.Ground.guard }], guard := some (4, true) }) (v := undef) rfl (by kernel_rfl) (by kernel_rfl) (by kernel_rfl) (fun _ _ _ h => h) (Or.inr ⟨by rfl, rfl⟩) (by assumption) ?_
            (try simp only [Act.put, List.setIfInBounds_toArray, List.set_cons_zero, List.set_cons_succ])
            refine wpAnyH_take (i := 8) (oi := { dst := some 76, op := Go.Op.pick (Go.Operand.tmp 72) (Go.Operand.tmp 75) (Go.Operand.const (Go.Value.bool false)), type := 4, pos := "l53_board.go:58", after := #[{ on := 4, ground := Go.Ground.data }, { on := 7, ground := Go.Ground.data }], guard := none }) (v := ?_) rfl (by kernel_rfl) (by kernel_rfl) (by kernel_rfl) (fun _ _ _ h => h) (Or.inl ⟨by rfl, ?_⟩) (by assumption) ?_
            rotate_left 1
            · (intro w hSw; (try dsimp only at hSw); go_simp; try with_reducible rfl)
            (try simp only [Act.put, List.setIfInBounds_toArray, List.set_cons_zero, List.set_cons_succ])
            refine wpAnyH_take (i := 9) (oi := { dst := some 77, op := Go.Op.move (Go.Operand.tmp 76), type := 4, pos := "l53_board.go:58", after := #[{ on := 8, ground := Go.Ground.data }, { on := 4, ground := Go.Ground.chain }], guard := none }) (v := ?_) rfl (by kernel_rfl) (by kernel_rfl) (by kernel_rfl) (fun _ _ _ h => h) (Or.inl ⟨by rfl, ?_⟩) (by assumption) ?_
            rotate_left 1
            · (intro w hSw; (try dsimp only at hSw); go_simp; try with_reducible rfl)
            (try simp only [Act.put, List.setIfInBounds_toArray, List.set_cons_zero, List.set_cons_succ])
            refine wpAnyH_take (i := 10) (oi := { dst := some 78, op := Go.Op.fieldAddr 31 (Go.Operand.tmp 5) 2, type := 0, pos := "l53_board.go:58", after := #[{ on := 9, ground := Go.Ground.guard }, { on := 14, ground := Go.Ground.gcOnly Go.Departure.lateStores }], guard := some (9, true) }) (v := undef) rfl (by kernel_rfl) (by kernel_rfl) (by kernel_rfl) (fun _ _ _ h => h) (Or.inr ⟨by rfl, rfl⟩) (by assumption) ?_
            (try simp only [Act.put, List.setIfInBounds_toArray, List.set_cons_zero, List.set_cons_succ])
            refine wpAnyH_take (i := 11) (oi := { dst := some 79, op := Go.Op.load 3 (Go.Operand.tmp 78), type := 3, pos := "l53_board.go:58", after := #[{ on := 10, ground := Go.Ground.data }, { on := 9, ground := Go.Ground.guard }, { on := 14, ground := Go.Ground.gcOnly Go.Departure.lateStores }], guard := some (9, true) }) (v := undef) rfl (by kernel_rfl) (by kernel_rfl) (by kernel_rfl) (fun _ _ _ h => h) (Or.inr ⟨by rfl, rfl⟩) (by assumption) ?_
            (try simp only [Act.put, List.setIfInBounds_toArray, List.set_cons_zero, List.set_cons_succ])
            refine wpAnyH_take (i := 12) (oi := { dst := some 80, op := Go.Op.binOp Go.BinOp.geq 3 (Go.Operand.tmp 79) (Go.Operand.const (Go.Value.int Go.IntKind.i64 0)) 3, type := 4, pos := "l53_board.go:58", after := #[{ on := 11, ground := Go.Ground.data }, { on := 9, ground := Go.Ground.guard }, { on := 14, ground := Go.Ground.gcOnly Go.Departure.lateStores }], guard := some (9, true) }) (v := undef) rfl (by kernel_rfl) (by kernel_rfl) (by kernel_rfl) (fun _ _ _ h => h) (Or.inr ⟨by rfl, rfl⟩) (by assumption) ?_
            (try simp only [Act.put, List.setIfInBounds_toArray, List.set_cons_zero, List.set_cons_succ])
            refine wpAnyH_take (i := 13) (oi := { dst := some 81, op := Go.Op.pick (Go.Operand.tmp 77) (Go.Operand.tmp 80) (Go.Operand.const (Go.Value.bool false)), type := 4, pos := "l53_board.go:58", after := #[{ on := 9, ground := Go.Ground.data }, { on := 12, ground := Go.Ground.data }, { on := 14, ground := Go.Ground.gcOnly Go.Departure.lateStores }], guard := none }) (v := ?_) rfl (by kernel_rfl) (by kernel_rfl) (by kernel_rfl) (fun _ _ _ h => h) (Or.inl ⟨by rfl, ?_⟩) (by assumption) ?_
            rotate_left 1
            · (intro w hSw; (try dsimp only at hSw); go_simp; try with_reducible rfl)
            (try simp only [Act.put, List.setIfInBounds_toArray, List.set_cons_zero, List.set_cons_succ])
            replace BW := qd BW
            replace BA := BA.drew
            replace BX := BX.drew
            clear hHeld e0 e1 e2 e3
            generalize wF.drew = wd at *
            have BA8 := (((BA.set0 f.n).set1 f.i).set2 f.s).set3 f.g
            have BE : Below w.heap.size w ((((wd.setCell ⟨b2, 0, none⟩ (.int .i64 f.n)).setCell ⟨b2, 1, none⟩ (.int .i64 f.i)).setCell ⟨b2, 2, none⟩ (.int .i64 f.s)).setCell ⟨b2, 3, none⟩ (.bool f.g)) := (((BW.setCell hb2.out _).setCell hb2.out _).setCell hb2.out _).setCell hb2.out _
            have BX8 : Bx ((((wd.setCell ⟨b2, 0, none⟩ (.int .i64 f.n)).setCell ⟨b2, 1, none⟩ (.int .i64 f.i)).setCell ⟨b2, 2, none⟩ (.int .i64 f.s)).setCell ⟨b2, 3, none⟩ (.bool f.g)) bx f := (((BX.far hbx).far hbx).far hbx).far hbx
            have a0 := BA.c0
            have a1 := BA.c1
            have a2 := BA.c2
            have a3 := BA.c3
            have z0 := BA.z 0
            have z1 := BA.z 1
            have z2 := BA.z 2
            have z3 := BA.z 3
            refine wpAnyH_ready (rs := [14]) (by kernel_rfl) (by simp) ?_
            refine AllReadyH.cons (o := { dst := none, op := Go.Op.store 31 (Go.Operand.tmp 2) (Go.Operand.tmp 68), type := 0, pos := "l53_board.go:58", after := #[{ on := 0, ground := Go.Ground.data }, { on := 9, ground := Go.Ground.chain }, { on := 0, ground := Go.Ground.phase }, { on := 1, ground := Go.Ground.textOnly Go.Departure.lateStores }, { on := 2, ground := Go.Ground.textOnly Go.Departure.lateStores }, { on := 3, ground := Go.Ground.textOnly Go.Departure.lateStores }, { on := 4, ground := Go.Ground.textOnly Go.Departure.lateStores }, { on := 5, ground := Go.Ground.textOnly Go.Departure.lateStores }, { on := 6, ground := Go.Ground.textOnly Go.Departure.lateStores }, { on := 7, ground := Go.Ground.textOnly Go.Departure.lateStores }, { on := 8, ground := Go.Ground.textOnly Go.Departure.lateStores }, { on := 9, ground := Go.Ground.textOnly Go.Departure.lateStores }, { on := 10, ground := Go.Ground.textOnly Go.Departure.lateStores }, { on := 11, ground := Go.Ground.textOnly Go.Departure.lateStores }, { on := 12, ground := Go.Ground.textOnly Go.Departure.lateStores }, { on := 13, ground := Go.Ground.textOnly Go.Departure.lateStores }], guard := none }) rfl (fun K hK => ?_) (AllReadyH.nil)
            go_simp
            refine hK.out _ _ ?_ (fun hHeld => ?_)
            · exact ⟨BX8.c0, BX8.c1, BX8.c2, BX8.c3⟩
            clear hK K
            (try simp only [Act.put, List.setIfInBounds_toArray, List.set_cons_zero, List.set_cons_succ])
            refine wpAnyH_take (i := 15) (oi := { dst := some 3, op := Go.Op.assign (Go.Operand.tmp 81), type := 4, pos := "l53_board.go:58", after := #[{ on := 13, ground := Go.Ground.data }, { on := 14, ground := Go.Ground.chain }, { on := 0, ground := Go.Ground.phase }, { on := 1, ground := Go.Ground.phase }, { on := 2, ground := Go.Ground.phase }, { on := 3, ground := Go.Ground.phase }, { on := 4, ground := Go.Ground.phase }, { on := 5, ground := Go.Ground.phase }, { on := 6, ground := Go.Ground.phase }, { on := 7, ground := Go.Ground.phase }, { on := 8, ground := Go.Ground.phase }, { on := 9, ground := Go.Ground.phase }, { on := 10, ground := Go.Ground.phase }, { on := 11, ground := Go.Ground.phase }, { on := 12, ground := Go.Ground.phase }, { on := 13, ground := Go.Ground.phase }, { on := 14, ground := Go.Ground.phase }], guard := none }) (v := ?_) rfl (by kernel_rfl) (by kernel_rfl) (by kernel_rfl) (fun _ _ _ h => h) (Or.inl ⟨by rfl, ?_⟩) (by assumption) ?_
            rotate_left 1
            · (intro w hSw; (try dsimp only at hSw); go_simp; try with_reducible rfl)
            (try simp only [Act.put, List.setIfInBounds_toArray, List.set_cons_zero, List.set_cons_succ])
            refine wpAnyH_done (by kernel_rfl) ?_ _
            clear a0 a1 a2 a3 z0 z1 z2 z3 BA BW BX BX8 hHeld
            generalize ((((wd.setCell ⟨b2, 0, none⟩ (.int .i64 f.n)).setCell ⟨b2, 1, none⟩ (.int .i64 f.i)).setCell ⟨b2, 2, none⟩ (.int .i64 f.s)).setCell ⟨b2, 3, none⟩ (.bool f.g)) = w9 at *
            have a0 := BA8.c0
            have a1 := BA8.c1
            have a2 := BA8.c2
            have a3 := BA8.c3
            go_wp2
            exact bodyPost_ret (v := .tuple #[.agg #[.int .i64 f.n, .int .i64 f.i, .int .i64 f.s, .bool f.g], .bool false]) (by simp [results, Tryz.results10, go_sem, a0, a1, a2, a3]) rfl (Rev.of hv BE)
  · have hv : Hid (mvP (cutL 32 s.data.toList) = (⟨0, 0, 0, false⟩, false)) := by unfold Hid; rw [hP.out]; exact mvP_other (by simp) (by simp)
    clear hP
    obtain ⟨n0, hn0⟩ : ∃ n0 : Nat, (r.length + 4) = n0 := ⟨_, rfl⟩
    have hl0 : ((a :: b :: c :: d :: r) : List (List UInt8)).length = n0 := by rw [← hn0]; rfl
    have g1 : ¬ (n0 : Int) < 2 := by omega
    have g2 : (3 : Int) < (n0 : Int) := by omega
    rw [hl0]
    clear hpc hms hn0 hl0
    have BA8 := (((BA.set0 0).set1 0).set2 0).set3 false
    have BE : Below w.heap.size w ((((w1.setCell ⟨b2, 0, none⟩ (.int .i64 0)).setCell ⟨b2, 1, none⟩ (.int .i64 0)).setCell ⟨b2, 2, none⟩ (.int .i64 0)).setCell ⟨b2, 3, none⟩ (.bool false)) := (((BW.setCell hb2.out _).setCell hb2.out _).setCell hb2.out _).setCell hb2.out _
    have a0 := BA.c0
    have a1 := BA.c1
    have a2 := BA.c2
    have a3 := BA.c3
    have z0 := BA.z 0
    have z1 := BA.z 1
    have z2 := BA.z 2
    have z3 := BA.z 3
    go_wp2
    clear a0 a1 a2 a3 z0 z1 z2 z3 BA BW
    generalize ((((w1.setCell ⟨b2, 0, none⟩ (.int .i64 0)).setCell ⟨b2, 1, none⟩ (.int .i64 0)).setCell ⟨b2, 2, none⟩ (.int .i64 0)).setCell ⟨b2, 3, none⟩ (.bool false)) = w9 at *
    have a0 := BA8.c0
    have a1 := BA8.c1
    have a2 := BA8.c2
    have a3 := BA8.c3
    exact bodyPost_ret (v := .tuple #[.agg #[.int .i64 0, .int .i64 0, .int .i64 0, .bool false], .bool false]) (by simp [results, Tryz.results10, go_sem, a0, a1, a2, a3]) rfl (Rev.of hv BE)
end Go.Proofs.YtlebggbbhkiokaaGreatDoor
