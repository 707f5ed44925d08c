/- Where somebody is behind a trip: the program, where both coordinates are ok and the trip can have been. -/
import Derived.Test.YtajcjanfllpcgaaDoorPush
import Derived.LoopTactic
import Derived.WalkKit
import Derived.ProofKit
import Derived.WalkLawsBesides

import Derived.Deep.QuietTactic
import Derived.BigQuiet
import Derived.Deep.RegionHeld3
import Derived.Deep.DrawnRows
import Derived.Deep.DeepCutAuto
import Derived.Laws.BitsLemmas
namespace Go.Proofs.YtajcjanfllpcgaaDoor
open Go.ChangeShapes Go.WideShapes Go.ChangeAt Go.RowKit

attribute [local go_sem ↓] Go.wp_at_zero Go.wp_at_succ
def AGG (a b c d : Int) : Value := .agg #[.int .i64 a, .int .i64 b, .int .i64 c, .int .i64 d]
/-- what is wrong, the force, and the parts of where somebody is behind a trip -/
def mN (ax ay bx b_y : Int) : Int := M.isq ((ax - bx) * (ax - bx) + (ay - b_y) * (ay - b_y))
def mW (ax ay ah bx b_y bh trip : Int) : Int := trip - (mN ax ay bx b_y + ah + bh)
def mF (ax ay ah ae bx b_y bh be trip : Int) : Int := M.fo (mW ax ay ah bx b_y bh trip) ae (ae + be)
def mX (ax ay ah ae bx b_y bh be trip turn : Int) : Int := M.box (ax + (pf (mN ax ay bx b_y) (mF ax ay ah ae bx b_y bh be trip) * px (mN ax ay bx b_y) (ax - bx) (mF ax ay ah ae bx b_y bh be trip) (turn % 4)).tdiv (pl (mN ax ay bx b_y))) (-100000) 100000
def mY (ax ay ah ae bx b_y bh be trip turn : Int) : Int := M.box (ay + (pf (mN ax ay bx b_y) (mF ax ay ah ae bx b_y bh be trip) * py (mN ax ay bx b_y) (ay - b_y) (mF ax ay ah ae bx b_y bh be trip) (turn % 4)).tdiv (pl (mN ax ay bx b_y))) (-100000) 100000
def mH (ax ay ah ae bx b_y bh be trip : Int) : Int := M.box (ah + (pf (mN ax ay bx b_y) (mF ax ay ah ae bx b_y bh be trip)).tdiv 4) 0 100000
def nowOf (wr trip : Int) : Int := if 1500 < (M.ab wr * 1000).tdiv trip then 1500 else (M.ab wr * 1000).tdiv trip
def mE (ax ay ah ae bx b_y bh be trip : Int) : Int := M.box (ae + M.fo (nowOf (mW ax ay ah bx b_y bh trip) trip - ae) ae (ae + be)) 1 1500
theorem turns_alloc {w : World} (o : Obj) (h : Turns w) : Turns (w.alloc o) := by
  obtain ⟨t0, t1, t2, t3, t4, t5, t6, t7⟩ := h
  exact ⟨keep_alloc _ t0, keep_alloc _ t1, keep_alloc _ t2, keep_alloc _ t3, keep_alloc _ t4, keep_alloc _ t5, keep_alloc _ t6, keep_alloc _ t7⟩
theorem turns_drew {w : World} (h : Turns w) : Turns w.drew := h
theorem turns_below {w w' : World} (h : Turns w) (hb : Below w.heap.size w w') : Turns w' := by
  have hs : 0 < w.heap.size := World.block_lt_of_cell? w _ h.1
  obtain ⟨hc, _⟩ := bcell hb
  unfold Turns
  rw [hc _ _ hs, hc _ _ hs, hc _ _ hs, hc _ _ hs, hc _ _ hs, hc _ _ hs, hc _ _ hs, hc _ _ hs]
  exact h
theorem tx_bd (k : Int) : -1 ≤ tx k ∧ tx k ≤ 1 := by unfold tx; split <;> (try split) <;> omega
theorem ty_bd (k : Int) : -1 ≤ ty k ∧ ty k ≤ 1 := by unfold ty; split <;> (try split) <;> omega
theorem px_bd (n x fr k : Int) (h1 : -200000 ≤ x) (h2 : x ≤ 200000) : -200000 ≤ px n x fr k ∧ px n x fr k ≤ 200000 := by
  have := tx_bd k
  unfold px; split <;> (try split) <;> omega
theorem py_bd (n y fr k : Int) (h1 : -200000 ≤ y) (h2 : y ≤ 200000) : -200000 ≤ py n y fr k ∧ py n y fr k ≤ 200000 := by
  have := ty_bd k
  unfold py; split <;> (try split) <;> omega
theorem pl_pos (n : Int) (h : 0 ≤ n) : 1 ≤ pl n := by unfold pl; split <;> omega
theorem pf_bd (n fr : Int) (h0 : 0 ≤ n) (h1 : n ≤ 400000) (h2 : -1000000 ≤ fr) (h3 : fr ≤ 1000000) : -1000000 ≤ pf n fr ∧ pf n fr ≤ 1000000 := by
  unfold pf; split <;> (try split) <;> omega
theorem fo_bd (wr e s : Int) (he : 0 ≤ e) (hs : e < s) (h1 : -1000000 ≤ wr) (h2 : wr ≤ 1000000) : -1000000 ≤ M.fo wr e s ∧ M.fo wr e s ≤ 1000000 := by
  by_cases h : 0 ≤ wr
  · have := M.fo_pos h he hs; omega
  · have := M.fo_neg (wrong := wr) (by omega) he hs; omega
theorem ite_ab (W : Int) : (if W < -W then -W else W) = M.ab W := by unfold M.ab; split <;> split <;> omega
theorem nowOf_eq {W trip : Int} (h : 1 ≤ trip) : nowOf W trip = if 1500 < (if W < -W then -W else W) * 1000 / trip then 1500 else (if W < -W then -W else W) * 1000 / trip := by
  rw [ite_ab]; unfold nowOf; rw [M.tdiv_nn (by have := M.ab_nonneg W; omega) (by omega)]
theorem now_big {W trip : Int} (h : 1 ≤ trip) (h1 : 1500 < (if W < -W then -W else W) * 1000 / trip) : 1500 = nowOf W trip := by rw [nowOf_eq h, if_pos h1]
theorem now_s1 {W trip : Int} (h : 1 ≤ trip) (h1 : (if W < -W then -W else W) * 1000 / trip ≤ 1500) (h2 : W < -W) : -W * 1000 / trip = nowOf W trip := by
  rw [nowOf_eq h, if_neg (by omega), if_pos h2]
theorem now_s2 {W trip : Int} (h : 1 ≤ trip) (h1 : (if W < -W then -W else W) * 1000 / trip ≤ 1500) (h2 : -W ≤ W) : W * 1000 / trip = nowOf W trip := by
  rw [nowOf_eq h, if_neg (by omega), if_neg (by omega)]
theorem now_bd (W trip : Int) (h : 1 ≤ trip) (h1 : -1000000 ≤ W) (h2 : W ≤ 1000000) : 0 ≤ nowOf W trip ∧ nowOf W trip ≤ 1500 := by
  rw [nowOf_eq h]
  have := Int.ediv_nonneg (a := (if W < -W then -W else W) * 1000) (b := trip) (by omega) (by omega)
  generalize (if W < -W then -W else W) * 1000 / trip = t at *
  split <;> omega
theorem keepf_alloc {w : World} {a : Addr} {v : Value} (o : Obj) (h : w.cell? a = some v ∧ w.frozen? a = false) : (w.alloc o).cell? a = some v ∧ (w.alloc o).frozen? a = false :=
  ⟨keep_alloc o h.1, (World.frozen?_of_block (w := w) (Below.heap_alloc w o a.block (World.block_lt_of_cell? w a h.1))).trans h.2⟩
theorem keepf_drew {w : World} {a : Addr} {v : Value} (h : w.cell? a = some v ∧ w.frozen? a = false) : w.drew.cell? a = some v ∧ w.drew.frozen? a = false := h
theorem keep_set' {w : World} {b o b' o' : Nat} {v : Value} (u : Value) (hp : b ≠ b') (h : w.cell? ⟨b, o, none⟩ = some v) : (w.setCell ⟨b', o', none⟩ u).cell? ⟨b, o, none⟩ = some v := (cell_far u (show b ≠ b' from hp)).trans h
theorem field_one (t : Int) (w : World) : (Instr.field 45 (.agg #[.int .i64 t]) 0).run Tryd.prog w = .ok (.int .i64 t) w := by kernel_rfl
set_option maxRecDepth 100000 in
set_option maxHeartbeats 4000000 in
theorem fmove_yes (ax ay ah ae bx b_y bh be trip turn : Int) (w : World) (ht : Turns w) (ka : cok ax ay ah ae = true) (kb : cok bx b_y bh be = true) (kt : inb trip 1 60000 = true) :
    Calls Tryd.prog 10 #[.agg #[.int .i64 ax, .int .i64 ay, .int .i64 ah, .int .i64 ae], .agg #[.int .i64 bx, .int .i64 b_y, .int .i64 bh, .int .i64 be], .int .i64 trip, .int .i64 turn] w fun r w' => r = .returned (.agg #[.int .i64 (mX ax ay ah ae bx b_y bh be trip turn), .int .i64 (mY ax ay ah ae bx b_y bh be trip turn), .int .i64 (mH ax ay ah ae bx b_y bh be trip), .int .i64 (mE ax ay ah ae bx b_y bh be trip)]) ∧ Below w.heap.size w w' := by
  have ha := cok_bd ka
  have hb := cok_bd kb
  have htr : 1 ≤ trip ∧ trip ≤ 60000 := by simpa [inb] using kt
  go_enter Tryd.func10, Tryd.ntmps10
  go_wp2_with fail
  refine (fok_any _ _ _ _ _).mono ?_
  rintro r w1 ⟨rfl, b1⟩
  obtain ⟨hc1, hf1⟩ := bcell b1
  have s1 := b1.size
  go_wp2_with fail
  refine (fok_any _ _ _ _ _).mono ?_
  rintro r w2 ⟨rfl, b2⟩
  have b02 := b1.trans (b2.mono b1.size)
  obtain ⟨hc2, hf2⟩ := bcell b02
  have s2 := b02.size
  simp at s2
  have p0 : w2.cell? ⟨w.heap.size, 0, none⟩ = some (.int .i64 ax) := by rw [hc2 _ _ (by simp; omega)]; simp [go_sem]
  have p1 : w2.cell? ⟨w.heap.size, 1, none⟩ = some (.int .i64 ay) := by rw [hc2 _ _ (by simp; omega)]; simp [go_sem]
  have p2 : w2.cell? ⟨w.heap.size, 2, none⟩ = some (.int .i64 ah) := by rw [hc2 _ _ (by simp; omega)]; simp [go_sem]
  have p3 : w2.cell? ⟨w.heap.size, 3, none⟩ = some (.int .i64 ae) := by rw [hc2 _ _ (by simp; omega)]; simp [go_sem]
  have q0 : w2.cell? ⟨w.heap.size + 1, 0, none⟩ = some (.int .i64 bx) := by rw [hc2 _ _ (by simp)]; simp [go_sem]
  have q1 : w2.cell? ⟨w.heap.size + 1, 1, none⟩ = some (.int .i64 b_y) := by rw [hc2 _ _ (by simp)]; simp [go_sem]
  have q2 : w2.cell? ⟨w.heap.size + 1, 2, none⟩ = some (.int .i64 bh) := by rw [hc2 _ _ (by simp)]; simp [go_sem]
  have q3 : w2.cell? ⟨w.heap.size + 1, 3, none⟩ = some (.int .i64 be) := by rw [hc2 _ _ (by simp)]; simp [go_sem]
  have r0 : w2.cell? ⟨w.heap.size + 1 + 1, 0, none⟩ = some (.int .i64 0) ∧ w2.frozen? ⟨w.heap.size + 1 + 1, 0, none⟩ = false := ⟨by rw [hc2 _ _ (by simp)]; simp [go_sem], by rw [hf2 _ _ (by simp)]; simp [go_sem]⟩
  have r1 : w2.cell? ⟨w.heap.size + 1 + 1, 1, none⟩ = some (.int .i64 0) ∧ w2.frozen? ⟨w.heap.size + 1 + 1, 1, none⟩ = false := ⟨by rw [hc2 _ _ (by simp)]; simp [go_sem], by rw [hf2 _ _ (by simp)]; simp [go_sem]⟩
  have r2 : w2.cell? ⟨w.heap.size + 1 + 1, 2, none⟩ = some (.int .i64 0) ∧ w2.frozen? ⟨w.heap.size + 1 + 1, 2, none⟩ = false := ⟨by rw [hc2 _ _ (by simp)]; simp [go_sem], by rw [hf2 _ _ (by simp)]; simp [go_sem]⟩
  have r3 : w2.cell? ⟨w.heap.size + 1 + 1, 3, none⟩ = some (.int .i64 0) ∧ w2.frozen? ⟨w.heap.size + 1 + 1, 3, none⟩ = false := ⟨by rw [hc2 _ _ (by simp)]; simp [go_sem], by rw [hf2 _ _ (by simp)]; simp [go_sem]⟩
  clear hc1 hf1 hc2 hf2 s1
  have bw : Below w.heap.size w w2 := (balloc _ (balloc _ (balloc _ (Below.refl _ _)))).trans (b02.mono (by simp; omega))
  clear b1 b2 b02
  go_upto_region 5 with (go_at_call 24; refine (within_any _ _ _ _).mono ?_; rintro e w' ⟨rfl, hw⟩; obtain rfl := hw.symm)
  have n0 := World.new_ne w2 ⟨w.heap.size, 0, none⟩ p0
  have n1 := World.new_ne w2 ⟨w.heap.size + 1, 0, none⟩ q0
  go_cut [9, 10] (fun s5 s6 wx => ∃ b5 b6 : Nat, s5 = .pointer (some ⟨b5, 0, none⟩) ∧ s6 = .pointer (some ⟨b6, 0, none⟩) ∧ At4 wx b5 ax ay ah ae ∧ At4 wx b6 bx b_y bh be ∧ Below w2.heap.size w2 wx ∧ w2.heap.size ≤ b5 ∧ w2.heap.size ≤ b6)
  case first =>
    go_region_held3 (fun w' => w'.cell? ⟨w.heap.size, 0, none⟩ = some (.int .i64 ax) ∧ w'.cell? ⟨w.heap.size, 1, none⟩ = some (.int .i64 ay) ∧ w'.cell? ⟨w.heap.size, 2, none⟩ = some (.int .i64 ah) ∧ w'.cell? ⟨w.heap.size, 3, none⟩ = some (.int .i64 ae) ∧ w'.cell? ⟨w.heap.size + 1, 0, none⟩ = some (.int .i64 bx) ∧ w'.cell? ⟨w.heap.size + 1, 1, none⟩ = some (.int .i64 b_y) ∧ w'.cell? ⟨w.heap.size + 1, 2, none⟩ = some (.int .i64 bh) ∧ w'.cell? ⟨w.heap.size + 1, 3, none⟩ = some (.int .i64 be)) (refine ⟨?_, ?_, ?_, ?_, ?_, ?_, ?_, ?_⟩ <;> (repeat (first | with_reducible assumption | with_reducible refine keep_alloc _ ?_ | with_reducible refine keep_drew ?_))) (first | (go_at_call 25; refine (stand_any _ _ _ _ _).mono ?_; rintro e w' ⟨rfl, rfl⟩))
    all_goals (go_wp2_with fail; go_meet)
    all_goals refine ⟨_, _, rfl, rfl, ⟨by simp [go_sem], by simp [go_sem], by simp [go_sem], by simp [go_sem]⟩, ⟨by simp [go_sem], by simp [go_sem], by simp [go_sem], by simp [go_sem]⟩, ?_, by omega, by omega⟩
    all_goals (refine Below.drew ?_; repeat (first | exact Below.refl _ _ | refine balloc _ ?_))
  case rest =>
    obtain ⟨b5, b6, rfl, rfl, ⟨x0, x1, x2, x3⟩, ⟨y0, y1, y2, y3⟩, bx5, g5, g6⟩ := hcut
    have d5 : b5 ≠ w.heap.size + 1 + 1 := by omega
    have d6 : b6 ≠ w.heap.size + 1 + 1 := by omega
    clear g5 g6
    clear n0 n1
    obtain ⟨hc5, hf5⟩ := bcell bx5
    rw [← hc5 _ _ (by omega)] at p0
    rw [← hc5 _ _ (by omega)] at p1
    rw [← hc5 _ _ (by omega)] at p2
    rw [← hc5 _ _ (by omega)] at p3
    rw [← hc5 _ _ (by omega)] at q0
    rw [← hc5 _ _ (by omega)] at q1
    rw [← hc5 _ _ (by omega)] at q2
    rw [← hc5 _ _ (by omega)] at q3
    rw [← hc5 _ _ (by omega), ← hf5 _ _ (by omega)] at r0
    rw [← hc5 _ _ (by omega), ← hf5 _ _ (by omega)] at r1
    rw [← hc5 _ _ (by omega), ← hf5 _ _ (by omega)] at r2
    rw [← hc5 _ _ (by omega), ← hf5 _ _ (by omega)] at r3
    have s5 := bx5.size
    have bw5 := bw.trans (bx5.mono bw.size)
    clear hc5 hf5 bx5 bw
    have hd : dst ax ay ah ae bx b_y bh be = mN ax ay bx b_y + ah + bh := by unfold dst mN; rw [if_pos (by simp [ka, kb])]
    have hN := nm_eq (ax - bx) (ay - b_y) (by omega) (by omega) (by omega) (by omega)
    have hN2 : 0 ≤ mN ax ay bx b_y ∧ mN ax ay bx b_y ≤ 400000 := hN.2
    clear hN
    go_wp2_with fail
    refine (fdist_any _ _ _ _ _ _ _ _ _).mono ?_
    rintro r w6 ⟨rfl, b6w⟩
    rw [hd]
    obtain ⟨hc6, hf6⟩ := bcell b6w
    have hx5 : b5 < wc.heap.size := World.block_lt_of_cell? wc _ x0
    have hx6 : b6 < wc.heap.size := World.block_lt_of_cell? wc _ y0
    rw [← hc6 _ _ (by omega)] at x0
    rw [← hc6 _ _ (by omega)] at x1
    rw [← hc6 _ _ (by omega)] at x2
    rw [← hc6 _ _ (by omega)] at x3
    rw [← hc6 _ _ (by omega)] at y0
    rw [← hc6 _ _ (by omega)] at y1
    rw [← hc6 _ _ (by omega)] at y2
    rw [← hc6 _ _ (by omega)] at y3
    rw [← hc6 _ _ (by omega)] at p3
    rw [← hc6 _ _ (by omega), ← hf6 _ _ (by omega)] at r0
    rw [← hc6 _ _ (by omega), ← hf6 _ _ (by omega)] at r1
    rw [← hc6 _ _ (by omega), ← hf6 _ _ (by omega)] at r2
    rw [← hc6 _ _ (by omega), ← hf6 _ _ (by omega)] at r3
    have bw6 := bw5.trans (b6w.mono bw5.size)
    have T6 : Turns w6 := turns_below ht bw6
    clear hc6 hf6 b6w bw5 p0 p1 p2 q0 q1 q2 q3 hx5 hx6 s5 s2
    go_upto_region 7 with fail
    go_cut [12] (fun s12 wx => ∃ b7 : Nat, s12 = .pointer (some ⟨b7, 0, none⟩) ∧ At4 wx b7 (px (mN ax ay bx b_y) (ax - bx) (mF ax ay ah ae bx b_y bh be trip) (turn % 4)) (py (mN ax ay bx b_y) (ay - b_y) (mF ax ay ah ae bx b_y bh be trip) (turn % 4)) (pl (mN ax ay bx b_y)) (pf (mN ax ay bx b_y) (mF ax ay ah ae bx b_y bh be trip)) ∧ Below w6.heap.size w6 wx ∧ w6.heap.size ≤ b7)
    case first =>
      go_region_held3 (fun w' => w'.cell? ⟨b5, 0, none⟩ = some (.int .i64 ax) ∧ w'.cell? ⟨b5, 1, none⟩ = some (.int .i64 ay) ∧ w'.cell? ⟨b5, 2, none⟩ = some (.int .i64 ah) ∧ w'.cell? ⟨b5, 3, none⟩ = some (.int .i64 ae) ∧ w'.cell? ⟨b6, 0, none⟩ = some (.int .i64 bx) ∧ w'.cell? ⟨b6, 1, none⟩ = some (.int .i64 b_y) ∧ w'.cell? ⟨b6, 2, none⟩ = some (.int .i64 bh) ∧ w'.cell? ⟨b6, 3, none⟩ = some (.int .i64 be)) (refine ⟨?_, ?_, ?_, ?_, ?_, ?_, ?_, ?_⟩ <;> (repeat (first | with_reducible assumption | with_reducible refine keep_alloc _ ?_ | with_reducible refine keep_drew ?_))) (first | (go_at_call 27; refine (way_any _ _ _ _ _ (by omega) (by omega) (by omega) (by omega)).mono ?_; rintro e w' ⟨rfl, o1, o2, o3, rfl⟩) | (go_at_call 28; refine (share_any _ _ _ _ _ _ _ _ _ _ (by omega) (by omega) (by omega)).mono ?_; rintro e w' ⟨rfl, o4, o5, rfl⟩) | (go_at_call 26; refine (along_any _ _ _ _ _ (by repeat (first | exact T6 | refine turns_alloc _ ?_ | refine turns_drew ?_)) (by omega) (by omega)).mono ?_; rintro e w' ⟨rfl, o6, o7, o8, o9, rfl⟩))
      all_goals (go_wp2_with fail; go_meet)
      all_goals refine ⟨_, rfl, ⟨by simp [go_sem, mF, mW, mN], by simp [go_sem, mF, mW, mN], by simp [go_sem, mN], by simp [go_sem, mF, mW, mN]⟩, ?_, by omega⟩
      all_goals (refine Below.drew ?_; repeat (first | exact Below.refl _ _ | refine balloc _ ?_))
    case rest =>
      obtain ⟨w7, hw7⟩ : ∃ x, x = wc := ⟨_, rfl⟩
      subst hw7
      obtain ⟨b7, rfl, ⟨z0, z1, z2, z3⟩, b7w, g7⟩ := hcut
      obtain ⟨hc7, hf7⟩ := bcell b7w
      have hx5 : b5 < w6.heap.size := World.block_lt_of_cell? w6 _ x0
      have hx6 : b6 < w6.heap.size := World.block_lt_of_cell? w6 _ y0
      have hx8 : w.heap.size + 1 + 1 < w6.heap.size := World.block_lt_of_cell? w6 _ r0.1
      have d7 : b7 ≠ w.heap.size + 1 + 1 := by omega
      clear g7
      rw [← hc7 _ _ (by omega)] at x0
      rw [← hc7 _ _ (by omega)] at x1
      rw [← hc7 _ _ (by omega)] at x2
      rw [← hc7 _ _ (by omega)] at x3
      rw [← hc7 _ _ (by omega)] at y0
      rw [← hc7 _ _ (by omega)] at y1
      rw [← hc7 _ _ (by omega)] at y2
      rw [← hc7 _ _ (by omega)] at y3
      rw [← hc7 _ _ (by omega)] at p3
      rw [← hc7 _ _ (by omega), ← hf7 _ _ (by omega)] at r0
      rw [← hc7 _ _ (by omega), ← hf7 _ _ (by omega)] at r1
      rw [← hc7 _ _ (by omega), ← hf7 _ _ (by omega)] at r2
      rw [← hc7 _ _ (by omega), ← hf7 _ _ (by omega)] at r3
      have bw7 := bw6.trans (b7w.mono bw6.size)
      clear hc7 hf7 b7w bw6 T6 hx5 hx6 hx8
      have hW2 : -1000000 ≤ mW ax ay ah bx b_y bh trip ∧ mW ax ay ah bx b_y bh trip ≤ 60000 := by unfold mW; omega
      have hF2 := fo_bd (mW ax ay ah bx b_y bh trip) ae (ae + be) (by omega) (by omega) hW2.1 (by omega)
      have c1 := px_bd (mN ax ay bx b_y) (ax - bx) (mF ax ay ah ae bx b_y bh be trip) (turn % 4) (by omega) (by omega)
      have c2 := py_bd (mN ax ay bx b_y) (ay - b_y) (mF ax ay ah ae bx b_y bh be trip) (turn % 4) (by omega) (by omega)
      have c3 := pl_pos (mN ax ay bx b_y) hN2.1
      have c4 := pf_bd (mN ax ay bx b_y) (mF ax ay ah ae bx b_y bh be trip) hN2.1 hN2.2 hF2.1 hF2.2
      obtain ⟨P, hP⟩ : ∃ P, (px (mN ax ay bx b_y) (ax - bx) (mF ax ay ah ae bx b_y bh be trip) (turn % 4)) = P := ⟨_, rfl⟩
      obtain ⟨Q, hQ⟩ : ∃ Q, (py (mN ax ay bx b_y) (ay - b_y) (mF ax ay ah ae bx b_y bh be trip) (turn % 4)) = Q := ⟨_, rfl⟩
      obtain ⟨L, hL⟩ : ∃ L, pl (mN ax ay bx b_y) = L := ⟨_, rfl⟩
      obtain ⟨F, hF⟩ : ∃ F, pf (mN ax ay bx b_y) (mF ax ay ah ae bx b_y bh be trip) = F := ⟨_, rfl⟩
      rw [hP] at z0 c1
      rw [hQ] at z1 c2
      rw [hL] at z2 c3
      rw [hF] at z3 c4
      have HP : Hid (M.box (ax + (F * P).tdiv L) (-100000) 100000 = mX ax ay ah ae bx b_y bh be trip turn) := by show _ = mX ax ay ah ae bx b_y bh be trip turn; unfold mX; rw [hP, hL, hF]
      have HQ : Hid (M.box (ay + (F * Q).tdiv L) (-100000) 100000 = mY ax ay ah ae bx b_y bh be trip turn) := by show _ = mY ax ay ah ae bx b_y bh be trip turn; unfold mY; rw [hQ, hL, hF]
      have HH : Hid (M.box (ah + F.tdiv 4) 0 100000 = mH ax ay ah ae bx b_y bh be trip) := by show _ = mH ax ay ah ae bx b_y bh be trip; unfold mH; rw [hF]
      clear hP hQ hL hF hF2
      have eW : trip - (mN ax ay bx b_y + ah + bh) = mW ax ay ah bx b_y bh trip := rfl
      obtain ⟨W, hW⟩ : ∃ W, mW ax ay ah bx b_y bh trip = W := ⟨_, rfl⟩
      have HE : Hid (M.box (ae + M.fo (nowOf W trip - ae) ae (ae + be)) 1 1500 = mE ax ay ah ae bx b_y bh be trip) := by show _ = mE ax ay ah ae bx b_y bh be trip; unfold mE; rw [hW]
      rw [eW, hW]
      rw [hW] at hW2
      clear eW hW
      go_upto_region 9 with (go_at_call 29; refine (pushed_any _ _ _ _ _ _ _ (by omega) (by omega) c1 c2 c3 (by omega)).mono ?_; rintro e w' ⟨rfl, o1, o2, o3, rfl⟩)
      go_cut [14] (fun s14 wx => s14 = .int .i64 (nowOf W trip) ∧ wx.cell? ⟨w7.heap.size + 1 + 1 + 1, 0, none⟩ = some (.int .i64 (M.box (ax + (F * P).tdiv L) (-100000) 100000)) ∧ wx.cell? ⟨w7.heap.size + 1 + 1 + 1, 1, none⟩ = some (.int .i64 (M.box (ay + (F * Q).tdiv L) (-100000) 100000)) ∧ Below w7.heap.size w7 wx)
      case first =>
        go_wp2_with fail
        all_goals go_meet
        all_goals refine ⟨congrArg _ ?_, by simp [go_sem], by simp [go_sem], ?_⟩
        all_goals first | (refine balloc _ ?_; exact Below.drew (balloc _ (balloc _ (balloc _ (Below.refl _ _))))) | (refine Below.drew ?_; exact balloc _ (balloc _ (balloc _ (balloc _ (Below.refl _ _))))) | skip
        all_goals first | exact now_big htr.1 (by assumption) | exact now_s1 htr.1 (by assumption) (by assumption) | exact now_s2 htr.1 (by assumption) (by assumption)
      case rest =>
        obtain ⟨rfl, v0, v1, b9w⟩ := hcut
        obtain ⟨hc9, hf9⟩ := bcell b9w
        have hx5 : b5 < w7.heap.size := World.block_lt_of_cell? _ _ x0
        have hx6 : b6 < w7.heap.size := World.block_lt_of_cell? _ _ y0
        have hx7 : b7 < w7.heap.size := World.block_lt_of_cell? _ _ z0
        have hx8 : w.heap.size + 1 + 1 < w7.heap.size := World.block_lt_of_cell? _ _ r0.1
        rw [← hc9 _ _ (by omega)] at x0
        rw [← hc9 _ _ (by omega)] at x1
        rw [← hc9 _ _ (by omega)] at x2
        rw [← hc9 _ _ (by omega)] at x3
        rw [← hc9 _ _ (by omega)] at y0
        rw [← hc9 _ _ (by omega)] at y1
        rw [← hc9 _ _ (by omega)] at y2
        rw [← hc9 _ _ (by omega)] at y3
        rw [← hc9 _ _ (by omega)] at z0
        rw [← hc9 _ _ (by omega)] at z1
        rw [← hc9 _ _ (by omega)] at z2
        rw [← hc9 _ _ (by omega)] at z3
        rw [← hc9 _ _ (by omega)] at p3
        rw [← hc9 _ _ (by omega), ← hf9 _ _ (by omega)] at r0
        rw [← hc9 _ _ (by omega), ← hf9 _ _ (by omega)] at r1
        rw [← hc9 _ _ (by omega), ← hf9 _ _ (by omega)] at r2
        rw [← hc9 _ _ (by omega), ← hf9 _ _ (by omega)] at r3
        have bw9 := bw7.trans (b9w.mono bw7.size)
        have hnow := now_bd W trip htr.1 (by omega) (by omega)
        clear hc9 hf9 b9w bw7 hx5 hx6 hx7
        have d9 : w.heap.size ≠ w.heap.size + 1 + 1 := by omega
        have d8 : w7.heap.size + 1 + 1 + 1 ≠ w.heap.size + 1 + 1 := by omega
        clear hx8
        generalize w7.heap.size + 1 + 1 + 1 = b8 at *
        obtain ⟨NW, hNW⟩ : ∃ NW, nowOf W trip = NW := ⟨_, rfl⟩
        rw [hNW] at hnow
        have HE2 : Hid (M.box (ae + M.fo (NW - ae) ae (ae + be)) 1 1500 = mE ax ay ah ae bx b_y bh be trip) := by have := HE.out; rw [hNW] at this; exact this
        rw [hNW]
        clear hNW HE
        have hG := fo_bd (NW - ae) ae (ae + be) (by omega) (by omega) (by omega) (by omega)
        have five : ∀ (i : Nat), (wc.cell? ⟨w.heap.size + 1 + 1, i, none⟩ = some (.int .i64 0) ∧ wc.frozen? ⟨w.heap.size + 1 + 1, i, none⟩ = false) → ∀ o1 o2 o3 o4 o5, (((((wc.alloc o1).alloc o2).alloc o3).alloc o4).alloc o5).cell? ⟨w.heap.size + 1 + 1, i, none⟩ = some (.int .i64 0) ∧ (((((wc.alloc o1).alloc o2).alloc o3).alloc o4).alloc o5).frozen? ⟨w.heap.size + 1 + 1, i, none⟩ = false := fun i hi o1 o2 o3 o4 o5 => keepf_alloc _ (keepf_alloc _ (keepf_alloc _ (keepf_alloc _ (keepf_alloc _ hi))))
        have f0 := five 0 r0
        have f1 := five 1 r1
        have f2 := five 2 r2
        have f3 := five 3 r3
        clear five r0 r1 r2 r3
        have hfld := field_one
        have hw1 : IntKind.i64.wrap (NW - ae) = NW - ae := wrap_id (by omega) (by omega)
        have hw2 : IntKind.i64.wrap (ae + M.fo (NW - ae) ae (ae + be)) = ae + M.fo (NW - ae) ae (ae + be) := wrap_id (by omega) (by omega)
        go_upto_region 10 with fail
        go_region_held3 (fun w' => w'.cell? ⟨b8, 0, none⟩ = some (.int .i64 (M.box (ax + (F * P).tdiv L) (-100000) 100000)) ∧ w'.cell? ⟨b8, 1, none⟩ = some (.int .i64 (M.box (ay + (F * Q).tdiv L) (-100000) 100000)) ∧ w'.cell? ⟨b5, 0, none⟩ = some (.int .i64 ax) ∧ w'.cell? ⟨b5, 1, none⟩ = some (.int .i64 ay) ∧ w'.cell? ⟨b5, 2, none⟩ = some (.int .i64 ah) ∧ w'.cell? ⟨b5, 3, none⟩ = some (.int .i64 ae) ∧ w'.cell? ⟨b6, 0, none⟩ = some (.int .i64 bx) ∧ w'.cell? ⟨b6, 1, none⟩ = some (.int .i64 b_y) ∧ w'.cell? ⟨b6, 2, none⟩ = some (.int .i64 bh) ∧ w'.cell? ⟨b6, 3, none⟩ = some (.int .i64 be) ∧ w'.cell? ⟨b7, 0, none⟩ = some (.int .i64 P) ∧ w'.cell? ⟨b7, 1, none⟩ = some (.int .i64 Q) ∧ w'.cell? ⟨b7, 2, none⟩ = some (.int .i64 L) ∧ w'.cell? ⟨b7, 3, none⟩ = some (.int .i64 F) ∧ w'.cell? ⟨w.heap.size, 3, none⟩ = some (.int .i64 ae)) (refine ⟨?_, ?_, ?_, ?_, ?_, ?_, ?_, ?_, ?_, ?_, ?_, ?_, ?_, ?_, ?_⟩ <;> (repeat (first | with_reducible assumption | with_reducible refine keep_alloc _ ?_ | with_reducible refine keep_drew ?_ | with_reducible refine keep_set' _ ?_ ?_))) (first | (go_at_call 30; refine (lifted_any _ _ _ _ _ _ (by omega) (by omega)).mono ?_; rintro e w' ⟨rfl, o4, o5, o6, rfl⟩) | (go_at_call 28; refine (share_any _ _ _ _ _ _ _ _ _ _ (by omega) (by omega) (by omega)).mono ?_; rintro e w' ⟨rfl, o7, o8, rfl⟩) | (go_at_call 31; refine (bounded_any _ _ _ _ (by omega)).mono ?_; rintro e w' ⟨rfl, hw⟩; obtain rfl := hw.symm))
        go_wp2
        refine bodyPost_ret (v := .agg #[.int .i64 (M.box (ax + (F * P).tdiv L) (-100000) 100000), .int .i64 (M.box (ay + (F * Q).tdiv L) (-100000) 100000), .int .i64 (M.box (ah + F.tdiv 4) 0 100000), .int .i64 (M.box (ae + M.fo (NW - ae) ae (ae + be)) 1 1500)]) (by simp [results, Tryd.results10, go_sem, f0, f1, f2, f3]) rfl ⟨?_, ?_⟩
        · rw [HP.out, HQ.out, HH.out, HE2.out]
        · refine Below.drew ?_
          have q := balloc o8 (balloc o7 (balloc o6 (balloc o5 (balloc o4 bw9))))
          exact (((q.setCell (p := ⟨w.heap.size + 1 + 1, 0, none⟩) (by simp; omega) _).setCell (p := ⟨w.heap.size + 1 + 1, 1, none⟩) (by simp; omega) _).setCell (p := ⟨w.heap.size + 1 + 1, 2, none⟩) (by simp; omega) _).setCell (p := ⟨w.heap.size + 1 + 1, 3, none⟩) (by simp; omega) _
end Go.Proofs.YtajcjanfllpcgaaDoor
