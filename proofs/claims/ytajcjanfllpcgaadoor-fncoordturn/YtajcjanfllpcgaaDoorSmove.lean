/- Where somebody is behind a trip: the model, where both coordinates are ok and the trip can have been: the same as the program. -/
import Derived.Test.YtajcjanfllpcgaaDoorMove
import Derived.LoopTactic
import Derived.WalkKit
import Derived.ProofKit
import Derived.WalkLawsBesides
import Derived.Deep.QuietTactic
import Derived.BigQuiet
import Derived.Deep.RegionHeld3
import Derived.Deep.DrawnRows
import Derived.Deep.DeepCutAuto
namespace Go.Proofs.YtajcjanfllpcgaaDoor
open Go.ChangeShapes Go.WideShapes Go.ChangeAt Go.RowKit

attribute [local go_sem ↓] Go.wp_at_zero Go.wp_at_succ
theorem ri {a b : Int} (h : a = b) : Value.int .i64 a = .int .i64 b := by rw [h]
theorem sforce_any (ax ay ah ae bx b_y bh be am : Int) (w : World) (h1 : 1 ≤ ae ∧ ae ≤ 1500) (h2 : 1 ≤ be ∧ be ≤ 1500) (h3 : -1000000 ≤ am ∧ am ≤ 1000000) :
    Calls Tryd.prog 33 #[.agg #[.int .i64 ax, .int .i64 ay, .int .i64 ah, .int .i64 ae], .agg #[.int .i64 bx, .int .i64 b_y, .int .i64 bh, .int .i64 be], .int .i64 am] w fun r w' => r = .returned (.int .i64 (M.fo am ae (ae + be))) ∧ ∃ o1 o2, w' = (w.alloc o1).alloc o2 := by
  have hm := M.mul_bd (a := am) (b := ae) (A := 1000000) (B := 1500) (by omega) (by omega) (by omega) (by omega)
  have hq := M.tdiv_abs (a := am * ae) (b := ae + be) (A := 1500000000) (by omega) (by omega) (by omega)
  have hz : ¬ ae + be = 0 := by omega
  go_enter Tryd.func33, Tryd.ntmps33
  go_wp2
  go_ret
  exact ⟨rfl, _, _, rfl⟩
theorem saway_any (turn : Int) (w : World) :
    Calls Tryd.prog 35 #[.int .i64 turn] w fun r w' => r = .returned (.tuple #[.int .i64 (tx (turn % 4)), .int .i64 (ty (turn % 4))]) ∧ w' = w := by
  have a3 := and3 turn
  have hk : turn % 4 = 0 ∨ turn % 4 = 1 ∨ turn % 4 = 2 ∨ turn % 4 = 3 := by omega
  rcases hk with hk | hk | hk | hk
  all_goals rw [hk] at a3 ⊢
  all_goals clear hk
  all_goals go_enter Tryd.func35, Tryd.ntmps35
  all_goals go_wp2
  all_goals (go_ret2; exact ⟨rfl, rfl⟩)
theorem sabs_any (n : Int) (w : World) (h1 : -4000000000000000000 ≤ n) :
    Calls Tryd.prog 44 #[.int .i64 n] w fun e w' => e = .returned (.int .i64 (M.ab n)) ∧ w' = w := by
  go_enter Tryd.func44, Tryd.ntmps44
  go_wp2
  all_goals (go_ret; exact ⟨ret_int (by unfold M.ab; omega), rfl⟩)
theorem box_now {W trip : Int} (h : 1 ≤ trip) : M.box (M.ab W * 1000 / trip) 0 1500 = nowOf W trip := by
  rw [nowOf_eq h, ite_ab]
  have := Int.ediv_nonneg (a := M.ab W * 1000) (b := trip) (by have := M.ab_nonneg W; omega) (by omega)
  unfold M.box
  generalize M.ab W * 1000 / trip = t at *
  omega
set_option maxHeartbeats 1000000 in
theorem serr_any (ax ay ah ae bx b_y bh be W trip : Int) (w : World) (h1 : 1 ≤ ae ∧ ae ≤ 1500) (h2 : 1 ≤ be ∧ be ≤ 1500) (h3 : -1000000 ≤ W ∧ W ≤ 1000000) (h4 : 1 ≤ trip) :
    Calls Tryd.prog 37 #[.agg #[.int .i64 ax, .int .i64 ay, .int .i64 ah, .int .i64 ae], .agg #[.int .i64 bx, .int .i64 b_y, .int .i64 bh, .int .i64 be], .int .i64 W, .int .i64 trip] w fun r w' => r = .returned (.int .i64 (M.box (ae + M.fo (nowOf W trip - ae) ae (ae + be)) 1 1500)) ∧ ∃ o1 o2, w' = ((w.alloc o1).alloc o2).drew := by
  have hnow := now_bd W trip h4 (by omega) (by omega)
  have hbn := box_now (W := W) h4
  obtain ⟨NW, hNW⟩ : ∃ NW, nowOf W trip = NW := ⟨_, rfl⟩
  rw [hNW] at hnow hbn ⊢
  clear hNW
  have hab : 0 ≤ M.ab W ∧ M.ab W ≤ 1000000 := by unfold M.ab; omega
  have hG := fo_bd (NW - ae) ae (ae + be) (by omega) (by omega) (by omega) (by omega)
  have hm := M.mul_bd (a := NW - ae) (b := ae) (A := 1500) (B := 1500) (by omega) (by omega) (by omega) (by omega)
  have hq := M.tdiv_abs (a := (NW - ae) * ae) (b := ae + be) (A := 2250000) (by omega) (by omega) (by omega)
  have hz : ¬ ae + be = 0 := by omega
  have hw0 : IntKind.i64.wrap (NW - ae) = NW - ae := wrap_id (by omega) (by omega)
  have hw1 : IntKind.i64.wrap ((NW - ae) * ae) = (NW - ae) * ae := wrap_id (by omega) (by omega)
  have hw2 : IntKind.i64.wrap (ae + be) = ae + be := wrap_id (by omega) (by omega)
  have hw3 : IntKind.i64.wrap (((NW - ae) * ae).tdiv (ae + be)) = ((NW - ae) * ae).tdiv (ae + be) := wrap_id (by omega) (by omega)
  have hw4 : IntKind.i64.wrap ((((NW - ae) * ae).tdiv (ae + be)).tdiv 4) = (((NW - ae) * ae).tdiv (ae + be)).tdiv 4 := wrap_id (by have := hG.1; unfold M.fo at this; omega) (by have := hG.2; unfold M.fo at this; omega)
  have hw5 : IntKind.i64.wrap (ae + (((NW - ae) * ae).tdiv (ae + be)).tdiv 4) = ae + (((NW - ae) * ae).tdiv (ae + be)).tdiv 4 := wrap_id (by have := hG.1; unfold M.fo at this; omega) (by have := hG.2; unfold M.fo at this; omega)
  go_enter Tryd.func37, Tryd.ntmps37
  go_wp2_with (first | (go_at_call 44; refine (sabs_any _ _ (by omega)).mono ?_; rintro e w' ⟨rfl, rfl⟩) | (go_at_call 36; refine (box_any _ _ _ _).mono ?_; rintro e w' ⟨rfl, rfl⟩))
  go_region_held3 (fun w' => w'.cell? ⟨w.heap.size, 3, none⟩ = some (.int .i64 ae) ∧ w'.cell? ⟨w.heap.size + 1, 3, none⟩ = some (.int .i64 be)) (simp [go_sem]) (first | (go_at_call 36; refine (box_any _ _ _ _).mono ?_; rintro e w' ⟨rfl, hw⟩; obtain rfl := hw.symm))
  go_wp2
  go_ret
  exact ⟨rfl, _, _, rfl⟩
set_option maxRecDepth 100000 in
set_option maxHeartbeats 4000000 in
theorem smove_yes (ax ay ah ae bx b_y bh be trip turn : Int) (w : World) (ka : cok ax ay ah ae = true) (kb : cok bx b_y bh be = true) (kt : inb trip 1 60000 = true) :
    Calls Tryd.prog 11 #[.agg #[.int .i64 ax, .int .i64 ay, .int .i64 ah, .int .i64 ae], .agg #[.int .i64 bx, .int .i64 b_y, .int .i64 bh, .int .i64 be], .int .i64 trip, .int .i64 turn] w fun r w' => r = .returned (.agg #[.int .i64 (mX ax ay ah ae bx b_y bh be trip turn), .int .i64 (mY ax ay ah ae bx b_y bh be trip turn), .int .i64 (mH ax ay ah ae bx b_y bh be trip), .int .i64 (mE ax ay ah ae bx b_y bh be trip)]) ∧ Below w.heap.size w w' := by
  have ha := cok_bd ka
  have hb := cok_bd kb
  have htr : 1 ≤ trip ∧ trip ≤ 60000 := by simpa [inb] using kt
  go_enter Tryd.func11, Tryd.ntmps11
  go_wp2_with fail
  refine (sok_any _ _ _ _ _).mono ?_
  rintro r w1 ⟨rfl, b1⟩
  obtain ⟨hc1, hf1⟩ := bcell b1
  have s1 := b1.size
  go_wp2_with fail
  refine (sok_any _ _ _ _ _).mono ?_
  rintro r w2 ⟨rfl, b2⟩
  have b02 := b1.trans (b2.mono b1.size)
  obtain ⟨hc2, hf2⟩ := bcell b02
  have s2 := b02.size
  simp at s2
  have p0 : w2.cell? ⟨w.heap.size, 0, none⟩ = some (.int .i64 ax) := by rw [hc2 _ _ (by simp; omega)]; simp [go_sem]
  have p1 : w2.cell? ⟨w.heap.size, 1, none⟩ = some (.int .i64 ay) := by rw [hc2 _ _ (by simp; omega)]; simp [go_sem]
  have p2 : w2.cell? ⟨w.heap.size, 2, none⟩ = some (.int .i64 ah) := by rw [hc2 _ _ (by simp; omega)]; simp [go_sem]
  have p3 : w2.cell? ⟨w.heap.size, 3, none⟩ = some (.int .i64 ae) := by rw [hc2 _ _ (by simp; omega)]; simp [go_sem]
  have q0 : w2.cell? ⟨w.heap.size + 1, 0, none⟩ = some (.int .i64 bx) := by rw [hc2 _ _ (by simp)]; simp [go_sem]
  have q1 : w2.cell? ⟨w.heap.size + 1, 1, none⟩ = some (.int .i64 b_y) := by rw [hc2 _ _ (by simp)]; simp [go_sem]
  have q2 : w2.cell? ⟨w.heap.size + 1, 2, none⟩ = some (.int .i64 bh) := by rw [hc2 _ _ (by simp)]; simp [go_sem]
  have q3 : w2.cell? ⟨w.heap.size + 1, 3, none⟩ = some (.int .i64 be) := by rw [hc2 _ _ (by simp)]; simp [go_sem]
  have r0 : w2.cell? ⟨w.heap.size + 1 + 1, 0, none⟩ = some (.int .i64 0) ∧ w2.frozen? ⟨w.heap.size + 1 + 1, 0, none⟩ = false := ⟨by rw [hc2 _ _ (by simp)]; simp [go_sem], by rw [hf2 _ _ (by simp)]; simp [go_sem]⟩
  have r1 : w2.cell? ⟨w.heap.size + 1 + 1, 1, none⟩ = some (.int .i64 0) ∧ w2.frozen? ⟨w.heap.size + 1 + 1, 1, none⟩ = false := ⟨by rw [hc2 _ _ (by simp)]; simp [go_sem], by rw [hf2 _ _ (by simp)]; simp [go_sem]⟩
  have r2 : w2.cell? ⟨w.heap.size + 1 + 1, 2, none⟩ = some (.int .i64 0) ∧ w2.frozen? ⟨w.heap.size + 1 + 1, 2, none⟩ = false := ⟨by rw [hc2 _ _ (by simp)]; simp [go_sem], by rw [hf2 _ _ (by simp)]; simp [go_sem]⟩
  have r3 : w2.cell? ⟨w.heap.size + 1 + 1, 3, none⟩ = some (.int .i64 0) ∧ w2.frozen? ⟨w.heap.size + 1 + 1, 3, none⟩ = false := ⟨by rw [hc2 _ _ (by simp)]; simp [go_sem], by rw [hf2 _ _ (by simp)]; simp [go_sem]⟩
  clear hc1 hf1 hc2 hf2 s1
  have bw : Below w.heap.size w w2 := (balloc _ (balloc _ (balloc _ (Below.refl _ _)))).trans (b02.mono (by simp; omega))
  clear b1 b2 b02
  have hd : dst ax ay ah ae bx b_y bh be = mN ax ay bx b_y + ah + bh := by unfold dst mN; rw [if_pos (by simp [ka, kb])]
  have hN := nm_eq (ax - bx) (ay - b_y) (by omega) (by omega) (by omega) (by omega)
  have hN2 : 0 ≤ mN ax ay bx b_y ∧ mN ax ay bx b_y ≤ 400000 := hN.2
  have HN : Hid (M.cl (M.isq (M.cl (ax - bx) * M.cl (ax - bx) + M.cl (ay - b_y) * M.cl (ay - b_y))) = mN ax ay bx b_y) := hN.1
  clear hN
  go_wp2_with (go_at_call 32; refine (lin_any _ _ _ _).mono ?_; rintro e w' ⟨rfl, hw⟩; obtain rfl := hw.symm)
  refine (sdist_any _ _ _ _ _ _ _ _ _).mono ?_
  rintro r w6 ⟨rfl, b6w⟩
  rw [hd]
  obtain ⟨hc6, hf6⟩ := bcell b6w
  rw [← hc6 _ _ (by omega)] at p0
  rw [← hc6 _ _ (by omega)] at p1
  rw [← hc6 _ _ (by omega)] at p2
  rw [← hc6 _ _ (by omega)] at p3
  rw [← hc6 _ _ (by omega)] at q0
  rw [← hc6 _ _ (by omega)] at q1
  rw [← hc6 _ _ (by omega)] at q2
  rw [← hc6 _ _ (by omega)] at q3
  rw [← hc6 _ _ (by omega), ← hf6 _ _ (by omega)] at r0
  rw [← hc6 _ _ (by omega), ← hf6 _ _ (by omega)] at r1
  rw [← hc6 _ _ (by omega), ← hf6 _ _ (by omega)] at r2
  rw [← hc6 _ _ (by omega), ← hf6 _ _ (by omega)] at r3
  have bw6 := bw.trans (b6w.mono bw.size)
  clear hc6 hf6 b6w bw s2 hd
  have hW2 : -1000000 ≤ mW ax ay ah bx b_y bh trip ∧ mW ax ay ah bx b_y bh trip ≤ 60000 := by unfold mW; omega
  have eW : trip - (mN ax ay bx b_y + ah + bh) = mW ax ay ah bx b_y bh trip := rfl
  go_wp2_with fail
  refine (sforce_any _ _ _ _ _ _ _ _ _ _ (by omega) (by omega) (by omega)).mono ?_
  rintro r w7' ⟨rfl, o1, o2, hw7⟩
  have bw7 : Below w.heap.size w w7' := by rw [hw7]; exact balloc _ (balloc _ bw6)
  replace p0 := keep_alloc o2 (keep_alloc o1 p0)
  replace p1 := keep_alloc o2 (keep_alloc o1 p1)
  replace p2 := keep_alloc o2 (keep_alloc o1 p2)
  replace p3 := keep_alloc o2 (keep_alloc o1 p3)
  replace q0 := keep_alloc o2 (keep_alloc o1 q0)
  replace q1 := keep_alloc o2 (keep_alloc o1 q1)
  replace q2 := keep_alloc o2 (keep_alloc o1 q2)
  replace q3 := keep_alloc o2 (keep_alloc o1 q3)
  replace r0 := keepf_alloc o2 (keepf_alloc o1 r0)
  replace r1 := keepf_alloc o2 (keepf_alloc o1 r1)
  replace r2 := keepf_alloc o2 (keepf_alloc o1 r2)
  replace r3 := keepf_alloc o2 (keepf_alloc o1 r3)
  rw [← hw7] at p0 p1 p2 p3 q0 q1 q2 q3 r0 r1 r2 r3
  clear hw7 bw6
  go_wp2_with fail
  refine (snm_any _ _ _).mono ?_
  rintro e w8 ⟨rfl, hw8⟩
  obtain rfl := hw8.symm
  rw [HN.out]
  have hF2 := fo_bd (mW ax ay ah bx b_y bh trip) ae (ae + be) (by omega) (by omega) hW2.1 (by omega)
  have c1 := px_bd (mN ax ay bx b_y) (ax - bx) (mF ax ay ah ae bx b_y bh be trip) (turn % 4) (by omega) (by omega)
  have c2 := py_bd (mN ax ay bx b_y) (ay - b_y) (mF ax ay ah ae bx b_y bh be trip) (turn % 4) (by omega) (by omega)
  have c3 := pl_pos (mN ax ay bx b_y) hN2.1
  have c4 := pf_bd (mN ax ay bx b_y) (mF ax ay ah ae bx b_y bh be trip) hN2.1 hN2.2 hF2.1 hF2.2
  have eF : M.fo (mW ax ay ah bx b_y bh trip) ae (ae + be) = mF ax ay ah ae bx b_y bh be trip := rfl
  rw [eF] at *
  clear eF hF2 HN
  have HX : Hid (mX ax ay ah ae bx b_y bh be trip turn = M.box (ax + (pf (mN ax ay bx b_y) (mF ax ay ah ae bx b_y bh be trip) * px (mN ax ay bx b_y) (ax - bx) (mF ax ay ah ae bx b_y bh be trip) (turn % 4)).tdiv (pl (mN ax ay bx b_y))) (-100000) 100000) := rfl
  have HY : Hid (mY ax ay ah ae bx b_y bh be trip turn = M.box (ay + (pf (mN ax ay bx b_y) (mF ax ay ah ae bx b_y bh be trip) * py (mN ax ay bx b_y) (ay - b_y) (mF ax ay ah ae bx b_y bh be trip) (turn % 4)).tdiv (pl (mN ax ay bx b_y))) (-100000) 100000) := rfl
  have HH : Hid (mH ax ay ah ae bx b_y bh be trip = M.box (ah + (pf (mN ax ay bx b_y) (mF ax ay ah ae bx b_y bh be trip)).tdiv 4) 0 100000) := rfl
  have HE : Hid (mE ax ay ah ae bx b_y bh be trip = M.box (ae + M.fo (nowOf (mW ax ay ah bx b_y bh trip) trip - ae) ae (ae + be)) 1 1500) := rfl
  generalize mF ax ay ah ae bx b_y bh be trip = FR at *
  generalize mW ax ay ah bx b_y bh trip = W at *
  generalize mN ax ay bx b_y = N at *
  go_upto_if 50 with fail
  go_cut [10, 11, 12, 13] (fun s10 s11 s12 s13 wx => s10 = .int .i64 (pf N FR) ∧ s11 = .int .i64 (px N (ax - bx) FR (turn % 4)) ∧ s12 = .int .i64 (py N (ay - b_y) FR (turn % 4)) ∧ s13 = .int .i64 (pl N) ∧ wx = w7')
  case first =>
    by_cases hz : N = 0
    · subst hz
      by_cases hf : FR < 0
      · go_wp2_with (go_at_call 35; refine (saway_any _ _).mono ?_; rintro e w' ⟨rfl, hw⟩; obtain rfl := hw.symm)
        go_meet
        exact ⟨ri (by unfold pf; rw [if_pos rfl]), ri (by unfold px; rw [if_pos rfl, if_pos (by omega)]), ri (by unfold py; rw [if_pos rfl, if_pos (by omega)]), ri (by unfold pl; rw [if_pos rfl]), rfl⟩
      · go_wp2_with (go_at_call 35; refine (saway_any _ _).mono ?_; rintro e w' ⟨rfl, hw⟩; obtain rfl := hw.symm)
        go_meet
        exact ⟨ri (by unfold pf; rw [if_pos rfl]), ri (by unfold px; rw [if_pos rfl, if_neg (by omega)]), ri (by unfold py; rw [if_pos rfl, if_neg (by omega)]), ri (by unfold pl; rw [if_pos rfl]), rfl⟩
    · have hz' : (N == 0) = false := by simp [hz]
      by_cases hf : FR < -N
      · go_wp2
        go_meet
        exact ⟨ri (by unfold pf; rw [if_neg hz, if_pos (by omega)]), ri (by unfold px; rw [if_neg hz]), ri (by unfold py; rw [if_neg hz]), ri (by unfold pl; rw [if_neg hz]), rfl⟩
      · go_wp2
        go_meet
        exact ⟨ri (by unfold pf; rw [if_neg hz, if_neg (by omega)]), ri (by unfold px; rw [if_neg hz]), ri (by unfold py; rw [if_neg hz]), ri (by unfold pl; rw [if_neg hz]), rfl⟩
  case rest =>
    obtain ⟨rfl, rfl, rfl, rfl, rfl⟩ := hcut
    generalize px N (ax - bx) FR (turn % 4) = P at *
    generalize py N (ay - b_y) FR (turn % 4) = Q at *
    generalize pl N = L at *
    generalize pf N FR = F at *
    have hm1 := M.mul_bd (a := F) (b := P) (A := 1000000) (B := 200000) (by omega) (by omega) (by omega) (by omega)
    have hm2 := M.mul_bd (a := F) (b := Q) (A := 1000000) (B := 200000) (by omega) (by omega) (by omega) (by omega)
    have hq1 := M.tdiv_abs (a := F * P) (b := L) (A := 200000000000) (by omega) (by omega) (by omega)
    have hq2 := M.tdiv_abs (a := F * Q) (b := L) (A := 200000000000) (by omega) (by omega) (by omega)
    have hq3 := M.tdiv_abs (a := F) (b := 4) (A := 1000000) (by omega) (by omega) (by omega)
    have hz : ¬ L = 0 := by omega
    have u1 : IntKind.i64.wrap (F * P) = F * P := wrap_id (by omega) (by omega)
    have u2 : IntKind.i64.wrap (F * Q) = F * Q := wrap_id (by omega) (by omega)
    have u3 : IntKind.i64.wrap ((F * P).tdiv L) = (F * P).tdiv L := wrap_id (by omega) (by omega)
    have u4 : IntKind.i64.wrap ((F * Q).tdiv L) = (F * Q).tdiv L := wrap_id (by omega) (by omega)
    have u5 : IntKind.i64.wrap (ax + (F * P).tdiv L) = ax + (F * P).tdiv L := wrap_id (by omega) (by omega)
    have u6 : IntKind.i64.wrap (ay + (F * Q).tdiv L) = ay + (F * Q).tdiv L := wrap_id (by omega) (by omega)
    have u7 : IntKind.i64.wrap (F.tdiv 4) = F.tdiv 4 := wrap_id (by omega) (by omega)
    have u8 : IntKind.i64.wrap (ah + F.tdiv 4) = ah + F.tdiv 4 := wrap_id (by omega) (by omega)
    have five : ∀ (i : Nat), (wc.cell? ⟨w.heap.size + 1 + 1, i, none⟩ = some (.int .i64 0) ∧ wc.frozen? ⟨w.heap.size + 1 + 1, i, none⟩ = false) → ∀ o1 o2, ((wc.alloc o1).alloc o2).cell? ⟨w.heap.size + 1 + 1, i, none⟩ = some (.int .i64 0) ∧ ((wc.alloc o1).alloc o2).frozen? ⟨w.heap.size + 1 + 1, i, none⟩ = false := fun i hi o1 o2 => keepf_alloc _ (keepf_alloc _ hi)
    have f0 := five 0 r0
    have f1 := five 1 r1
    have f2 := five 2 r2
    have f3 := five 3 r3
    clear five r0 r1 r2 r3
    have d9 : w.heap.size ≠ w.heap.size + 1 + 1 := by omega
    have d8 : w.heap.size + 1 ≠ w.heap.size + 1 + 1 := by omega
    go_upto_region 18 with fail
    go_region_held3 (fun w' => w'.cell? ⟨w.heap.size, 0, none⟩ = some (.int .i64 ax) ∧ w'.cell? ⟨w.heap.size, 1, none⟩ = some (.int .i64 ay) ∧ w'.cell? ⟨w.heap.size, 2, none⟩ = some (.int .i64 ah) ∧ w'.cell? ⟨w.heap.size, 3, none⟩ = some (.int .i64 ae) ∧ w'.cell? ⟨w.heap.size + 1, 0, none⟩ = some (.int .i64 bx) ∧ w'.cell? ⟨w.heap.size + 1, 1, none⟩ = some (.int .i64 b_y) ∧ w'.cell? ⟨w.heap.size + 1, 2, none⟩ = some (.int .i64 bh) ∧ w'.cell? ⟨w.heap.size + 1, 3, none⟩ = some (.int .i64 be)) (refine ⟨?_, ?_, ?_, ?_, ?_, ?_, ?_, ?_⟩ <;> (repeat (first | with_reducible assumption | with_reducible refine keep_alloc _ ?_ | with_reducible refine keep_drew ?_ | with_reducible refine keep_set' _ ?_ ?_))) (first | (go_at_call 36; refine (box_any _ _ _ _).mono ?_; rintro e w' ⟨rfl, hw⟩; obtain rfl := hw.symm) | (go_at_call 37; refine (serr_any _ _ _ _ _ _ _ _ _ _ _ (by omega) (by omega) (by omega) (by omega)).mono ?_; rintro e w' ⟨rfl, o4, o5, rfl⟩))
    go_wp2
    refine bodyPost_ret (v := .agg #[.int .i64 (M.box (ax + (F * P).tdiv L) (-100000) 100000), .int .i64 (M.box (ay + (F * Q).tdiv L) (-100000) 100000), .int .i64 (M.box (ah + F.tdiv 4) 0 100000), .int .i64 (M.box (ae + M.fo (nowOf W trip - ae) ae (ae + be)) 1 1500)]) (by simp [results, Tryd.results11, go_sem, f0, f1, f2, f3]) rfl ⟨?_, ?_⟩
    · rw [HX.out, HY.out, HH.out, HE.out]
    · refine Below.drew (Below.drew ?_)
      have q := balloc o5 (balloc o4 bw7)
      exact (((q.setCell (p := ⟨w.heap.size + 1 + 1, 0, none⟩) (by simp; omega) _).setCell (p := ⟨w.heap.size + 1 + 1, 1, none⟩) (by simp; omega) _).setCell (p := ⟨w.heap.size + 1 + 1, 2, none⟩) (by simp; omega) _).setCell (p := ⟨w.heap.size + 1 + 1, 3, none⟩) (by simp; omega) _
end Go.Proofs.YtajcjanfllpcgaaDoor
