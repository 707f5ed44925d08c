/- How far two coordinates are from each other, by the program. -/
import Derived.Test.YtajcjanfllpcgaaDoorCoord
import Derived.LoopTactic
import Derived.WalkKit
import Derived.ProofKit
import Derived.WalkLawsBesides
import Derived.Deep.QuietTactic
import Derived.BigQuiet
import Derived.Deep.RegionHeld3
import Derived.Deep.DrawnRows
import Derived.Deep.DeepCutAuto
namespace Go.Proofs.YtajcjanfllpcgaaDoor
open Go.ChangeShapes Go.WideShapes Go.ChangeAt Go.RowKit

attribute [local go_sem ↓] Go.wp_at_zero Go.wp_at_succ
theorem cok_bd {x y h e : Int} (hk : cok x y h e = true) : -100000 ≤ x ∧ x ≤ 100000 ∧ -100000 ≤ y ∧ y ≤ 100000 ∧ 0 ≤ h ∧ h ≤ 100000 ∧ 1 ≤ e ∧ e ≤ 1500 := by
  simp [cok, inb] at hk; omega
theorem balloc {a w : World} (o : Obj) (h : Below a.heap.size a w) : Below a.heap.size a (w.alloc o) := h.alloc h.size o
theorem keep_alloc {w : World} {a : Addr} {v : Value} (o : Obj) (h : w.cell? a = some v) : (w.alloc o).cell? a = some v := (World.cell?_alloc_some w a o (by rw [h]; rfl)).trans h
theorem keep_drew {w : World} {a : Addr} {v : Value} (h : w.cell? a = some v) : w.drew.cell? a = some v := h
theorem keep_set {w : World} {a : Addr} {v : Value} (p : Addr) (u : Value) (hp : a.block ≠ p.block) (h : w.cell? a = some v) : (w.setCell p u).cell? a = some v := (cell_far u hp).trans h
/-- four numbers lie at block b -/
def At4 (w : World) (b : Nat) (x y h e : Int) : Prop :=
  w.cell? ⟨b, 0, none⟩ = some (.int .i64 x) ∧ w.cell? ⟨b, 1, none⟩ = some (.int .i64 y) ∧ w.cell? ⟨b, 2, none⟩ = some (.int .i64 h) ∧ w.cell? ⟨b, 3, none⟩ = some (.int .i64 e)
theorem wrap_id {n : Int} (h1 : -9000000000000000000 ≤ n) (h2 : n ≤ 9000000000000000000) : IntKind.i64.wrap n = n := by
  simp [IntKind.wrap, IntKind.bits, IntKind.signed]; omega
theorem nm_eq (x y : Int) (h1 : -200000 ≤ x) (h2 : x ≤ 200000) (h3 : -200000 ≤ y) (h4 : y ≤ 200000) :
    M.cl (M.isq (M.cl x * M.cl x + M.cl y * M.cl y)) = M.isq (x * x + y * y) ∧ 0 ≤ M.isq (x * x + y * y) ∧ M.isq (x * x + y * y) ≤ 400000 := by
  rw [M.cl_id (n := x) (by omega) (by omega), M.cl_id (n := y) (by omega) (by omega)]
  have a := M.isq_nonneg (x * x + y * y)
  have b := M.isq_le_abs (u := x) (v := y) (f := 200000) (by omega) (by omega) (by omega) (by omega)
  exact ⟨M.cl_id (by omega) (by omega), a, by omega⟩
theorem way_any (x y u v : Int) (w : World) (h1 : -100000 ≤ x ∧ x ≤ 100000) (h2 : -100000 ≤ y ∧ y ≤ 100000) (h3 : -100000 ≤ u ∧ u ≤ 100000) (h4 : -100000 ≤ v ∧ v ≤ 100000) :
    Calls Tryd.prog 27 #[.agg #[.int .i64 x, .int .i64 y], .agg #[.int .i64 u, .int .i64 v]] w fun r w' => r = .returned (.agg #[.int .i64 (x - u), .int .i64 (y - v)]) ∧ ∃ o1 o2 o3, w' = ((w.alloc o1).alloc o2).alloc o3 := by
  go_enter Tryd.func27, Tryd.ntmps27
  go_wp2
  exact bodyPost_ret (v := .agg #[.int .i64 (x - u), .int .i64 (y - v)]) (by simp [results, Tryd.results27, go_sem]) rfl ⟨rfl, _, _, _, rfl⟩
theorem len_any (x y : Int) (w : World) :
    Calls Tryd.prog 40 #[.agg #[.int .i64 x, .int .i64 y]] w fun r w' => r = .returned (.int .i64 (M.cl (M.isq (M.cl x * M.cl x + M.cl y * M.cl y)))) ∧ ∃ o1 o2, w' = (w.alloc o1).alloc o2 := by
  go_enter Tryd.func40, Tryd.ntmps40
  go_wp2_with (go_at_call 45; refine (fnm_any _ _ _).mono ?_; rintro e w' ⟨rfl, rfl⟩)
  go_ret
  exact ⟨rfl, _, _, rfl⟩
set_option maxHeartbeats 1000000 in
theorem fdist_yes (ax ay ah ae bx b_y bh be : Int) (w : World) (ka : cok ax ay ah ae = true) (kb : cok bx b_y bh be = true) :
    Calls Tryd.prog 17 #[.agg #[.int .i64 ax, .int .i64 ay, .int .i64 ah, .int .i64 ae], .agg #[.int .i64 bx, .int .i64 b_y, .int .i64 bh, .int .i64 be]] w fun r w' => r = .returned (.int .i64 (M.isq ((ax - bx) * (ax - bx) + (ay - b_y) * (ay - b_y)) + ah + bh)) ∧ Below w.heap.size w w' := by
  have ha := cok_bd ka
  have hb := cok_bd kb
  go_enter Tryd.func17, Tryd.ntmps17
  go_wp2_with fail
  refine (fok_any _ _ _ _ _).mono ?_
  rintro r w1 ⟨rfl, b1⟩
  obtain ⟨hc1, hf1⟩ := bcell b1
  have s1 := b1.size
  go_wp2_with fail
  refine (fok_any _ _ _ _ _).mono ?_
  rintro r w2 ⟨rfl, b2⟩
  have b02 := b1.trans (b2.mono b1.size)
  obtain ⟨hc2, hf2⟩ := bcell b02
  have s2 := b02.size
  simp at s2
  have p0 : w2.cell? ⟨w.heap.size, 0, none⟩ = some (.int .i64 ax) := by rw [hc2 _ _ (by simp; omega)]; simp [go_sem]
  have p1 : w2.cell? ⟨w.heap.size, 1, none⟩ = some (.int .i64 ay) := by rw [hc2 _ _ (by simp; omega)]; simp [go_sem]
  have p2 : w2.cell? ⟨w.heap.size, 2, none⟩ = some (.int .i64 ah) := by rw [hc2 _ _ (by simp; omega)]; simp [go_sem]
  have p3 : w2.cell? ⟨w.heap.size, 3, none⟩ = some (.int .i64 ae) := by rw [hc2 _ _ (by simp; omega)]; simp [go_sem]
  have q0 : w2.cell? ⟨w.heap.size + 1, 0, none⟩ = some (.int .i64 bx) := by rw [hc2 _ _ (by simp)]; simp [go_sem]
  have q1 : w2.cell? ⟨w.heap.size + 1, 1, none⟩ = some (.int .i64 b_y) := by rw [hc2 _ _ (by simp)]; simp [go_sem]
  have q2 : w2.cell? ⟨w.heap.size + 1, 2, none⟩ = some (.int .i64 bh) := by rw [hc2 _ _ (by simp)]; simp [go_sem]
  have q3 : w2.cell? ⟨w.heap.size + 1, 3, none⟩ = some (.int .i64 be) := by rw [hc2 _ _ (by simp)]; simp [go_sem]
  clear hc1 hf1 hc2 hf2 s1
  have bw : Below w.heap.size w w2 := (((Below.refl _ _).alloc (Nat.le_refl _) _).alloc (by simp) _).trans (b02.mono (by simp; omega))
  clear b1 b2 b02
  go_upto_region 3 with fail
  have n0 := World.new_ne w2 ⟨w.heap.size, 0, none⟩ p0
  have n1 := World.new_ne w2 ⟨w.heap.size + 1, 0, none⟩ q0
  go_cut [5, 6] (fun s5 s6 wx => ∃ b5 b6 : Nat, s5 = .pointer (some ⟨b5, 0, none⟩) ∧ s6 = .pointer (some ⟨b6, 0, none⟩) ∧ At4 wx b5 ax ay ah ae ∧ At4 wx b6 bx b_y bh be ∧ Below w.heap.size w wx)
  case first =>
    go_region_held3 (fun w' => w'.cell? ⟨w.heap.size, 0, none⟩ = some (.int .i64 ax) ∧ w'.cell? ⟨w.heap.size, 1, none⟩ = some (.int .i64 ay) ∧ w'.cell? ⟨w.heap.size, 2, none⟩ = some (.int .i64 ah) ∧ w'.cell? ⟨w.heap.size, 3, none⟩ = some (.int .i64 ae) ∧ w'.cell? ⟨w.heap.size + 1, 0, none⟩ = some (.int .i64 bx) ∧ w'.cell? ⟨w.heap.size + 1, 1, none⟩ = some (.int .i64 b_y) ∧ w'.cell? ⟨w.heap.size + 1, 2, none⟩ = some (.int .i64 bh) ∧ w'.cell? ⟨w.heap.size + 1, 3, none⟩ = some (.int .i64 be)) (refine ⟨?_, ?_, ?_, ?_, ?_, ?_, ?_, ?_⟩ <;> (repeat (first | with_reducible assumption | with_reducible refine keep_alloc _ ?_ | with_reducible refine keep_drew ?_ | (with_reducible refine keep_set _ _ ?_ ?_; (simp <;> omega)) ))) (first | (go_at_call 25; refine (stand_any _ _ _ _ _).mono ?_; rintro e w' ⟨rfl, rfl⟩))
    all_goals (go_wp2_with fail; go_meet)
    all_goals refine ⟨_, _, rfl, rfl, ⟨by simp [go_sem], by simp [go_sem], by simp [go_sem], by simp [go_sem]⟩, ⟨by simp [go_sem], by simp [go_sem], by simp [go_sem], by simp [go_sem]⟩, ?_⟩
    all_goals (refine Below.drew ?_; repeat (first | exact bw | refine balloc _ ?_))
  case rest =>
    obtain ⟨b5, b6, rfl, rfl, ⟨x0, x1, x2, x3⟩, ⟨y0, y1, y2, y3⟩, bx5⟩ := hcut
    clear p0 p1 p2 p3 q0 q1 q2 q3 bw s2 n0 n1
    go_upto_region 4 with fail
    go_region_held3 (fun w' => w'.cell? ⟨b5, 0, none⟩ = some (.int .i64 ax) ∧ w'.cell? ⟨b5, 1, none⟩ = some (.int .i64 ay) ∧ w'.cell? ⟨b5, 2, none⟩ = some (.int .i64 ah) ∧ w'.cell? ⟨b6, 0, none⟩ = some (.int .i64 bx) ∧ w'.cell? ⟨b6, 1, none⟩ = some (.int .i64 b_y) ∧ w'.cell? ⟨b6, 2, none⟩ = some (.int .i64 bh)) (refine ⟨?_, ?_, ?_, ?_, ?_, ?_⟩ <;> (repeat (first | with_reducible assumption | with_reducible refine keep_alloc _ ?_ | with_reducible refine keep_drew ?_))) (first | (go_at_call 27; refine (way_any _ _ _ _ _ (by omega) (by omega) (by omega) (by omega)).mono ?_; rintro e w' ⟨rfl, o1, o2, o3, rfl⟩) | (go_at_call 40; refine (len_any _ _ _).mono ?_; rintro e w' ⟨rfl, o4, o5, rfl⟩))
    go_wp2
    go_ret
    refine ⟨ret_int ?_, Below.drew (balloc _ (balloc _ (balloc _ (balloc _ (balloc _ bx5)))))⟩
    have hn := nm_eq (ax - bx) (ay - b_y) (by omega) (by omega) (by omega) (by omega)
    rw [hn.1]

    obtain ⟨_, t0, t1⟩ := hn
    generalize M.isq ((ax - bx) * (ax - bx) + (ay - b_y) * (ay - b_y)) = t at *
    rw [wrap_id (n := t + ah) (by omega) (by omega), wrap_id (by omega) (by omega)]
theorem fdist_no (ax ay ah ae bx b_y bh be : Int) (w : World) (k : (cok ax ay ah ae && cok bx b_y bh be) = false) :
    Calls Tryd.prog 17 #[.agg #[.int .i64 ax, .int .i64 ay, .int .i64 ah, .int .i64 ae], .agg #[.int .i64 bx, .int .i64 b_y, .int .i64 bh, .int .i64 be]] w fun r w' => r = .returned (.int .i64 0) ∧ Below w.heap.size w w' := by
  by_cases ka : cok ax ay ah ae = true
  · have kb : cok bx b_y bh be = false := by simpa [ka] using k
    go_enter Tryd.func17, Tryd.ntmps17
    go_wp2_with fail
    refine (fok_any _ _ _ _ _).mono ?_
    rintro r w1 ⟨rfl, b1⟩
    obtain ⟨hc1, hf1⟩ := bcell b1
    go_wp2_with fail
    refine (fok_any _ _ _ _ _).mono ?_
    rintro r w2 ⟨rfl, b2⟩
    go_wp2
    go_ret
    exact ⟨rfl, (balloc _ (balloc _ (Below.refl _ _))).trans ((b1.mono (by simp; omega)).trans (b2.mono (by have := b1.size; simp at this; omega)))⟩
  · have ka' : cok ax ay ah ae = false := by simpa using ka
    go_enter Tryd.func17, Tryd.ntmps17
    go_wp2_with fail
    refine (fok_any _ _ _ _ _).mono ?_
    rintro r w1 ⟨rfl, b1⟩
    obtain ⟨hc1, hf1⟩ := bcell b1
    go_wp2
    go_ret
    exact ⟨rfl, (balloc _ (balloc _ (Below.refl _ _))).trans (b1.mono (by simp; omega))⟩
end Go.Proofs.YtajcjanfllpcgaaDoor
