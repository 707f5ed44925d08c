/- How far two coordinates are from each other: the program's way and the model's come to one plain function. -/
import Derived.Test.YtajcjanfllpcgaaDoorDist
import Derived.LoopTactic
import Derived.WalkKit
import Derived.ProofKit
import Derived.WalkLawsBesides
import Derived.Deep.QuietTactic
import Derived.BigQuiet
import Derived.Deep.RegionHeld3
import Derived.Deep.DrawnRows
import Derived.Deep.DeepCutAuto
namespace Go.Proofs.YtajcjanfllpcgaaDoor
open Go.ChangeShapes Go.WideShapes Go.ChangeAt Go.RowKit


attribute [local go_sem ↓] Go.wp_at_zero Go.wp_at_succ
set_option maxHeartbeats 1000000 in
theorem sdist_yes (ax ay ah ae bx b_y bh be : Int) (w : World) (ka : cok ax ay ah ae = true) (kb : cok bx b_y bh be = true) :
    Calls Tryd.prog 18 #[.agg #[.int .i64 ax, .int .i64 ay, .int .i64 ah, .int .i64 ae], .agg #[.int .i64 bx, .int .i64 b_y, .int .i64 bh, .int .i64 be]] w fun r w' => r = .returned (.int .i64 (M.isq ((ax - bx) * (ax - bx) + (ay - b_y) * (ay - b_y)) + ah + bh)) ∧ Below w.heap.size w w' := by
  have ha := cok_bd ka
  have hb := cok_bd kb
  go_enter Tryd.func18, Tryd.ntmps18
  go_wp2_with fail
  refine (sok_any _ _ _ _ _).mono ?_
  rintro r w1 ⟨rfl, b1⟩
  obtain ⟨hc1, hf1⟩ := bcell b1
  have s1 := b1.size
  go_wp2_with fail
  refine (sok_any _ _ _ _ _).mono ?_
  rintro r w2 ⟨rfl, b2⟩
  have b02 := b1.trans (b2.mono b1.size)
  obtain ⟨hc2, hf2⟩ := bcell b02
  have p0 : w2.cell? ⟨w.heap.size, 0, none⟩ = some (.int .i64 ax) := by rw [hc2 _ _ (by simp; omega)]; simp [go_sem]
  have p1 : w2.cell? ⟨w.heap.size, 1, none⟩ = some (.int .i64 ay) := by rw [hc2 _ _ (by simp; omega)]; simp [go_sem]
  have p2 : w2.cell? ⟨w.heap.size, 2, none⟩ = some (.int .i64 ah) := by rw [hc2 _ _ (by simp; omega)]; simp [go_sem]
  have q0 : w2.cell? ⟨w.heap.size + 1, 0, none⟩ = some (.int .i64 bx) := by rw [hc2 _ _ (by simp)]; simp [go_sem]
  have q1 : w2.cell? ⟨w.heap.size + 1, 1, none⟩ = some (.int .i64 b_y) := by rw [hc2 _ _ (by simp)]; simp [go_sem]
  have q2 : w2.cell? ⟨w.heap.size + 1, 2, none⟩ = some (.int .i64 bh) := by rw [hc2 _ _ (by simp)]; simp [go_sem]
  clear hc1 hf1 hc2 hf2 s1
  have bw : Below w.heap.size w w2 := (((Below.refl _ _).alloc (Nat.le_refl _) _).alloc (by simp) _).trans (b02.mono (by simp; omega))
  clear b1 b2 b02
  go_upto_region 3 with fail
  go_region_held3 (fun w' => w'.cell? ⟨w.heap.size, 0, none⟩ = some (.int .i64 ax) ∧ w'.cell? ⟨w.heap.size, 1, none⟩ = some (.int .i64 ay) ∧ w'.cell? ⟨w.heap.size, 2, none⟩ = some (.int .i64 ah) ∧ w'.cell? ⟨w.heap.size + 1, 0, none⟩ = some (.int .i64 bx) ∧ w'.cell? ⟨w.heap.size + 1, 1, none⟩ = some (.int .i64 b_y) ∧ w'.cell? ⟨w.heap.size + 1, 2, none⟩ = some (.int .i64 bh)) (refine ⟨?_, ?_, ?_, ?_, ?_, ?_⟩ <;> (repeat (first | with_reducible assumption | with_reducible refine keep_alloc _ ?_ | with_reducible refine keep_drew ?_))) (first | (go_at_call 34; refine (snm_any _ _ _).mono ?_; rintro e w' ⟨rfl, rfl⟩))
  go_wp2
  go_ret
  refine ⟨ret_int ?_, Below.drew bw⟩
  rw [wrap_id (n := ax - bx) (by omega) (by omega), wrap_id (n := ay - b_y) (by omega) (by omega)]
  have hn := nm_eq (ax - bx) (ay - b_y) (by omega) (by omega) (by omega) (by omega)
  rw [hn.1]
  obtain ⟨_, t0, t1⟩ := hn
  generalize M.isq ((ax - bx) * (ax - bx) + (ay - b_y) * (ay - b_y)) = t at *
  rw [wrap_id (n := t + ah) (by omega) (by omega), wrap_id (by omega) (by omega)]
theorem sdist_no (ax ay ah ae bx b_y bh be : Int) (w : World) (k : (cok ax ay ah ae && cok bx b_y bh be) = false) :
    Calls Tryd.prog 18 #[.agg #[.int .i64 ax, .int .i64 ay, .int .i64 ah, .int .i64 ae], .agg #[.int .i64 bx, .int .i64 b_y, .int .i64 bh, .int .i64 be]] w fun r w' => r = .returned (.int .i64 0) ∧ Below w.heap.size w w' := by
  by_cases ka : cok ax ay ah ae = true
  · have kb : cok bx b_y bh be = false := by simpa [ka] using k
    go_enter Tryd.func18, Tryd.ntmps18
    go_wp2_with fail
    refine (sok_any _ _ _ _ _).mono ?_
    rintro r w1 ⟨rfl, b1⟩
    obtain ⟨hc1, hf1⟩ := bcell b1
    go_wp2_with fail
    refine (sok_any _ _ _ _ _).mono ?_
    rintro r w2 ⟨rfl, b2⟩
    go_wp2
    go_ret
    exact ⟨rfl, (balloc _ (balloc _ (Below.refl _ _))).trans ((b1.mono (by simp; omega)).trans (b2.mono (by have := b1.size; simp at this; omega)))⟩
  · have ka' : cok ax ay ah ae = false := by simpa using ka
    go_enter Tryd.func18, Tryd.ntmps18
    go_wp2_with fail
    refine (sok_any _ _ _ _ _).mono ?_
    rintro r w1 ⟨rfl, b1⟩
    obtain ⟨hc1, hf1⟩ := bcell b1
    go_wp2
    go_ret
    exact ⟨rfl, (balloc _ (balloc _ (Below.refl _ _))).trans (b1.mono (by simp; omega))⟩
/-- how far two are from each other -/
def dst (ax ay ah ae bx b_y bh be : Int) : Int := if (cok ax ay ah ae && cok bx b_y bh be) = true then M.isq ((ax - bx) * (ax - bx) + (ay - b_y) * (ay - b_y)) + ah + bh else 0
theorem fdist_any (ax ay ah ae bx b_y bh be : Int) (w : World) :
    Calls Tryd.prog 17 #[.agg #[.int .i64 ax, .int .i64 ay, .int .i64 ah, .int .i64 ae], .agg #[.int .i64 bx, .int .i64 b_y, .int .i64 bh, .int .i64 be]] w fun r w' => r = .returned (.int .i64 (dst ax ay ah ae bx b_y bh be)) ∧ Below w.heap.size w w' := by
  by_cases k : (cok ax ay ah ae && cok bx b_y bh be) = true
  · rw [dst, if_pos k]
    have k2 : cok ax ay ah ae = true ∧ cok bx b_y bh be = true := by simpa using k
    exact fdist_yes _ _ _ _ _ _ _ _ w k2.1 k2.2
  · rw [dst, if_neg k]
    exact fdist_no _ _ _ _ _ _ _ _ w (by simpa using k)
theorem sdist_any (ax ay ah ae bx b_y bh be : Int) (w : World) :
    Calls Tryd.prog 18 #[.agg #[.int .i64 ax, .int .i64 ay, .int .i64 ah, .int .i64 ae], .agg #[.int .i64 bx, .int .i64 b_y, .int .i64 bh, .int .i64 be]] w fun r w' => r = .returned (.int .i64 (dst ax ay ah ae bx b_y bh be)) ∧ Below w.heap.size w w' := by
  by_cases k : (cok ax ay ah ae && cok bx b_y bh be) = true
  · rw [dst, if_pos k]
    have k2 : cok ax ay ah ae = true ∧ cok bx b_y bh be = true := by simpa using k
    exact sdist_yes _ _ _ _ _ _ _ _ w k2.1 k2.2
  · rw [dst, if_neg k]
    exact sdist_no _ _ _ _ _ _ _ _ w (by simpa using k)
end Go.Proofs.YtajcjanfllpcgaaDoor
