/- A move that cannot be: the program's and the model's answers where a coordinate is not ok or the trip cannot have been. -/
import Derived.Test.YtajcjanfllpcgaaDoorSmove
import Derived.LoopTactic
import Derived.WalkKit
import Derived.ProofKit
import Derived.WalkLawsBesides
import Derived.Deep.QuietTactic
import Derived.BigQuiet
import Derived.Deep.RegionHeld3
import Derived.Deep.DrawnRows
namespace Go.Proofs.YtajcjanfllpcgaaDoor
open Go.ChangeShapes Go.WideShapes Go.ChangeAt Go.RowKit
attribute [local go_sem ↓] Go.wp_at_zero Go.wp_at_succ
theorem fmove_bad (ax ay ah ae bx b_y bh be trip turn : Int) (w : World) (ka : cok ax ay ah ae = false) :
    Calls Tryd.prog 10 #[.agg #[.int .i64 ax, .int .i64 ay, .int .i64 ah, .int .i64 ae], .agg #[.int .i64 bx, .int .i64 b_y, .int .i64 bh, .int .i64 be], .int .i64 trip, .int .i64 turn] w fun r w' => r = .returned (.agg #[.int .i64 0, .int .i64 0, .int .i64 0, .int .i64 0]) ∧ Below w.heap.size w w' := by
  go_enter Tryd.func10, Tryd.ntmps10
  go_wp2_with fail
  refine (fok_any _ _ _ _ _).mono ?_
  rintro r w1 ⟨rfl, b1⟩
  obtain ⟨hc1, hf1⟩ := bcell b1
  have r0 : w1.cell? ⟨w.heap.size + 1 + 1, 0, none⟩ = some (.int .i64 0) ∧ w1.frozen? ⟨w.heap.size + 1 + 1, 0, none⟩ = false := ⟨by rw [hc1 _ _ (by simp)]; simp [go_sem], by rw [hf1 _ _ (by simp)]; simp [go_sem]⟩
  have r1 : w1.cell? ⟨w.heap.size + 1 + 1, 1, none⟩ = some (.int .i64 0) ∧ w1.frozen? ⟨w.heap.size + 1 + 1, 1, none⟩ = false := ⟨by rw [hc1 _ _ (by simp)]; simp [go_sem], by rw [hf1 _ _ (by simp)]; simp [go_sem]⟩
  have r2 : w1.cell? ⟨w.heap.size + 1 + 1, 2, none⟩ = some (.int .i64 0) ∧ w1.frozen? ⟨w.heap.size + 1 + 1, 2, none⟩ = false := ⟨by rw [hc1 _ _ (by simp)]; simp [go_sem], by rw [hf1 _ _ (by simp)]; simp [go_sem]⟩
  have r3 : w1.cell? ⟨w.heap.size + 1 + 1, 3, none⟩ = some (.int .i64 0) ∧ w1.frozen? ⟨w.heap.size + 1 + 1, 3, none⟩ = false := ⟨by rw [hc1 _ _ (by simp)]; simp [go_sem], by rw [hf1 _ _ (by simp)]; simp [go_sem]⟩
  have bw : Below w.heap.size w w1 := (balloc _ (balloc _ (balloc _ (Below.refl _ _)))).trans (b1.mono (by simp; omega))
  clear hc1 hf1 b1
  go_wp2
  refine bodyPost_ret (v := .agg #[.int .i64 0, .int .i64 0, .int .i64 0, .int .i64 0]) (by simp [results, Tryd.results10, go_sem, r0, r1, r2, r3]) rfl ⟨rfl, ?_⟩
  exact (((bw.setCell (p := ⟨w.heap.size + 1 + 1, 0, none⟩) (by simp; omega) _).setCell (p := ⟨w.heap.size + 1 + 1, 1, none⟩) (by simp; omega) _).setCell (p := ⟨w.heap.size + 1 + 1, 2, none⟩) (by simp; omega) _).setCell (p := ⟨w.heap.size + 1 + 1, 3, none⟩) (by simp; omega) _
theorem fmove_stay (ax ay ah ae bx b_y bh be trip turn : Int) (w : World) (ka : cok ax ay ah ae = true) (kb : (cok bx b_y bh be && inb trip 1 60000) = false) :
    Calls Tryd.prog 10 #[.agg #[.int .i64 ax, .int .i64 ay, .int .i64 ah, .int .i64 ae], .agg #[.int .i64 bx, .int .i64 b_y, .int .i64 bh, .int .i64 be], .int .i64 trip, .int .i64 turn] w fun r w' => r = .returned (.agg #[.int .i64 ax, .int .i64 ay, .int .i64 ah, .int .i64 ae]) ∧ Below w.heap.size w w' := by
  go_enter Tryd.func10, Tryd.ntmps10
  go_wp2_with fail
  refine (fok_any _ _ _ _ _).mono ?_
  rintro r w1 ⟨rfl, b1⟩
  obtain ⟨hc1, hf1⟩ := bcell b1
  have s1 := b1.size
  go_wp2_with fail
  refine (fok_any _ _ _ _ _).mono ?_
  rintro r w2 ⟨rfl, b2⟩
  have b02 := b1.trans (b2.mono b1.size)
  obtain ⟨hc2, hf2⟩ := bcell b02
  have p0 : w2.cell? ⟨w.heap.size, 0, none⟩ = some (.int .i64 ax) := by rw [hc2 _ _ (by simp; omega)]; simp [go_sem]
  have p1 : w2.cell? ⟨w.heap.size, 1, none⟩ = some (.int .i64 ay) := by rw [hc2 _ _ (by simp; omega)]; simp [go_sem]
  have p2 : w2.cell? ⟨w.heap.size, 2, none⟩ = some (.int .i64 ah) := by rw [hc2 _ _ (by simp; omega)]; simp [go_sem]
  have p3 : w2.cell? ⟨w.heap.size, 3, none⟩ = some (.int .i64 ae) := by rw [hc2 _ _ (by simp; omega)]; simp [go_sem]
  have r0 : w2.cell? ⟨w.heap.size + 1 + 1, 0, none⟩ = some (.int .i64 0) ∧ w2.frozen? ⟨w.heap.size + 1 + 1, 0, none⟩ = false := ⟨by rw [hc2 _ _ (by simp)]; simp [go_sem], by rw [hf2 _ _ (by simp)]; simp [go_sem]⟩
  have r1 : w2.cell? ⟨w.heap.size + 1 + 1, 1, none⟩ = some (.int .i64 0) ∧ w2.frozen? ⟨w.heap.size + 1 + 1, 1, none⟩ = false := ⟨by rw [hc2 _ _ (by simp)]; simp [go_sem], by rw [hf2 _ _ (by simp)]; simp [go_sem]⟩
  have r2 : w2.cell? ⟨w.heap.size + 1 + 1, 2, none⟩ = some (.int .i64 0) ∧ w2.frozen? ⟨w.heap.size + 1 + 1, 2, none⟩ = false := ⟨by rw [hc2 _ _ (by simp)]; simp [go_sem], by rw [hf2 _ _ (by simp)]; simp [go_sem]⟩
  have r3 : w2.cell? ⟨w.heap.size + 1 + 1, 3, none⟩ = some (.int .i64 0) ∧ w2.frozen? ⟨w.heap.size + 1 + 1, 3, none⟩ = false := ⟨by rw [hc2 _ _ (by simp)]; simp [go_sem], by rw [hf2 _ _ (by simp)]; simp [go_sem]⟩
  have bw : Below w.heap.size w w2 := (balloc _ (balloc _ (balloc _ (Below.refl _ _)))).trans (b02.mono (by simp; omega))
  clear hc1 hf1 hc2 hf2 s1 b1 b2 b02
  have fin : Below w.heap.size w ((((w2.setCell ⟨w.heap.size + 1 + 1, 0, none⟩ (.int .i64 ax)).setCell ⟨w.heap.size + 1 + 1, 1, none⟩ (.int .i64 ay)).setCell ⟨w.heap.size + 1 + 1, 2, none⟩ (.int .i64 ah)).setCell ⟨w.heap.size + 1 + 1, 3, none⟩ (.int .i64 ae)) :=
    (((bw.setCell (p := ⟨w.heap.size + 1 + 1, 0, none⟩) (by simp; omega) _).setCell (p := ⟨w.heap.size + 1 + 1, 1, none⟩) (by simp; omega) _).setCell (p := ⟨w.heap.size + 1 + 1, 2, none⟩) (by simp; omega) _).setCell (p := ⟨w.heap.size + 1 + 1, 3, none⟩) (by simp; omega) _
  by_cases kb1 : cok bx b_y bh be = true
  · have kt : inb trip 1 60000 = false := by simpa [kb1] using kb
    clear kb
    go_wp2_with (go_at_call 24; refine (within_any _ _ _ _).mono ?_; rintro e w' ⟨rfl, hw⟩; obtain rfl := hw.symm)
    exact bodyPost_ret (v := .agg #[.int .i64 ax, .int .i64 ay, .int .i64 ah, .int .i64 ae]) (by simp [results, Tryd.results10, go_sem, r0, r1, r2, r3]) rfl ⟨rfl, fin⟩
  · have kb2 : cok bx b_y bh be = false := by simpa using kb1
    clear kb kb1
    go_wp2
    exact bodyPost_ret (v := .agg #[.int .i64 ax, .int .i64 ay, .int .i64 ah, .int .i64 ae]) (by simp [results, Tryd.results10, go_sem, r0, r1, r2, r3]) rfl ⟨rfl, fin⟩
theorem smove_bad (ax ay ah ae bx b_y bh be trip turn : Int) (w : World) (ka : cok ax ay ah ae = false) :
    Calls Tryd.prog 11 #[.agg #[.int .i64 ax, .int .i64 ay, .int .i64 ah, .int .i64 ae], .agg #[.int .i64 bx, .int .i64 b_y, .int .i64 bh, .int .i64 be], .int .i64 trip, .int .i64 turn] w fun r w' => r = .returned (.agg #[.int .i64 0, .int .i64 0, .int .i64 0, .int .i64 0]) ∧ Below w.heap.size w w' := by
  go_enter Tryd.func11, Tryd.ntmps11
  go_wp2_with fail
  refine (sok_any _ _ _ _ _).mono ?_
  rintro r w1 ⟨rfl, b1⟩
  obtain ⟨hc1, hf1⟩ := bcell b1
  have r0 : w1.cell? ⟨w.heap.size + 1 + 1, 0, none⟩ = some (.int .i64 0) ∧ w1.frozen? ⟨w.heap.size + 1 + 1, 0, none⟩ = false := ⟨by rw [hc1 _ _ (by simp)]; simp [go_sem], by rw [hf1 _ _ (by simp)]; simp [go_sem]⟩
  have r1 : w1.cell? ⟨w.heap.size + 1 + 1, 1, none⟩ = some (.int .i64 0) ∧ w1.frozen? ⟨w.heap.size + 1 + 1, 1, none⟩ = false := ⟨by rw [hc1 _ _ (by simp)]; simp [go_sem], by rw [hf1 _ _ (by simp)]; simp [go_sem]⟩
  have r2 : w1.cell? ⟨w.heap.size + 1 + 1, 2, none⟩ = some (.int .i64 0) ∧ w1.frozen? ⟨w.heap.size + 1 + 1, 2, none⟩ = false := ⟨by rw [hc1 _ _ (by simp)]; simp [go_sem], by rw [hf1 _ _ (by simp)]; simp [go_sem]⟩
  have r3 : w1.cell? ⟨w.heap.size + 1 + 1, 3, none⟩ = some (.int .i64 0) ∧ w1.frozen? ⟨w.heap.size + 1 + 1, 3, none⟩ = false := ⟨by rw [hc1 _ _ (by simp)]; simp [go_sem], by rw [hf1 _ _ (by simp)]; simp [go_sem]⟩
  have bw : Below w.heap.size w w1 := (balloc _ (balloc _ (balloc _ (Below.refl _ _)))).trans (b1.mono (by simp; omega))
  clear hc1 hf1 b1
  go_wp2
  refine bodyPost_ret (v := .agg #[.int .i64 0, .int .i64 0, .int .i64 0, .int .i64 0]) (by simp [results, Tryd.results11, go_sem, r0, r1, r2, r3]) rfl ⟨rfl, ?_⟩
  exact (((bw.setCell (p := ⟨w.heap.size + 1 + 1, 0, none⟩) (by simp; omega) _).setCell (p := ⟨w.heap.size + 1 + 1, 1, none⟩) (by simp; omega) _).setCell (p := ⟨w.heap.size + 1 + 1, 2, none⟩) (by simp; omega) _).setCell (p := ⟨w.heap.size + 1 + 1, 3, none⟩) (by simp; omega) _
theorem smove_stay (ax ay ah ae bx b_y bh be trip turn : Int) (w : World) (ka : cok ax ay ah ae = true) (kb : (cok bx b_y bh be && inb trip 1 60000) = false) :
    Calls Tryd.prog 11 #[.agg #[.int .i64 ax, .int .i64 ay, .int .i64 ah, .int .i64 ae], .agg #[.int .i64 bx, .int .i64 b_y, .int .i64 bh, .int .i64 be], .int .i64 trip, .int .i64 turn] w fun r w' => r = .returned (.agg #[.int .i64 ax, .int .i64 ay, .int .i64 ah, .int .i64 ae]) ∧ Below w.heap.size w w' := by
  go_enter Tryd.func11, Tryd.ntmps11
  go_wp2_with fail
  refine (sok_any _ _ _ _ _).mono ?_
  rintro r w1 ⟨rfl, b1⟩
  obtain ⟨hc1, hf1⟩ := bcell b1
  have s1 := b1.size
  go_wp2_with fail
  refine (sok_any _ _ _ _ _).mono ?_
  rintro r w2 ⟨rfl, b2⟩
  have b02 := b1.trans (b2.mono b1.size)
  obtain ⟨hc2, hf2⟩ := bcell b02
  have p0 : w2.cell? ⟨w.heap.size, 0, none⟩ = some (.int .i64 ax) := by rw [hc2 _ _ (by simp; omega)]; simp [go_sem]
  have p1 : w2.cell? ⟨w.heap.size, 1, none⟩ = some (.int .i64 ay) := by rw [hc2 _ _ (by simp; omega)]; simp [go_sem]
  have p2 : w2.cell? ⟨w.heap.size, 2, none⟩ = some (.int .i64 ah) := by rw [hc2 _ _ (by simp; omega)]; simp [go_sem]
  have p3 : w2.cell? ⟨w.heap.size, 3, none⟩ = some (.int .i64 ae) := by rw [hc2 _ _ (by simp; omega)]; simp [go_sem]
  have r0 : w2.cell? ⟨w.heap.size + 1 + 1, 0, none⟩ = some (.int .i64 0) ∧ w2.frozen? ⟨w.heap.size + 1 + 1, 0, none⟩ = false := ⟨by rw [hc2 _ _ (by simp)]; simp [go_sem], by rw [hf2 _ _ (by simp)]; simp [go_sem]⟩
  have r1 : w2.cell? ⟨w.heap.size + 1 + 1, 1, none⟩ = some (.int .i64 0) ∧ w2.frozen? ⟨w.heap.size + 1 + 1, 1, none⟩ = false := ⟨by rw [hc2 _ _ (by simp)]; simp [go_sem], by rw [hf2 _ _ (by simp)]; simp [go_sem]⟩
  have r2 : w2.cell? ⟨w.heap.size + 1 + 1, 2, none⟩ = some (.int .i64 0) ∧ w2.frozen? ⟨w.heap.size + 1 + 1, 2, none⟩ = false := ⟨by rw [hc2 _ _ (by simp)]; simp [go_sem], by rw [hf2 _ _ (by simp)]; simp [go_sem]⟩
  have r3 : w2.cell? ⟨w.heap.size + 1 + 1, 3, none⟩ = some (.int .i64 0) ∧ w2.frozen? ⟨w.heap.size + 1 + 1, 3, none⟩ = false := ⟨by rw [hc2 _ _ (by simp)]; simp [go_sem], by rw [hf2 _ _ (by simp)]; simp [go_sem]⟩
  have bw : Below w.heap.size w w2 := (balloc _ (balloc _ (balloc _ (Below.refl _ _)))).trans (b02.mono (by simp; omega))
  clear hc1 hf1 hc2 hf2 s1 b1 b2 b02
  have fin : Below w.heap.size w ((((w2.setCell ⟨w.heap.size + 1 + 1, 0, none⟩ (.int .i64 ax)).setCell ⟨w.heap.size + 1 + 1, 1, none⟩ (.int .i64 ay)).setCell ⟨w.heap.size + 1 + 1, 2, none⟩ (.int .i64 ah)).setCell ⟨w.heap.size + 1 + 1, 3, none⟩ (.int .i64 ae)) :=
    (((bw.setCell (p := ⟨w.heap.size + 1 + 1, 0, none⟩) (by simp; omega) _).setCell (p := ⟨w.heap.size + 1 + 1, 1, none⟩) (by simp; omega) _).setCell (p := ⟨w.heap.size + 1 + 1, 2, none⟩) (by simp; omega) _).setCell (p := ⟨w.heap.size + 1 + 1, 3, none⟩) (by simp; omega) _
  by_cases kb1 : cok bx b_y bh be = true
  · have kt : inb trip 1 60000 = false := by simpa [kb1] using kb
    clear kb
    go_wp2_with (go_at_call 32; refine (lin_any _ _ _ _).mono ?_; rintro e w' ⟨rfl, hw⟩; obtain rfl := hw.symm)
    exact bodyPost_ret (v := .agg #[.int .i64 ax, .int .i64 ay, .int .i64 ah, .int .i64 ae]) (by simp [results, Tryd.results11, go_sem, r0, r1, r2, r3]) rfl ⟨rfl, fin⟩
  · have kb2 : cok bx b_y bh be = false := by simpa using kb1
    clear kb kb1
    go_wp2
    exact bodyPost_ret (v := .agg #[.int .i64 ax, .int .i64 ay, .int .i64 ah, .int .i64 ae]) (by simp [results, Tryd.results11, go_sem, r0, r1, r2, r3]) rfl ⟨rfl, fin⟩
end Go.Proofs.YtajcjanfllpcgaaDoor
