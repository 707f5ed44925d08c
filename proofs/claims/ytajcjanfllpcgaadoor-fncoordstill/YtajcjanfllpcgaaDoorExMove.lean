/- The exact law of CoordMove, walked: the program and the model come to the same four numbers. -/
import Derived.Test.YtajcjanfllpcgaaDoorStay
import Derived.LoopTactic
import Derived.WalkKit
import Derived.ProofKit
import Derived.WalkLawsBesides
import Derived.Deep.QuietTactic
import Derived.BigQuiet
import Derived.Deep.RegionHeld3
import Derived.Deep.DrawnRows
import Derived.Deep.DeepCutAuto
namespace Go.Proofs.YtajcjanfllpcgaaDoor
open Go.ChangeShapes Go.WideShapes Go.ChangeAt Go.RowKit

attribute [local go_sem ↓] Go.wp_at_zero Go.wp_at_succ
theorem keep_below {W w' : World} {b o : Nat} {v : Value} (hb : Below W.heap.size W w') (h : W.cell? ⟨b, o, none⟩ = some v) : w'.cell? ⟨b, o, none⟩ = some v :=
  (hb.cell (p := ⟨b, o, none⟩) (World.block_lt_of_cell? W _ h)).trans h
theorem btrans {a W w' : World} (h : Below a.heap.size a W) (k : Below W.heap.size W w') : Below a.heap.size a w' := h.trans (k.mono h.size)
theorem bset {a w : World} (R o : Nat) (v : Value) (hR : a.heap.size ≤ R) (h : Below a.heap.size a w) : Below a.heap.size a (w.setCell ⟨R, o, none⟩ v) := h.setCell (p := ⟨R, o, none⟩) hR v
theorem set4 {w : World} {b : Nat} {v0 v1 v2 v3 : Value} {X Y H E : Int} (c0 : w.cell? ⟨b, 0, none⟩ = some v0) (c1 : w.cell? ⟨b, 1, none⟩ = some v1) (c2 : w.cell? ⟨b, 2, none⟩ = some v2) (c3 : w.cell? ⟨b, 3, none⟩ = some v3) : At4 ((((w.setCell ⟨b, 0, none⟩ (.int .i64 X)).setCell ⟨b, 1, none⟩ (.int .i64 Y)).setCell ⟨b, 2, none⟩ (.int .i64 H)).setCell ⟨b, 3, none⟩ (.int .i64 E)) b X Y H E := by
  refine ⟨?_, ?_, ?_, ?_⟩ <;> simp [go_sem, c0, c1, c2, c3]
theorem eqc_any (x y z e : Int) (w : World) :
    Calls Tryd.prog 20 #[.agg #[.int .i64 x, .int .i64 y, .int .i64 z, .int .i64 e], .agg #[.int .i64 x, .int .i64 y, .int .i64 z, .int .i64 e]] w fun r w' => r = .returned (.bool true) ∧ Below w.heap.size w w' := by
  go_enter Tryd.func20, Tryd.ntmps20
  go_wp2
  go_ret
  exact ⟨rfl, balloc _ (balloc _ (Below.refl _ _))⟩
theorem toc_any (x y z e : Int) (w : World) :
    Calls Tryd.prog 19 #[.agg #[.int .i64 x, .int .i64 y, .int .i64 z, .int .i64 e]] w fun r w' => r = .returned (.agg #[.int .i64 x, .int .i64 y, .int .i64 z, .int .i64 e]) ∧ ∃ o1 o2 o3, w' = ((w.alloc o1).alloc o2).alloc o3 := by
  go_enter Tryd.func19, Tryd.ntmps19
  go_wp2
  exact bodyPost_ret (v := .agg #[.int .i64 x, .int .i64 y, .int .i64 z, .int .i64 e]) (by simp [results, Tryd.results19, go_sem]) rfl ⟨rfl, _, _, _, rfl⟩
/-- the model's move, and the program's, come to these four numbers -/
def SMove (ax ay ah ae bx b_y bh be trip turn X Y H E : Int) : Prop := ∀ w : World, Calls Tryd.prog 11 #[.agg #[.int .i64 ax, .int .i64 ay, .int .i64 ah, .int .i64 ae], .agg #[.int .i64 bx, .int .i64 b_y, .int .i64 bh, .int .i64 be], .int .i64 trip, .int .i64 turn] w fun r w' => r = .returned (.agg #[.int .i64 X, .int .i64 Y, .int .i64 H, .int .i64 E]) ∧ Below w.heap.size w w'
def FMove (ax ay ah ae bx b_y bh be trip turn X Y H E : Int) : Prop := ∀ w : World, Turns w → Calls Tryd.prog 10 #[.agg #[.int .i64 ax, .int .i64 ay, .int .i64 ah, .int .i64 ae], .agg #[.int .i64 bx, .int .i64 b_y, .int .i64 bh, .int .i64 be], .int .i64 trip, .int .i64 turn] w fun r w' => r = .returned (.agg #[.int .i64 X, .int .i64 Y, .int .i64 H, .int .i64 E]) ∧ Below w.heap.size w w'
theorem moves (ax ay ah ae bx b_y bh be trip turn : Int) : ∃ X Y H E : Int, SMove ax ay ah ae bx b_y bh be trip turn X Y H E ∧ FMove ax ay ah ae bx b_y bh be trip turn X Y H E := by
  by_cases ka : cok ax ay ah ae = true
  · by_cases kb : (cok bx b_y bh be && inb trip 1 60000) = true
    · have k2 : cok bx b_y bh be = true ∧ inb trip 1 60000 = true := by simpa using kb
      exact ⟨_, _, _, _, fun w => smove_yes _ _ _ _ _ _ _ _ _ _ w ka k2.1 k2.2, fun w ht => fmove_yes _ _ _ _ _ _ _ _ _ _ w ht ka k2.1 k2.2⟩
    · have k2 : (cok bx b_y bh be && inb trip 1 60000) = false := by simpa using kb
      exact ⟨ax, ay, ah, ae, fun w => smove_stay _ _ _ _ _ _ _ _ _ _ w ka k2, fun w _ => fmove_stay _ _ _ _ _ _ _ _ _ _ w ka k2⟩
  · have k2 : cok ax ay ah ae = false := by simpa using ka
    exact ⟨0, 0, 0, 0, fun w => smove_bad _ _ _ _ _ _ _ _ _ _ w k2, fun w _ => fmove_bad _ _ _ _ _ _ _ _ _ _ w k2⟩
set_option maxRecDepth 100000 in
set_option maxHeartbeats 2000000 in
theorem exMove_walk (ax ay ah ae bx b_y bh be trip turn : Int) (w : World) (ht : Turns w) :
    Calls Tryd.prog 8 #[.agg #[.int .i64 ax, .int .i64 ay, .int .i64 ah, .int .i64 ae], .agg #[.int .i64 bx, .int .i64 b_y, .int .i64 bh, .int .i64 be], .int .i64 trip, .int .i64 turn] w fun r w' => r = .returned (.bool true) ∧ Below w.heap.size w w' := by
  obtain ⟨X, Y, H, E, hS, hF⟩ := moves ax ay ah ae bx b_y bh be trip turn
  go_enter Tryd.func8, Tryd.ntmps8
  go_wp2_with fail
  have p0 : ((w.alloc (.cells #[.int .i64 ax, .int .i64 ay, .int .i64 ah, .int .i64 ae] 34)).alloc (.cells #[.int .i64 bx, .int .i64 b_y, .int .i64 bh, .int .i64 be] 34)).cell? ⟨w.heap.size, 0, none⟩ = some (.int .i64 ax) := by simp [go_sem]
  have p1 : ((w.alloc (.cells #[.int .i64 ax, .int .i64 ay, .int .i64 ah, .int .i64 ae] 34)).alloc (.cells #[.int .i64 bx, .int .i64 b_y, .int .i64 bh, .int .i64 be] 34)).cell? ⟨w.heap.size, 1, none⟩ = some (.int .i64 ay) := by simp [go_sem]
  have p2 : ((w.alloc (.cells #[.int .i64 ax, .int .i64 ay, .int .i64 ah, .int .i64 ae] 34)).alloc (.cells #[.int .i64 bx, .int .i64 b_y, .int .i64 bh, .int .i64 be] 34)).cell? ⟨w.heap.size, 2, none⟩ = some (.int .i64 ah) := by simp [go_sem]
  have p3 : ((w.alloc (.cells #[.int .i64 ax, .int .i64 ay, .int .i64 ah, .int .i64 ae] 34)).alloc (.cells #[.int .i64 bx, .int .i64 b_y, .int .i64 bh, .int .i64 be] 34)).cell? ⟨w.heap.size, 3, none⟩ = some (.int .i64 ae) := by simp [go_sem]
  have q0 : ((w.alloc (.cells #[.int .i64 ax, .int .i64 ay, .int .i64 ah, .int .i64 ae] 34)).alloc (.cells #[.int .i64 bx, .int .i64 b_y, .int .i64 bh, .int .i64 be] 34)).cell? ⟨w.heap.size + 1, 0, none⟩ = some (.int .i64 bx) := by simp [go_sem]
  have q1 : ((w.alloc (.cells #[.int .i64 ax, .int .i64 ay, .int .i64 ah, .int .i64 ae] 34)).alloc (.cells #[.int .i64 bx, .int .i64 b_y, .int .i64 bh, .int .i64 be] 34)).cell? ⟨w.heap.size + 1, 1, none⟩ = some (.int .i64 b_y) := by simp [go_sem]
  have q2 : ((w.alloc (.cells #[.int .i64 ax, .int .i64 ay, .int .i64 ah, .int .i64 ae] 34)).alloc (.cells #[.int .i64 bx, .int .i64 b_y, .int .i64 bh, .int .i64 be] 34)).cell? ⟨w.heap.size + 1, 2, none⟩ = some (.int .i64 bh) := by simp [go_sem]
  have q3 : ((w.alloc (.cells #[.int .i64 ax, .int .i64 ay, .int .i64 ah, .int .i64 ae] 34)).alloc (.cells #[.int .i64 bx, .int .i64 b_y, .int .i64 bh, .int .i64 be] 34)).cell? ⟨w.heap.size + 1, 3, none⟩ = some (.int .i64 be) := by simp [go_sem]
  have bw0 : Below w.heap.size w ((w.alloc (.cells #[.int .i64 ax, .int .i64 ay, .int .i64 ah, .int .i64 ae] 34)).alloc (.cells #[.int .i64 bx, .int .i64 b_y, .int .i64 bh, .int .i64 be] 34)) := balloc _ (balloc _ (Below.refl _ _))
  generalize ((w.alloc (.cells #[.int .i64 ax, .int .i64 ay, .int .i64 ah, .int .i64 ae] 34)).alloc (.cells #[.int .i64 bx, .int .i64 b_y, .int .i64 bh, .int .i64 be] 34)) = W0 at *
  have hKA : w.heap.size < W0.heap.size := World.block_lt_of_cell? _ _ p0
  have hKB : w.heap.size + 1 < W0.heap.size := World.block_lt_of_cell? _ _ q0
  go_cut [9] (fun s9 wx => ∃ b9 : Nat, s9 = .pointer (some ⟨b9, 0, none⟩) ∧ At4 wx b9 X Y H E ∧ Below W0.heap.size W0 wx)
  case first =>
    go_region_held3 (fun w' => w'.cell? ⟨w.heap.size, 0, none⟩ = some (.int .i64 ax) ∧ w'.cell? ⟨w.heap.size, 1, none⟩ = some (.int .i64 ay) ∧ w'.cell? ⟨w.heap.size, 2, none⟩ = some (.int .i64 ah) ∧ w'.cell? ⟨w.heap.size, 3, none⟩ = some (.int .i64 ae) ∧ w'.cell? ⟨w.heap.size + 1, 0, none⟩ = some (.int .i64 bx) ∧ w'.cell? ⟨w.heap.size + 1, 1, none⟩ = some (.int .i64 b_y) ∧ w'.cell? ⟨w.heap.size + 1, 2, none⟩ = some (.int .i64 bh) ∧ w'.cell? ⟨w.heap.size + 1, 3, none⟩ = some (.int .i64 be)) (refine ⟨?_, ?_, ?_, ?_, ?_, ?_, ?_, ?_⟩ <;> (repeat (first | with_reducible assumption | with_reducible refine keep_alloc _ ?_ | with_reducible refine keep_drew ?_ | with_reducible refine keep_below (by assumption) ?_ | with_reducible refine keep_set' _ ?_ ?_ | omega))) (first | (go_at_call 19; refine (toc_any _ _ _ _ _).mono ?_; rintro e w' ⟨rfl, o1, o2, o3, rfl⟩) | (go_at_call 11; refine (hS _).mono ?_; rintro e w' ⟨rfl, b⟩; obtain ⟨hc, hf⟩ := bcell b; have hs := b.size; (try simp at hs)))
    all_goals (go_wp2_with fail; go_meet)
    all_goals refine ⟨_, rfl, ?_, ?_⟩
    all_goals first | (refine ⟨?_, ?_, ?_, ?_⟩ <;> (simp [go_sem]; done)) | (refine ⟨?_, ?_, ?_, ?_⟩ <;> (simp [go_sem, hc]; done)) | (exact set4 (v0 := .int .i64 0) (v1 := .int .i64 0) (v2 := .int .i64 0) (v3 := .int .i64 0) (keep_below b (by repeat (first | (simp; done) | with_reducible refine keep_drew ?_ | with_reducible refine keep_alloc _ ?_))) (keep_below b (by repeat (first | (simp; done) | with_reducible refine keep_drew ?_ | with_reducible refine keep_alloc _ ?_))) (keep_below b (by repeat (first | (simp; done) | with_reducible refine keep_drew ?_ | with_reducible refine keep_alloc _ ?_))) (keep_below b (by repeat (first | (simp; done) | with_reducible refine keep_drew ?_ | with_reducible refine keep_alloc _ ?_)))) | (repeat (first | with_reducible exact Below.refl _ _ | with_reducible refine bset _ _ _ (by omega) ?_ | with_reducible refine balloc _ ?_ | with_reducible refine Below.drew ?_ | with_reducible refine btrans ?_ b))
  case rest =>
    obtain ⟨b9, rfl, ⟨y0, y1, y2, y3⟩, b9w⟩ := hcut
    replace bw0 := btrans bw0 b9w
    have T1 := turns_below ht bw0
    replace p0 := keep_below b9w p0
    replace p1 := keep_below b9w p1
    replace p2 := keep_below b9w p2
    replace p3 := keep_below b9w p3
    replace q0 := keep_below b9w q0
    replace q1 := keep_below b9w q1
    replace q2 := keep_below b9w q2
    replace q3 := keep_below b9w q3
    clear b9w hKA hKB hS
    obtain ⟨W1, eW1⟩ : ∃ x, x = wc := ⟨_, rfl⟩
    subst eW1
    have hKA : w.heap.size < W1.heap.size := World.block_lt_of_cell? _ _ p0
    have hKB : w.heap.size + 1 < W1.heap.size := World.block_lt_of_cell? _ _ q0
    have hK9 : b9 < W1.heap.size := World.block_lt_of_cell? _ _ y0
    go_upto_region 2 with fail
    go_cut [10] (fun s9 wx => ∃ b8 : Nat, s9 = .pointer (some ⟨b8, 0, none⟩) ∧ At4 wx b8 X Y H E ∧ Below W1.heap.size W1 wx)
    case first =>
      go_region_held3 (fun w' => w'.cell? ⟨w.heap.size, 0, none⟩ = some (.int .i64 ax) ∧ w'.cell? ⟨w.heap.size, 1, none⟩ = some (.int .i64 ay) ∧ w'.cell? ⟨w.heap.size, 2, none⟩ = some (.int .i64 ah) ∧ w'.cell? ⟨w.heap.size, 3, none⟩ = some (.int .i64 ae) ∧ w'.cell? ⟨w.heap.size + 1, 0, none⟩ = some (.int .i64 bx) ∧ w'.cell? ⟨w.heap.size + 1, 1, none⟩ = some (.int .i64 b_y) ∧ w'.cell? ⟨w.heap.size + 1, 2, none⟩ = some (.int .i64 bh) ∧ w'.cell? ⟨w.heap.size + 1, 3, none⟩ = some (.int .i64 be)) (refine ⟨?_, ?_, ?_, ?_, ?_, ?_, ?_, ?_⟩ <;> (repeat (first | with_reducible assumption | with_reducible refine keep_alloc _ ?_ | with_reducible refine keep_drew ?_ | with_reducible refine keep_below (by assumption) ?_ | with_reducible refine keep_set' _ ?_ ?_ | omega))) (first | (go_at_call 19; refine (toc_any _ _ _ _ _).mono ?_; rintro e w' ⟨rfl, o1, o2, o3, rfl⟩) | (go_at_call 10; refine (hF _ (by repeat (first | with_reducible exact T1 | with_reducible refine turns_alloc _ ?_ | with_reducible refine turns_drew ?_))).mono ?_; rintro e w' ⟨rfl, b⟩; obtain ⟨hc, hf⟩ := bcell b; have hs := b.size; (try simp at hs)))
      all_goals (go_wp2_with fail; go_meet)
      all_goals refine ⟨_, rfl, ?_, ?_⟩
      all_goals first | (refine ⟨?_, ?_, ?_, ?_⟩ <;> (simp [go_sem]; done)) | (refine ⟨?_, ?_, ?_, ?_⟩ <;> (simp [go_sem, hc]; done)) | (exact set4 (v0 := .int .i64 0) (v1 := .int .i64 0) (v2 := .int .i64 0) (v3 := .int .i64 0) (keep_below b (by repeat (first | (simp; done) | with_reducible refine keep_drew ?_ | with_reducible refine keep_alloc _ ?_))) (keep_below b (by repeat (first | (simp; done) | with_reducible refine keep_drew ?_ | with_reducible refine keep_alloc _ ?_))) (keep_below b (by repeat (first | (simp; done) | with_reducible refine keep_drew ?_ | with_reducible refine keep_alloc _ ?_))) (keep_below b (by repeat (first | (simp; done) | with_reducible refine keep_drew ?_ | with_reducible refine keep_alloc _ ?_)))) | (repeat (first | with_reducible exact Below.refl _ _ | with_reducible refine bset _ _ _ (by omega) ?_ | with_reducible refine balloc _ ?_ | with_reducible refine Below.drew ?_ | with_reducible refine btrans ?_ b))
    case rest =>
      obtain ⟨b8, rfl, ⟨x0, x1, x2, x3⟩, b8w⟩ := hcut
      replace bw0 := btrans bw0 b8w
      replace y0 := keep_below b8w y0
      replace y1 := keep_below b8w y1
      replace y2 := keep_below b8w y2
      replace y3 := keep_below b8w y3
      clear b8w hKA hKB hK9 p0 p1 p2 p3 q0 q1 q2 q3
      go_wp2_with fail
      refine (eqc_any _ _ _ _ _).mono ?_
      rintro e w9 ⟨rfl, b⟩
      go_wp2
      go_ret
      exact ⟨rfl, btrans bw0 b⟩
end Go.Proofs.YtajcjanfllpcgaaDoor
