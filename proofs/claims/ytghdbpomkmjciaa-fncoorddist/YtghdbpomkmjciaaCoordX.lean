/- The exact laws on coordinates but moves, walked; a draw of two coordinates. -/
import Derived.Test.YtghdbpomkmjciaaAny
import Derived.LoopTactic
import Derived.WalkKit
import Derived.ProofKit
import Derived.WalkLawsBesides
import Derived.Deep.QuietTactic
import Derived.BigQuiet
import Derived.Deep.RegionHeld3
import Derived.Deep.DrawnRows
import Derived.Deep.DeepCutAuto
namespace Go.Proofs.Ytghdbpomkmjciaa
open Go.ChangeShapes Go.WideShapes Go.ChangeAt Go.RowKit
attribute [local go_sem ↓] Go.wp_at_zero Go.wp_at_succ
theorem keep_below {W w' : World} {b o : Nat} {v : Value} (hb : Below W.heap.size W w') (h : W.cell? ⟨b, o, none⟩ = some v) : w'.cell? ⟨b, o, none⟩ = some v :=
  (hb.cell (p := ⟨b, o, none⟩) (World.block_lt_of_cell? W _ h)).trans h
theorem btrans {a W w' : World} (h : Below a.heap.size a W) (k : Below W.heap.size W w') : Below a.heap.size a w' := h.trans (k.mono h.size)
theorem bset {a w : World} (R o : Nat) (v : Value) (hR : a.heap.size ≤ R) (h : Below a.heap.size a w) : Below a.heap.size a (w.setCell ⟨R, o, none⟩ v) := h.setCell (p := ⟨R, o, none⟩) hR v
theorem eqc_any (x y z e : Int) (w : World) :
    Calls Try.prog 14 #[.agg #[.int .i64 x, .int .i64 y, .int .i64 z, .int .i64 e], .agg #[.int .i64 x, .int .i64 y, .int .i64 z, .int .i64 e]] w fun r w' => r = .returned (.bool true) ∧ Below w.heap.size w w' := by
  go_enter Try.func14, Try.ntmps14
  go_wp2
  go_ret
  exact ⟨rfl, balloc _ (balloc _ (Below.refl _ _))⟩
theorem toc_any (x y z e : Int) (w : World) :
    Calls Try.prog 15 #[.agg #[.int .i64 x, .int .i64 y, .int .i64 z, .int .i64 e]] w fun r w' => r = .returned (.agg #[.int .i64 x, .int .i64 y, .int .i64 z, .int .i64 e]) ∧ ∃ o1 o2 o3, w' = ((w.alloc o1).alloc o2).alloc o3 := by
  go_enter Try.func15, Try.ntmps15
  go_wp2
  exact bodyPost_ret (v := .agg #[.int .i64 x, .int .i64 y, .int .i64 z, .int .i64 e]) (by simp [results, Try.results15, go_sem]) rfl ⟨rfl, _, _, _, rfl⟩
theorem exNew_walk (w : World) : Calls Try.prog 4 #[] w fun e w' => e = .returned (.bool true) ∧ Below w.heap.size w w' := by
  go_enter Try.func4, Try.ntmps4
  go_wp2_with (first | (go_at_call 12; refine (snew_any _).mono ?_; rintro e w' ⟨rfl, o1, rfl⟩) | (go_at_call 13; refine (new_any _).mono ?_; rintro e w' ⟨rfl, o2, rfl⟩) | (go_at_call 14; refine (eqc_any _ _ _ _ _).mono ?_; rintro e w3 ⟨rfl, hb⟩))
  go_ret
  exact ⟨rfl, (balloc _ (balloc _ (balloc _ (balloc _ (Below.refl _ _))))).trans (hb.mono (by simp; omega))⟩
theorem exOk_walk (x y z e : Int) (w : World) : Calls Try.prog 5 #[.agg #[.int .i64 x, .int .i64 y, .int .i64 z, .int .i64 e]] w fun r w' => r = .returned (.bool true) ∧ Below w.heap.size w w' := by
  go_enter Try.func5, Try.ntmps5
  go_wp2_with (go_at_call 15; refine (toc_any _ _ _ _ _).mono ?_; rintro e w' ⟨rfl, o1, o2, o3, rfl⟩)
  refine (sok_any _ _ _ _ _).mono ?_
  rintro r w1 ⟨rfl, b1⟩
  obtain ⟨hc1, hf1⟩ := bcell b1
  go_wp2_with (go_at_call 15; refine (toc_any _ _ _ _ _).mono ?_; rintro e w' ⟨rfl, o4, o5, o6, rfl⟩)
  refine (fok_any _ _ _ _ _).mono ?_
  rintro r w2 ⟨rfl, b2⟩
  have e0 : (cok x y z e != cok x y z e) = false := by simp
  clear hc1 hf1
  go_wp2
  go_ret
  have s1 := b1.size
  simp at s1
  exact ⟨rfl, (balloc _ (balloc _ (balloc _ (balloc _ (Below.refl _ _))))).trans ((b1.mono (by simp; omega)).trans (((((Below.refl _ _).alloc (by omega) _).alloc (by simp; omega) _).alloc (by simp; omega) _).trans (b2.mono (by simp; omega))))⟩
set_option maxHeartbeats 1000000 in
theorem exDist_walk (ax ay ah ae bx b_y bh be : Int) (w : World) : Calls Try.prog 6 #[.agg #[.int .i64 ax, .int .i64 ay, .int .i64 ah, .int .i64 ae], .agg #[.int .i64 bx, .int .i64 b_y, .int .i64 bh, .int .i64 be]] w fun r w' => r = .returned (.bool true) ∧ Below w.heap.size w w' := by
  have e0 : (dst ax ay ah ae bx b_y bh be != dst ax ay ah ae bx b_y bh be) = false := by simp
  go_enter Try.func6, Try.ntmps6
  go_wp2_with fail
  have p0 : ((w.alloc (.cells #[.int .i64 ax, .int .i64 ay, .int .i64 ah, .int .i64 ae] 33)).alloc (.cells #[.int .i64 bx, .int .i64 b_y, .int .i64 bh, .int .i64 be] 33)).cell? ⟨w.heap.size, 0, none⟩ = some (.int .i64 ax) := by simp [go_sem]
  have p1 : ((w.alloc (.cells #[.int .i64 ax, .int .i64 ay, .int .i64 ah, .int .i64 ae] 33)).alloc (.cells #[.int .i64 bx, .int .i64 b_y, .int .i64 bh, .int .i64 be] 33)).cell? ⟨w.heap.size, 1, none⟩ = some (.int .i64 ay) := by simp [go_sem]
  have p2 : ((w.alloc (.cells #[.int .i64 ax, .int .i64 ay, .int .i64 ah, .int .i64 ae] 33)).alloc (.cells #[.int .i64 bx, .int .i64 b_y, .int .i64 bh, .int .i64 be] 33)).cell? ⟨w.heap.size, 2, none⟩ = some (.int .i64 ah) := by simp [go_sem]
  have p3 : ((w.alloc (.cells #[.int .i64 ax, .int .i64 ay, .int .i64 ah, .int .i64 ae] 33)).alloc (.cells #[.int .i64 bx, .int .i64 b_y, .int .i64 bh, .int .i64 be] 33)).cell? ⟨w.heap.size, 3, none⟩ = some (.int .i64 ae) := by simp [go_sem]
  have q0 : ((w.alloc (.cells #[.int .i64 ax, .int .i64 ay, .int .i64 ah, .int .i64 ae] 33)).alloc (.cells #[.int .i64 bx, .int .i64 b_y, .int .i64 bh, .int .i64 be] 33)).cell? ⟨w.heap.size + 1, 0, none⟩ = some (.int .i64 bx) := by simp [go_sem]
  have q1 : ((w.alloc (.cells #[.int .i64 ax, .int .i64 ay, .int .i64 ah, .int .i64 ae] 33)).alloc (.cells #[.int .i64 bx, .int .i64 b_y, .int .i64 bh, .int .i64 be] 33)).cell? ⟨w.heap.size + 1, 1, none⟩ = some (.int .i64 b_y) := by simp [go_sem]
  have q2 : ((w.alloc (.cells #[.int .i64 ax, .int .i64 ay, .int .i64 ah, .int .i64 ae] 33)).alloc (.cells #[.int .i64 bx, .int .i64 b_y, .int .i64 bh, .int .i64 be] 33)).cell? ⟨w.heap.size + 1, 2, none⟩ = some (.int .i64 bh) := by simp [go_sem]
  have q3 : ((w.alloc (.cells #[.int .i64 ax, .int .i64 ay, .int .i64 ah, .int .i64 ae] 33)).alloc (.cells #[.int .i64 bx, .int .i64 b_y, .int .i64 bh, .int .i64 be] 33)).cell? ⟨w.heap.size + 1, 3, none⟩ = some (.int .i64 be) := by simp [go_sem]
  have bw0 : Below w.heap.size w ((w.alloc (.cells #[.int .i64 ax, .int .i64 ay, .int .i64 ah, .int .i64 ae] 33)).alloc (.cells #[.int .i64 bx, .int .i64 b_y, .int .i64 bh, .int .i64 be] 33)) := balloc _ (balloc _ (Below.refl _ _))
  generalize ((w.alloc (.cells #[.int .i64 ax, .int .i64 ay, .int .i64 ah, .int .i64 ae] 33)).alloc (.cells #[.int .i64 bx, .int .i64 b_y, .int .i64 bh, .int .i64 be] 33)) = W0 at *
  go_region_held3 (fun w' => w'.cell? ⟨w.heap.size, 0, none⟩ = some (.int .i64 ax) ∧ w'.cell? ⟨w.heap.size, 1, none⟩ = some (.int .i64 ay) ∧ w'.cell? ⟨w.heap.size, 2, none⟩ = some (.int .i64 ah) ∧ w'.cell? ⟨w.heap.size, 3, none⟩ = some (.int .i64 ae) ∧ w'.cell? ⟨w.heap.size + 1, 0, none⟩ = some (.int .i64 bx) ∧ w'.cell? ⟨w.heap.size + 1, 1, none⟩ = some (.int .i64 b_y) ∧ w'.cell? ⟨w.heap.size + 1, 2, none⟩ = some (.int .i64 bh) ∧ w'.cell? ⟨w.heap.size + 1, 3, none⟩ = some (.int .i64 be)) (refine ⟨?_, ?_, ?_, ?_, ?_, ?_, ?_, ?_⟩ <;> (repeat (first | with_reducible assumption | with_reducible refine keep_alloc _ ?_ | with_reducible refine keep_drew ?_ | with_reducible refine keep_below (by assumption) ?_))) (first | (go_at_call 15; refine (toc_any _ _ _ _ _).mono ?_; rintro e w' ⟨rfl, o1, o2, o3, rfl⟩) | (go_at_call 9; refine (sdist_any _ _ _ _ _ _ _ _ _).mono ?_; rintro e w1 ⟨rfl, b1⟩))
  obtain ⟨P0, P1, P2, P3, Q0, Q1, Q2, Q3⟩ : w1.cell? ⟨w.heap.size, 0, none⟩ = some (.int .i64 ax) ∧ w1.cell? ⟨w.heap.size, 1, none⟩ = some (.int .i64 ay) ∧ w1.cell? ⟨w.heap.size, 2, none⟩ = some (.int .i64 ah) ∧ w1.cell? ⟨w.heap.size, 3, none⟩ = some (.int .i64 ae) ∧ w1.cell? ⟨w.heap.size + 1, 0, none⟩ = some (.int .i64 bx) ∧ w1.cell? ⟨w.heap.size + 1, 1, none⟩ = some (.int .i64 b_y) ∧ w1.cell? ⟨w.heap.size + 1, 2, none⟩ = some (.int .i64 bh) ∧ w1.cell? ⟨w.heap.size + 1, 3, none⟩ = some (.int .i64 be) := by assumption
  have bw1 := btrans (Below.drew (balloc _ (balloc _ (balloc _ (balloc _ (balloc _ (balloc _ bw0))))))) b1
  clear p0 p1 p2 p3 q0 q1 q2 q3 b1 bw0
  go_wp2_with fail
  go_region_held3 (fun w' => w'.cell? ⟨w.heap.size, 0, none⟩ = some (.int .i64 ax) ∧ w'.cell? ⟨w.heap.size, 1, none⟩ = some (.int .i64 ay) ∧ w'.cell? ⟨w.heap.size, 2, none⟩ = some (.int .i64 ah) ∧ w'.cell? ⟨w.heap.size, 3, none⟩ = some (.int .i64 ae) ∧ w'.cell? ⟨w.heap.size + 1, 0, none⟩ = some (.int .i64 bx) ∧ w'.cell? ⟨w.heap.size + 1, 1, none⟩ = some (.int .i64 b_y) ∧ w'.cell? ⟨w.heap.size + 1, 2, none⟩ = some (.int .i64 bh) ∧ w'.cell? ⟨w.heap.size + 1, 3, none⟩ = some (.int .i64 be)) (refine ⟨?_, ?_, ?_, ?_, ?_, ?_, ?_, ?_⟩ <;> (repeat (first | with_reducible assumption | with_reducible refine keep_alloc _ ?_ | with_reducible refine keep_drew ?_ | with_reducible refine keep_below (by assumption) ?_))) (first | (go_at_call 15; refine (toc_any _ _ _ _ _).mono ?_; rintro e w' ⟨rfl, o4, o5, o6, rfl⟩) | (go_at_call 8; refine (fdist_any _ _ _ _ _ _ _ _ _).mono ?_; rintro e w2 ⟨rfl, b2⟩))
  have bw2 := btrans (Below.drew (balloc _ (balloc _ (balloc _ (balloc _ (balloc _ (balloc _ bw1))))))) b2
  go_wp2
  go_ret
  exact ⟨rfl, bw2⟩
/-- a draw of two coordinates -/
theorem drawDist_any (a : Option Addr) (len cap B : Nat) (w : World) (hB : B ≤ w.heap.size) (h : Bytes B w a len) (hl : len ≤ cap) :
    Calls Try.prog 7 #[.slice a len cap] w fun r w' => ∃ ax ay ah ae bx b_y bh be : Int, r = .returned (.tuple #[.agg #[.int .i64 ax, .int .i64 ay, .int .i64 ah, .int .i64 ae], .agg #[.int .i64 bx, .int .i64 b_y, .int .i64 bh, .int .i64 be]]) ∧ Below w.heap.size w w' := by
  go_enter Try.func7, Try.ntmps7
  go_wp2_with fail
  refine (open_any B a len cap _ (by simp; omega) (h.below (balloc _ (balloc _ (Below.refl _ _))) hB) hl).mono ?_
  rintro r w1 ⟨rfl, ⟨G, r1⟩, b1, z1⟩
  have S2 := ((Slot4.new w (.int .i64 0) (.int .i64 0) (.int .i64 0) (.int .i64 0) 24).alloc (.cells #[.int .i64 0, .int .i64 0, .int .i64 0, .int .i64 0] 24)).below b1
  have S3 := (Slot4.new (w.alloc (.cells #[.int .i64 0, .int .i64 0, .int .i64 0, .int .i64 0] 24)) (.int .i64 0) (.int .i64 0) (.int .i64 0) (.int .i64 0) 24).below b1
  have bw1 : Below w.heap.size w w1 := btrans (balloc _ (balloc _ (Below.refl _ _))) b1
  simp at S3 r1 z1
  have hn2 : w.heap.size ≠ w.heap.size + 1 + 1 := by omega
  have hn3 : w.heap.size + 1 ≠ w.heap.size + 1 + 1 := by omega
  have hle : w.heap.size ≤ w.heap.size + 1 + 1 := by omega
  clear b1 z1
  go_wp2_with fail
  generalize hrb : w.heap.size + 1 + 1 = rb at *
  clear hrb
  refine (any_any B rb 0 _ r1 (by omega)).mono ?_
  rintro r w2 ⟨ax, ay, ah, ae, q, rfl, hq, r2, o2⟩
  replace S2 := S2.off o2 hn2
  replace S3 := S3.off o2 hn3
  have bw2 := bw1.trans (o2.below (B := w.heap.size) hle bw1.size)
  go_wp2_with fail
  refine (any_any B rb q _ r2 (by omega)).mono ?_
  rintro r w3 ⟨bx, b_y, bh, be, q', rfl, hq', r3, o3⟩
  replace S2 := S2.off o3 hn2
  replace S3 := S3.off o3 hn3
  have bw3 := bw2.trans (o3.below (B := w.heap.size) hle bw2.size)
  obtain ⟨⟨v0, c0⟩, f0⟩ := S2 0 (by omega)
  obtain ⟨⟨v1, c1⟩, f1⟩ := S2 1 (by omega)
  obtain ⟨⟨v2, c2⟩, f2⟩ := S2 2 (by omega)
  obtain ⟨⟨v3, c3⟩, f3⟩ := S2 3 (by omega)
  obtain ⟨⟨t0, d0⟩, g0⟩ := S3 0 (by omega)
  obtain ⟨⟨t1, d1⟩, g1⟩ := S3 1 (by omega)
  obtain ⟨⟨t2, d2⟩, g2⟩ := S3 2 (by omega)
  obtain ⟨⟨t3, d3⟩, g3⟩ := S3 3 (by omega)
  clear S2 S3 r1 r2 r3 o2 o3 bw1 bw2
  go_wp2
  refine bodyPost_ret (v := .tuple #[.agg #[.int .i64 ax, .int .i64 ay, .int .i64 ah, .int .i64 ae], .agg #[.int .i64 bx, .int .i64 b_y, .int .i64 bh, .int .i64 be]]) (by simp [results, Try.results7, go_sem, c0, c1, c2, c3, d0, d1, d2, d3]) rfl ⟨ax, ay, ah, ae, bx, b_y, bh, be, rfl, ?_⟩
  repeat (first | with_reducible exact bw3 | with_reducible refine bset _ _ _ (by omega) ?_)
end Go.Proofs.Ytghdbpomkmjciaa
