/- Two drawn facts. -/
import Derived.Test.YtbmnonfnnifoiaaAnyFact
namespace Go.Proofs.Ytbmnonfnnifoiaa
open Go.ChangeShapes Go.WideShapes Go.ChangeAt Go.RowKit
attribute [local go_sem ↓] Go.wp_at_zero Go.wp_at_succ
def TwoPost (w : World) (r : Ending) (w' : World) : Prop :=
  ∃ (n i s : Int) (g : Bool) (n' i' s' : Int) (g' : Bool), r = .returned (.tuple #[.agg #[.int .i64 n, .int .i64 i, .int .i64 s, .bool g], .agg #[.int .i64 n', .int .i64 i', .int .i64 s', .bool g']]) ∧ Below w.heap.size w w'
theorem bset {a w : World} (R o : Nat) (v : Value) (hR : a.heap.size ≤ R) (h : Below a.heap.size a w) : Below a.heap.size a (w.setCell ⟨R, o, none⟩ v) := h.setCell (p := ⟨R, o, none⟩) hR v
set_option maxHeartbeats 1000000 in
theorem drawOver_any (a : Option Addr) (len cap : Nat) (w : World) (h : Bytes w.heap.size w a len) (hl : len ≤ cap) :
    Calls Try.prog 12 #[.slice a len cap] w (TwoPost w) := by
  go_enter Try.func12, Try.ntmps12
  go_wp2_with fail
  refine (open_any w.heap.size a len cap _ (by simp; omega) (h.below (balloc _ (balloc _ (Below.refl _ _))) (Nat.le_refl _)) hl).mono ?_
  rintro r w1 ⟨rfl, ⟨G, r1⟩, b1, z1⟩
  have S2 := ((Slot4.new w (.int .i64 0) (.int .i64 0) (.int .i64 0) (.bool false) 24).alloc (.cells #[.int .i64 0, .int .i64 0, .int .i64 0, .bool false] 24)).below b1
  have S3 := (Slot4.new (w.alloc (.cells #[.int .i64 0, .int .i64 0, .int .i64 0, .bool false] 24)) (.int .i64 0) (.int .i64 0) (.int .i64 0) (.bool false) 24).below b1
  have bw1 : Below w.heap.size w w1 := btrans (balloc _ (balloc _ (Below.refl _ _))) b1
  simp at S3 r1 z1
  have z2 : w.heap.size + 1 + 1 < w1.heap.size := by omega
  have nA : w.heap.size ≠ w.heap.size + 1 + 1 := by omega
  have nB : w.heap.size + 1 ≠ w.heap.size + 1 + 1 := by omega
  have hB : w.heap.size ≤ w.heap.size + 1 + 1 := by omega
  clear b1 z1
  generalize hrb : w.heap.size + 1 + 1 = rb at *
  generalize hRB : w.heap.size + 1 = RB at *
  go_wp2_with fail
  refine (anyFact_any w.heap.size rb 0 _ r1 (by omega)).mono ?_
  rintro r w2 ⟨fn, fi, fs, fg, q, rfl, hq, r2, o2⟩
  replace S2 := S2.off o2 nA
  replace S3 := S3.off o2 nB
  replace bw1 := Off.belowAll bw1 o2 hB
  have z3 : rb < w2.heap.size := by have := o2.size; omega
  clear o2 r1
  have nC : w2.heap.size ≠ rb := by omega
  go_wp2_with fail
  refine (anyFact_any w.heap.size rb q _ (r2.alloc _) (by omega)).mono ?_
  rintro r w3 ⟨gn, gi, gs, gg, q2, rfl, hq2, r3, o3⟩
  have N3 := (Val4.new w2 (.int .i64 fn) (.int .i64 fi) (.int .i64 fs) (.bool fg) 24).off o3 nC
  replace S2 := (S2.alloc (.cells #[.int .i64 fn, .int .i64 fi, .int .i64 fs, .bool fg] 24)).off o3 nA
  replace S3 := (S3.alloc (.cells #[.int .i64 fn, .int .i64 fi, .int .i64 fs, .bool fg] 24)).off o3 nB
  replace bw1 := Off.belowAll (balloc (.cells #[.int .i64 fn, .int .i64 fi, .int .i64 fs, .bool fg] 24) bw1) o3 hB
  have z4 : w2.heap.size < w3.heap.size := by have := o3.size; simp at this; omega
  generalize w2.heap.size = C at *
  clear o3 r2
  have nD : w3.heap.size ≠ rb := by omega
  have nCD : C ≠ w3.heap.size := by omega
  go_wp2_with fail
  refine (pick_any w.heap.size rb q2 4 _ (r3.alloc _) (by omega)).mono ?_
  rintro r w4 ⟨rfl, ⟨a4, b4⟩, r4, o4⟩
  generalize G.pk _ _ = k4 at *
  have N4 := N3.off (((Off.refl rb w3).alloc (.cells #[.int .i64 gn, .int .i64 gi, .int .i64 gs, .bool gg] 24)).trans o4.off) (by omega)
  have M4 := (Val4.new w3 (.int .i64 gn) (.int .i64 gi) (.int .i64 gs) (.bool gg) 24).off o4.off nD
  replace S2 := (S2.alloc (.cells #[.int .i64 gn, .int .i64 gi, .int .i64 gs, .bool gg] 24)).aside o4 nA
  replace S3 := (S3.alloc (.cells #[.int .i64 gn, .int .i64 gi, .int .i64 gs, .bool gg] 24)).aside o4 nB
  replace bw1 := Off.belowAll (balloc (.cells #[.int .i64 gn, .int .i64 gi, .int .i64 gs, .bool gg] 24) bw1) o4.off hB
  generalize w3.heap.size = D at *
  clear N3 o4 r3 r4
  obtain ⟨⟨x0, x1, x2, x3⟩, f0, f1, f2, f3⟩ := N4
  obtain ⟨⟨y0, y1, y2, y3⟩, g0, g1, g2, g3⟩ := M4
  obtain ⟨⟨v0, c0⟩, m0⟩ := S2 0 (by omega)
  obtain ⟨⟨v1, c1⟩, m1⟩ := S2 1 (by omega)
  obtain ⟨⟨v2, c2⟩, m2⟩ := S2 2 (by omega)
  obtain ⟨⟨v3, c3⟩, m3⟩ := S2 3 (by omega)
  obtain ⟨⟨t0, d0⟩, l0⟩ := S3 0 (by omega)
  obtain ⟨⟨t1, d1⟩, l1⟩ := S3 1 (by omega)
  obtain ⟨⟨t2, d2⟩, l2⟩ := S3 2 (by omega)
  obtain ⟨⟨t3, d3⟩, l3⟩ := S3 3 (by omega)
  have nCA : C ≠ w.heap.size := by omega
  have nCB : C ≠ RB := by omega
  have nDA : D ≠ w.heap.size := by omega
  have nDB : D ≠ RB := by omega
  have nAB : w.heap.size ≠ RB := by omega
  have hRB' : w.heap.size ≤ RB := by omega
  have hD' : w.heap.size ≤ D := by omega
  clear S2 S3
  by_cases k0 : 0 < k4
  · go_wp2
    go_region
    all_goals go_wp2
    all_goals
      refine bodyPost_ret (v := .tuple #[.agg #[.int .i64 fn, .int .i64 fi, .int .i64 fs, .bool fg], .agg #[.int .i64 fn, .int .i64 gi, .int .i64 gs, .bool gg]]) (by simp [results, Try.results12, go_sem, c0, c1, c2, c3, d0, d1, d2, d3]) rfl ⟨_, _, _, _, _, _, _, _, rfl, ?_⟩
      repeat (first | with_reducible exact bw1 | with_reducible refine Below.drew ?_ | with_reducible refine bset _ _ _ (by omega) ?_)
  · go_wp2
    go_region
    all_goals go_wp2
    all_goals
      refine bodyPost_ret (v := .tuple #[.agg #[.int .i64 fn, .int .i64 fi, .int .i64 fs, .bool fg], .agg #[.int .i64 gn, .int .i64 gi, .int .i64 gs, .bool gg]]) (by simp [results, Try.results12, go_sem, c0, c1, c2, c3, d0, d1, d2, d3]) rfl ⟨_, _, _, _, _, _, _, _, rfl, ?_⟩
      repeat (first | with_reducible exact bw1 | with_reducible refine Below.drew ?_ | with_reducible refine bset _ _ _ (by omega) ?_)
end Go.Proofs.Ytbmnonfnnifoiaa
