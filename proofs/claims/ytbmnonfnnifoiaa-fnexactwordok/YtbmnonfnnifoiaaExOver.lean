/- The exact law of FactOver, walked. -/
import Derived.Test.YtbmnonfnnifoiaaFact
namespace Go.Proofs.Ytbmnonfnnifoiaa
open Go.ChangeShapes Go.WideShapes Go.ChangeAt Go.RowKit
attribute [local go_sem ↓] Go.wp_at_zero Go.wp_at_succ
theorem keep_alloc {w : World} {b o : Nat} {v : Value} (x : Obj) (h : w.cell? ⟨b, o, none⟩ = some v) : (w.alloc x).cell? ⟨b, o, none⟩ = some v :=
  (World.cell?_of_block (w := w) (Below.heap_alloc w x b (World.block_lt_of_cell? w _ h))).trans h
theorem keep_drew {w : World} {b o : Nat} {v : Value} (h : w.cell? ⟨b, o, none⟩ = some v) : w.drew.cell? ⟨b, o, none⟩ = some v := by simpa using h
theorem keep_below {W w' : World} {b o : Nat} {v : Value} (hb : Below W.heap.size W w') (h : W.cell? ⟨b, o, none⟩ = some v) : w'.cell? ⟨b, o, none⟩ = some v :=
  (hb.cell (p := ⟨b, o, none⟩) (World.block_lt_of_cell? W _ h)).trans h
set_option maxHeartbeats 1000000 in
theorem exFactOver_walk (n i s : Int) (g : Bool) (n' i' s' : Int) (g' : Bool) (w : World) :
    Calls Try.prog 6 #[.agg #[.int .i64 n, .int .i64 i, .int .i64 s, .bool g], .agg #[.int .i64 n', .int .i64 i', .int .i64 s', .bool g']] w fun r w' => r = .returned (.bool true) ∧ Below w.heap.size w w' := by
  have e0 : (overB n i s g n' i' s' g' != overB n i s g n' i' s' g') = false := by simp
  go_enter Try.func6, Try.ntmps6
  go_wp2_with fail
  have p0 : ((w.alloc (.cells #[.int .i64 n, .int .i64 i, .int .i64 s, .bool g] 37)).alloc (.cells #[.int .i64 n', .int .i64 i', .int .i64 s', .bool g'] 37)).cell? ⟨w.heap.size, 0, none⟩ = some (.int .i64 n) := by simp [go_sem]
  have p1 : ((w.alloc (.cells #[.int .i64 n, .int .i64 i, .int .i64 s, .bool g] 37)).alloc (.cells #[.int .i64 n', .int .i64 i', .int .i64 s', .bool g'] 37)).cell? ⟨w.heap.size, 1, none⟩ = some (.int .i64 i) := by simp [go_sem]
  have p2 : ((w.alloc (.cells #[.int .i64 n, .int .i64 i, .int .i64 s, .bool g] 37)).alloc (.cells #[.int .i64 n', .int .i64 i', .int .i64 s', .bool g'] 37)).cell? ⟨w.heap.size, 2, none⟩ = some (.int .i64 s) := by simp [go_sem]
  have p3 : ((w.alloc (.cells #[.int .i64 n, .int .i64 i, .int .i64 s, .bool g] 37)).alloc (.cells #[.int .i64 n', .int .i64 i', .int .i64 s', .bool g'] 37)).cell? ⟨w.heap.size, 3, none⟩ = some (.bool g) := by simp [go_sem]
  have p4 : ((w.alloc (.cells #[.int .i64 n, .int .i64 i, .int .i64 s, .bool g] 37)).alloc (.cells #[.int .i64 n', .int .i64 i', .int .i64 s', .bool g'] 37)).cell? ⟨w.heap.size + 1, 0, none⟩ = some (.int .i64 n') := by simp [go_sem]
  have p5 : ((w.alloc (.cells #[.int .i64 n, .int .i64 i, .int .i64 s, .bool g] 37)).alloc (.cells #[.int .i64 n', .int .i64 i', .int .i64 s', .bool g'] 37)).cell? ⟨w.heap.size + 1, 1, none⟩ = some (.int .i64 i') := by simp [go_sem]
  have p6 : ((w.alloc (.cells #[.int .i64 n, .int .i64 i, .int .i64 s, .bool g] 37)).alloc (.cells #[.int .i64 n', .int .i64 i', .int .i64 s', .bool g'] 37)).cell? ⟨w.heap.size + 1, 2, none⟩ = some (.int .i64 s') := by simp [go_sem]
  have p7 : ((w.alloc (.cells #[.int .i64 n, .int .i64 i, .int .i64 s, .bool g] 37)).alloc (.cells #[.int .i64 n', .int .i64 i', .int .i64 s', .bool g'] 37)).cell? ⟨w.heap.size + 1, 3, none⟩ = some (.bool g') := by simp [go_sem]
  have bw0 : Below w.heap.size w ((w.alloc (.cells #[.int .i64 n, .int .i64 i, .int .i64 s, .bool g] 37)).alloc (.cells #[.int .i64 n', .int .i64 i', .int .i64 s', .bool g'] 37)) := balloc _ (balloc _ (Below.refl _ _))
  generalize ((w.alloc (.cells #[.int .i64 n, .int .i64 i, .int .i64 s, .bool g] 37)).alloc (.cells #[.int .i64 n', .int .i64 i', .int .i64 s', .bool g'] 37)) = W0 at *
  go_region_held3 (fun w' => w'.cell? ⟨w.heap.size, 0, none⟩ = some (.int .i64 n) ∧ w'.cell? ⟨w.heap.size, 1, none⟩ = some (.int .i64 i) ∧ w'.cell? ⟨w.heap.size, 2, none⟩ = some (.int .i64 s) ∧ w'.cell? ⟨w.heap.size, 3, none⟩ = some (.bool g) ∧ w'.cell? ⟨w.heap.size + 1, 0, none⟩ = some (.int .i64 n') ∧ w'.cell? ⟨w.heap.size + 1, 1, none⟩ = some (.int .i64 i') ∧ w'.cell? ⟨w.heap.size + 1, 2, none⟩ = some (.int .i64 s') ∧ w'.cell? ⟨w.heap.size + 1, 3, none⟩ = some (.bool g')) (refine ⟨?_, ?_, ?_, ?_, ?_, ?_, ?_, ?_⟩ <;> (repeat (first | with_reducible assumption | with_reducible refine keep_alloc _ ?_ | with_reducible refine keep_drew ?_ | with_reducible refine keep_below (by assumption) ?_))) (first | (go_at_call 22; refine (toFact_any _ _ _ _ _).mono ?_; rintro e w' ⟨rfl, o1, o2, o3, rfl⟩) | (go_at_call 14; refine (sover_any _ _ _ _ _ _ _ _ _).mono ?_; rintro e w1 ⟨rfl, b1⟩))
  obtain ⟨P0, P1, P2, P3, Q0, Q1, Q2, Q3⟩ : w1.cell? ⟨w.heap.size, 0, none⟩ = some (.int .i64 n) ∧ w1.cell? ⟨w.heap.size, 1, none⟩ = some (.int .i64 i) ∧ w1.cell? ⟨w.heap.size, 2, none⟩ = some (.int .i64 s) ∧ w1.cell? ⟨w.heap.size, 3, none⟩ = some (.bool g) ∧ w1.cell? ⟨w.heap.size + 1, 0, none⟩ = some (.int .i64 n') ∧ w1.cell? ⟨w.heap.size + 1, 1, none⟩ = some (.int .i64 i') ∧ w1.cell? ⟨w.heap.size + 1, 2, none⟩ = some (.int .i64 s') ∧ w1.cell? ⟨w.heap.size + 1, 3, none⟩ = some (.bool g') := by assumption
  have bw1 := btrans (Below.drew (balloc _ (balloc _ (balloc _ (balloc _ (balloc _ (balloc _ bw0))))))) b1
  clear p0 p1 p2 p3 p4 p5 p6 p7 b1 bw0
  go_wp2_with fail
  go_region_held3 (fun w' => w'.cell? ⟨w.heap.size, 0, none⟩ = some (.int .i64 n) ∧ w'.cell? ⟨w.heap.size, 1, none⟩ = some (.int .i64 i) ∧ w'.cell? ⟨w.heap.size, 2, none⟩ = some (.int .i64 s) ∧ w'.cell? ⟨w.heap.size, 3, none⟩ = some (.bool g) ∧ w'.cell? ⟨w.heap.size + 1, 0, none⟩ = some (.int .i64 n') ∧ w'.cell? ⟨w.heap.size + 1, 1, none⟩ = some (.int .i64 i') ∧ w'.cell? ⟨w.heap.size + 1, 2, none⟩ = some (.int .i64 s') ∧ w'.cell? ⟨w.heap.size + 1, 3, none⟩ = some (.bool g')) (refine ⟨?_, ?_, ?_, ?_, ?_, ?_, ?_, ?_⟩ <;> (repeat (first | with_reducible assumption | with_reducible refine keep_alloc _ ?_ | with_reducible refine keep_drew ?_ | with_reducible refine keep_below (by assumption) ?_))) (first | (go_at_call 22; refine (toFact_any _ _ _ _ _).mono ?_; rintro e w' ⟨rfl, o4, o5, o6, rfl⟩) | (go_at_call 13; refine (fover_any _ _ _ _ _ _ _ _ _).mono ?_; rintro e w2 ⟨rfl, b2⟩))
  have bw2 := btrans (Below.drew (balloc _ (balloc _ (balloc _ (balloc _ (balloc _ (balloc _ bw1))))))) b2
  go_wp2
  go_ret
  exact ⟨rfl, bw2⟩
end Go.Proofs.Ytbmnonfnnifoiaa
