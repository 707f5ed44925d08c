/- Nodes whose lists are empty but for the table: marked, held; the exact law of NodeNew, walked. -/
import Derived.Test.YtdfleidjbjjfdaaNew4
namespace Go.Proofs.Ytdfleidjbjjfdaa
open Go.ChangeShapes Go.WideShapes Go.ChangeAt Go.RowKit
attribute [local go_sem ↓] Go.wp_at_zero Go.wp_at_succ
set_option maxHeartbeats 1000000 in
theorem markNode0 (me inc now seq trn pn pt pq x y h e : Int) (up gone gate pa : Bool) (w : World) :
    Calls Try.prog 7 #[.agg #[.int .i64 me, .bool up, .bool gone, .bool gate, .int .i64 inc, .int .i64 now, .int .i64 seq, .int .i64 trn, .slice none 0 0, .slice none 0 0, .int .i64 pn, .int .i64 pt, .int .i64 pq, .bool pa, .slice none 0 0, .int .i64 x, .int .i64 y, .int .i64 h, .int .i64 e, .slice none 0 0, .slice none 0 0], .int .i64 1] w fun r w' => r = .returned (.int .i64 1) ∧ Below w.heap.size w w' := by
  go_enter Try.func7, Try.ntmps7
  go_wp2_with fail
  have c8 : (w.alloc (.cells #[.int .i64 me, .bool up, .bool gone, .bool gate, .int .i64 inc, .int .i64 now, .int .i64 seq, .int .i64 trn, .slice none 0 0, .slice none 0 0, .int .i64 pn, .int .i64 pt, .int .i64 pq, .bool pa, .slice none 0 0, .int .i64 x, .int .i64 y, .int .i64 h, .int .i64 e, .slice none 0 0, .slice none 0 0] 32)).cell? ⟨w.heap.size, 8, none⟩ = some (.slice none 0 0) := by simp [go_sem]
  have c9 : (w.alloc (.cells #[.int .i64 me, .bool up, .bool gone, .bool gate, .int .i64 inc, .int .i64 now, .int .i64 seq, .int .i64 trn, .slice none 0 0, .slice none 0 0, .int .i64 pn, .int .i64 pt, .int .i64 pq, .bool pa, .slice none 0 0, .int .i64 x, .int .i64 y, .int .i64 h, .int .i64 e, .slice none 0 0, .slice none 0 0] 32)).cell? ⟨w.heap.size, 9, none⟩ = some (.slice none 0 0) := by simp [go_sem]
  have c14 : (w.alloc (.cells #[.int .i64 me, .bool up, .bool gone, .bool gate, .int .i64 inc, .int .i64 now, .int .i64 seq, .int .i64 trn, .slice none 0 0, .slice none 0 0, .int .i64 pn, .int .i64 pt, .int .i64 pq, .bool pa, .slice none 0 0, .int .i64 x, .int .i64 y, .int .i64 h, .int .i64 e, .slice none 0 0, .slice none 0 0] 32)).cell? ⟨w.heap.size, 14, none⟩ = some (.slice none 0 0) := by simp [go_sem]
  have c19 : (w.alloc (.cells #[.int .i64 me, .bool up, .bool gone, .bool gate, .int .i64 inc, .int .i64 now, .int .i64 seq, .int .i64 trn, .slice none 0 0, .slice none 0 0, .int .i64 pn, .int .i64 pt, .int .i64 pq, .bool pa, .slice none 0 0, .int .i64 x, .int .i64 y, .int .i64 h, .int .i64 e, .slice none 0 0, .slice none 0 0] 32)).cell? ⟨w.heap.size, 19, none⟩ = some (.slice none 0 0) := by simp [go_sem]
  have c20 : (w.alloc (.cells #[.int .i64 me, .bool up, .bool gone, .bool gate, .int .i64 inc, .int .i64 now, .int .i64 seq, .int .i64 trn, .slice none 0 0, .slice none 0 0, .int .i64 pn, .int .i64 pt, .int .i64 pq, .bool pa, .slice none 0 0, .int .i64 x, .int .i64 y, .int .i64 h, .int .i64 e, .slice none 0 0, .slice none 0 0] 32)).cell? ⟨w.heap.size, 20, none⟩ = some (.slice none 0 0) := by simp [go_sem]
  have bw : Below w.heap.size w (w.alloc (.cells #[.int .i64 me, .bool up, .bool gone, .bool gate, .int .i64 inc, .int .i64 now, .int .i64 seq, .int .i64 trn, .slice none 0 0, .slice none 0 0, .int .i64 pn, .int .i64 pt, .int .i64 pq, .bool pa, .slice none 0 0, .int .i64 x, .int .i64 y, .int .i64 h, .int .i64 e, .slice none 0 0, .slice none 0 0] 32)) := balloc _ (Below.refl _ _)
  generalize (w.alloc (.cells #[.int .i64 me, .bool up, .bool gone, .bool gate, .int .i64 inc, .int .i64 now, .int .i64 seq, .int .i64 trn, .slice none 0 0, .slice none 0 0, .int .i64 pn, .int .i64 pt, .int .i64 pq, .bool pa, .slice none 0 0, .int .i64 x, .int .i64 y, .int .i64 h, .int .i64 e, .slice none 0 0, .slice none 0 0] 32)) = W at *
  refine (markFactS_nil 1 _).mono ?_
  rintro r w0 ⟨rfl, hw⟩
  obtain rfl := hw.symm
  clear hw
  go_wp2_with fail
  refine (markItemS_nil 1 _).mono ?_
  rintro r w0 ⟨rfl, hw⟩
  obtain rfl := hw.symm
  clear hw
  go_wp2_with fail
  refine (markDoubtS_nil 1 _).mono ?_
  rintro r w0 ⟨rfl, hw⟩
  obtain rfl := hw.symm
  clear hw
  go_wp2_with fail
  refine (markPlaceS_nil 1 _).mono ?_
  rintro r w0 ⟨rfl, hw⟩
  obtain rfl := hw.symm
  clear hw
  go_wp2_with fail
  refine (markForeignS_nil 1 _).mono ?_
  rintro r w0 ⟨rfl, hw⟩
  obtain rfl := hw.symm
  clear hw
  go_wp2
  go_ret
  exact ⟨rfl, bw⟩
set_option maxHeartbeats 1000000 in
theorem heldNode0 (me inc now seq trn pn pt pq x y h e : Int) (up gone gate pa : Bool) (w : World) :
    Calls Try.prog 8 #[.agg #[.int .i64 me, .bool up, .bool gone, .bool gate, .int .i64 inc, .int .i64 now, .int .i64 seq, .int .i64 trn, .slice none 0 0, .slice none 0 0, .int .i64 pn, .int .i64 pt, .int .i64 pq, .bool pa, .slice none 0 0, .int .i64 x, .int .i64 y, .int .i64 h, .int .i64 e, .slice none 0 0, .slice none 0 0], .int .i64 1] w fun r w' => r = .returned (.int .i64 1) ∧ Below w.heap.size w w' := by
  go_enter Try.func8, Try.ntmps8
  go_wp2_with fail
  have c8 : (w.alloc (.cells #[.int .i64 me, .bool up, .bool gone, .bool gate, .int .i64 inc, .int .i64 now, .int .i64 seq, .int .i64 trn, .slice none 0 0, .slice none 0 0, .int .i64 pn, .int .i64 pt, .int .i64 pq, .bool pa, .slice none 0 0, .int .i64 x, .int .i64 y, .int .i64 h, .int .i64 e, .slice none 0 0, .slice none 0 0] 32)).cell? ⟨w.heap.size, 8, none⟩ = some (.slice none 0 0) := by simp [go_sem]
  have c9 : (w.alloc (.cells #[.int .i64 me, .bool up, .bool gone, .bool gate, .int .i64 inc, .int .i64 now, .int .i64 seq, .int .i64 trn, .slice none 0 0, .slice none 0 0, .int .i64 pn, .int .i64 pt, .int .i64 pq, .bool pa, .slice none 0 0, .int .i64 x, .int .i64 y, .int .i64 h, .int .i64 e, .slice none 0 0, .slice none 0 0] 32)).cell? ⟨w.heap.size, 9, none⟩ = some (.slice none 0 0) := by simp [go_sem]
  have c14 : (w.alloc (.cells #[.int .i64 me, .bool up, .bool gone, .bool gate, .int .i64 inc, .int .i64 now, .int .i64 seq, .int .i64 trn, .slice none 0 0, .slice none 0 0, .int .i64 pn, .int .i64 pt, .int .i64 pq, .bool pa, .slice none 0 0, .int .i64 x, .int .i64 y, .int .i64 h, .int .i64 e, .slice none 0 0, .slice none 0 0] 32)).cell? ⟨w.heap.size, 14, none⟩ = some (.slice none 0 0) := by simp [go_sem]
  have c19 : (w.alloc (.cells #[.int .i64 me, .bool up, .bool gone, .bool gate, .int .i64 inc, .int .i64 now, .int .i64 seq, .int .i64 trn, .slice none 0 0, .slice none 0 0, .int .i64 pn, .int .i64 pt, .int .i64 pq, .bool pa, .slice none 0 0, .int .i64 x, .int .i64 y, .int .i64 h, .int .i64 e, .slice none 0 0, .slice none 0 0] 32)).cell? ⟨w.heap.size, 19, none⟩ = some (.slice none 0 0) := by simp [go_sem]
  have c20 : (w.alloc (.cells #[.int .i64 me, .bool up, .bool gone, .bool gate, .int .i64 inc, .int .i64 now, .int .i64 seq, .int .i64 trn, .slice none 0 0, .slice none 0 0, .int .i64 pn, .int .i64 pt, .int .i64 pq, .bool pa, .slice none 0 0, .int .i64 x, .int .i64 y, .int .i64 h, .int .i64 e, .slice none 0 0, .slice none 0 0] 32)).cell? ⟨w.heap.size, 20, none⟩ = some (.slice none 0 0) := by simp [go_sem]
  have bw : Below w.heap.size w (w.alloc (.cells #[.int .i64 me, .bool up, .bool gone, .bool gate, .int .i64 inc, .int .i64 now, .int .i64 seq, .int .i64 trn, .slice none 0 0, .slice none 0 0, .int .i64 pn, .int .i64 pt, .int .i64 pq, .bool pa, .slice none 0 0, .int .i64 x, .int .i64 y, .int .i64 h, .int .i64 e, .slice none 0 0, .slice none 0 0] 32)) := balloc _ (Below.refl _ _)
  generalize (w.alloc (.cells #[.int .i64 me, .bool up, .bool gone, .bool gate, .int .i64 inc, .int .i64 now, .int .i64 seq, .int .i64 trn, .slice none 0 0, .slice none 0 0, .int .i64 pn, .int .i64 pt, .int .i64 pq, .bool pa, .slice none 0 0, .int .i64 x, .int .i64 y, .int .i64 h, .int .i64 e, .slice none 0 0, .slice none 0 0] 32)) = W at *
  refine (heldFactS_nil 1 _).mono ?_
  rintro r w0 ⟨rfl, hw⟩
  obtain rfl := hw.symm
  clear hw
  go_wp2_with fail
  refine (heldItemS_nil 1 _).mono ?_
  rintro r w0 ⟨rfl, hw⟩
  obtain rfl := hw.symm
  clear hw
  go_wp2_with fail
  refine (heldDoubtS_nil 1 _).mono ?_
  rintro r w0 ⟨rfl, hw⟩
  obtain rfl := hw.symm
  clear hw
  go_wp2_with fail
  refine (heldPlaceS_nil 1 _).mono ?_
  rintro r w0 ⟨rfl, hw⟩
  obtain rfl := hw.symm
  clear hw
  go_wp2_with fail
  refine (heldForeignS_nil 1 _).mono ?_
  rintro r w0 ⟨rfl, hw⟩
  obtain rfl := hw.symm
  clear hw
  go_wp2
  go_ret
  exact ⟨rfl, bw⟩
set_option maxHeartbeats 1000000 in
theorem markNode1 (me inc now seq trn pn pt pq x y h e : Int) (up gone gate pa : Bool) (b : Nat) (n i s : Int) (g : Bool) (w : World) (hr : Row1 w b n i s g) :
    Calls Try.prog 7 #[.agg #[.int .i64 me, .bool up, .bool gone, .bool gate, .int .i64 inc, .int .i64 now, .int .i64 seq, .int .i64 trn, .slice (some ⟨b, 0, none⟩) 1 1, .slice none 0 0, .int .i64 pn, .int .i64 pt, .int .i64 pq, .bool pa, .slice none 0 0, .int .i64 x, .int .i64 y, .int .i64 h, .int .i64 e, .slice none 0 0, .slice none 0 0], .int .i64 1] w fun r w' => r = .returned (.int .i64 5) ∧ Row1 w' b 1 2 3 false ∧ w.grownBy w' (some b) := by
  have hlt := hr.lt
  go_enter Try.func7, Try.ntmps7
  go_wp2_with fail
  have c8 : (w.alloc (.cells #[.int .i64 me, .bool up, .bool gone, .bool gate, .int .i64 inc, .int .i64 now, .int .i64 seq, .int .i64 trn, .slice (some ⟨b, 0, none⟩) 1 1, .slice none 0 0, .int .i64 pn, .int .i64 pt, .int .i64 pq, .bool pa, .slice none 0 0, .int .i64 x, .int .i64 y, .int .i64 h, .int .i64 e, .slice none 0 0, .slice none 0 0] 32)).cell? ⟨w.heap.size, 8, none⟩ = some (.slice (some ⟨b, 0, none⟩) 1 1) := by simp [go_sem]
  have c9 : (w.alloc (.cells #[.int .i64 me, .bool up, .bool gone, .bool gate, .int .i64 inc, .int .i64 now, .int .i64 seq, .int .i64 trn, .slice (some ⟨b, 0, none⟩) 1 1, .slice none 0 0, .int .i64 pn, .int .i64 pt, .int .i64 pq, .bool pa, .slice none 0 0, .int .i64 x, .int .i64 y, .int .i64 h, .int .i64 e, .slice none 0 0, .slice none 0 0] 32)).cell? ⟨w.heap.size, 9, none⟩ = some (.slice none 0 0) := by simp [go_sem]
  have c14 : (w.alloc (.cells #[.int .i64 me, .bool up, .bool gone, .bool gate, .int .i64 inc, .int .i64 now, .int .i64 seq, .int .i64 trn, .slice (some ⟨b, 0, none⟩) 1 1, .slice none 0 0, .int .i64 pn, .int .i64 pt, .int .i64 pq, .bool pa, .slice none 0 0, .int .i64 x, .int .i64 y, .int .i64 h, .int .i64 e, .slice none 0 0, .slice none 0 0] 32)).cell? ⟨w.heap.size, 14, none⟩ = some (.slice none 0 0) := by simp [go_sem]
  have c19 : (w.alloc (.cells #[.int .i64 me, .bool up, .bool gone, .bool gate, .int .i64 inc, .int .i64 now, .int .i64 seq, .int .i64 trn, .slice (some ⟨b, 0, none⟩) 1 1, .slice none 0 0, .int .i64 pn, .int .i64 pt, .int .i64 pq, .bool pa, .slice none 0 0, .int .i64 x, .int .i64 y, .int .i64 h, .int .i64 e, .slice none 0 0, .slice none 0 0] 32)).cell? ⟨w.heap.size, 19, none⟩ = some (.slice none 0 0) := by simp [go_sem]
  have c20 : (w.alloc (.cells #[.int .i64 me, .bool up, .bool gone, .bool gate, .int .i64 inc, .int .i64 now, .int .i64 seq, .int .i64 trn, .slice (some ⟨b, 0, none⟩) 1 1, .slice none 0 0, .int .i64 pn, .int .i64 pt, .int .i64 pq, .bool pa, .slice none 0 0, .int .i64 x, .int .i64 y, .int .i64 h, .int .i64 e, .slice none 0 0, .slice none 0 0] 32)).cell? ⟨w.heap.size, 20, none⟩ = some (.slice none 0 0) := by simp [go_sem]
  have g0 : w.grownBy (w.alloc (.cells #[.int .i64 me, .bool up, .bool gone, .bool gate, .int .i64 inc, .int .i64 now, .int .i64 seq, .int .i64 trn, .slice (some ⟨b, 0, none⟩) 1 1, .slice none 0 0, .int .i64 pn, .int .i64 pt, .int .i64 pq, .bool pa, .slice none 0 0, .int .i64 x, .int .i64 y, .int .i64 h, .int .i64 e, .slice none 0 0, .slice none 0 0] 32)) (some b) := World.grownBy_alloc _ _ _
  have hr0 := hr.below (balloc (.cells #[.int .i64 me, .bool up, .bool gone, .bool gate, .int .i64 inc, .int .i64 now, .int .i64 seq, .int .i64 trn, .slice (some ⟨b, 0, none⟩) 1 1, .slice none 0 0, .int .i64 pn, .int .i64 pt, .int .i64 pq, .bool pa, .slice none 0 0, .int .i64 x, .int .i64 y, .int .i64 h, .int .i64 e, .slice none 0 0, .slice none 0 0] 32) (Below.refl _ _))
  generalize (w.alloc (.cells #[.int .i64 me, .bool up, .bool gone, .bool gate, .int .i64 inc, .int .i64 now, .int .i64 seq, .int .i64 trn, .slice (some ⟨b, 0, none⟩) 1 1, .slice none 0 0, .int .i64 pn, .int .i64 pt, .int .i64 pq, .bool pa, .slice none 0 0, .int .i64 x, .int .i64 y, .int .i64 h, .int .i64 e, .slice none 0 0, .slice none 0 0] 32)) = W at *
  refine (markFact1 b n i s g _ hr0).mono ?_
  rintro r w1 ⟨rfl, hm, g1⟩
  replace c9 := keep_grown g1 (show w.heap.size ≠ b by omega) c9
  replace c14 := keep_grown g1 (show w.heap.size ≠ b by omega) c14
  replace c19 := keep_grown g1 (show w.heap.size ≠ b by omega) c19
  replace c20 := keep_grown g1 (show w.heap.size ≠ b by omega) c20
  clear c8
  go_wp2_with fail
  refine (markItemS_nil 5 _).mono ?_
  rintro r w0 ⟨rfl, hw⟩
  obtain rfl := hw.symm
  clear hw
  go_wp2_with fail
  refine (markDoubtS_nil 5 _).mono ?_
  rintro r w0 ⟨rfl, hw⟩
  obtain rfl := hw.symm
  clear hw
  go_wp2_with fail
  refine (markPlaceS_nil 5 _).mono ?_
  rintro r w0 ⟨rfl, hw⟩
  obtain rfl := hw.symm
  clear hw
  go_wp2_with fail
  refine (markForeignS_nil 5 _).mono ?_
  rintro r w0 ⟨rfl, hw⟩
  obtain rfl := hw.symm
  clear hw
  go_wp2
  go_ret
  exact ⟨rfl, hm, grown_trans g0 g1⟩
set_option maxHeartbeats 1000000 in
theorem heldNode1 (me inc now seq trn pn pt pq x y h e : Int) (up gone gate pa : Bool) (b : Nat) (w : World) (hr : Row1 w b 1 2 3 false) :
    Calls Try.prog 8 #[.agg #[.int .i64 me, .bool up, .bool gone, .bool gate, .int .i64 inc, .int .i64 now, .int .i64 seq, .int .i64 trn, .slice (some ⟨b, 0, none⟩) 1 1, .slice none 0 0, .int .i64 pn, .int .i64 pt, .int .i64 pq, .bool pa, .slice none 0 0, .int .i64 x, .int .i64 y, .int .i64 h, .int .i64 e, .slice none 0 0, .slice none 0 0], .int .i64 1] w fun r w' => r = .returned (.int .i64 5) ∧ Below w.heap.size w w' := by
  go_enter Try.func8, Try.ntmps8
  go_wp2_with fail
  have c8 : (w.alloc (.cells #[.int .i64 me, .bool up, .bool gone, .bool gate, .int .i64 inc, .int .i64 now, .int .i64 seq, .int .i64 trn, .slice (some ⟨b, 0, none⟩) 1 1, .slice none 0 0, .int .i64 pn, .int .i64 pt, .int .i64 pq, .bool pa, .slice none 0 0, .int .i64 x, .int .i64 y, .int .i64 h, .int .i64 e, .slice none 0 0, .slice none 0 0] 32)).cell? ⟨w.heap.size, 8, none⟩ = some (.slice (some ⟨b, 0, none⟩) 1 1) := by simp [go_sem]
  have c9 : (w.alloc (.cells #[.int .i64 me, .bool up, .bool gone, .bool gate, .int .i64 inc, .int .i64 now, .int .i64 seq, .int .i64 trn, .slice (some ⟨b, 0, none⟩) 1 1, .slice none 0 0, .int .i64 pn, .int .i64 pt, .int .i64 pq, .bool pa, .slice none 0 0, .int .i64 x, .int .i64 y, .int .i64 h, .int .i64 e, .slice none 0 0, .slice none 0 0] 32)).cell? ⟨w.heap.size, 9, none⟩ = some (.slice none 0 0) := by simp [go_sem]
  have c14 : (w.alloc (.cells #[.int .i64 me, .bool up, .bool gone, .bool gate, .int .i64 inc, .int .i64 now, .int .i64 seq, .int .i64 trn, .slice (some ⟨b, 0, none⟩) 1 1, .slice none 0 0, .int .i64 pn, .int .i64 pt, .int .i64 pq, .bool pa, .slice none 0 0, .int .i64 x, .int .i64 y, .int .i64 h, .int .i64 e, .slice none 0 0, .slice none 0 0] 32)).cell? ⟨w.heap.size, 14, none⟩ = some (.slice none 0 0) := by simp [go_sem]
  have c19 : (w.alloc (.cells #[.int .i64 me, .bool up, .bool gone, .bool gate, .int .i64 inc, .int .i64 now, .int .i64 seq, .int .i64 trn, .slice (some ⟨b, 0, none⟩) 1 1, .slice none 0 0, .int .i64 pn, .int .i64 pt, .int .i64 pq, .bool pa, .slice none 0 0, .int .i64 x, .int .i64 y, .int .i64 h, .int .i64 e, .slice none 0 0, .slice none 0 0] 32)).cell? ⟨w.heap.size, 19, none⟩ = some (.slice none 0 0) := by simp [go_sem]
  have c20 : (w.alloc (.cells #[.int .i64 me, .bool up, .bool gone, .bool gate, .int .i64 inc, .int .i64 now, .int .i64 seq, .int .i64 trn, .slice (some ⟨b, 0, none⟩) 1 1, .slice none 0 0, .int .i64 pn, .int .i64 pt, .int .i64 pq, .bool pa, .slice none 0 0, .int .i64 x, .int .i64 y, .int .i64 h, .int .i64 e, .slice none 0 0, .slice none 0 0] 32)).cell? ⟨w.heap.size, 20, none⟩ = some (.slice none 0 0) := by simp [go_sem]
  have bw : Below w.heap.size w (w.alloc (.cells #[.int .i64 me, .bool up, .bool gone, .bool gate, .int .i64 inc, .int .i64 now, .int .i64 seq, .int .i64 trn, .slice (some ⟨b, 0, none⟩) 1 1, .slice none 0 0, .int .i64 pn, .int .i64 pt, .int .i64 pq, .bool pa, .slice none 0 0, .int .i64 x, .int .i64 y, .int .i64 h, .int .i64 e, .slice none 0 0, .slice none 0 0] 32)) := balloc _ (Below.refl _ _)
  have hr0 := hr.below (balloc (.cells #[.int .i64 me, .bool up, .bool gone, .bool gate, .int .i64 inc, .int .i64 now, .int .i64 seq, .int .i64 trn, .slice (some ⟨b, 0, none⟩) 1 1, .slice none 0 0, .int .i64 pn, .int .i64 pt, .int .i64 pq, .bool pa, .slice none 0 0, .int .i64 x, .int .i64 y, .int .i64 h, .int .i64 e, .slice none 0 0, .slice none 0 0] 32) (Below.refl _ _))
  generalize (w.alloc (.cells #[.int .i64 me, .bool up, .bool gone, .bool gate, .int .i64 inc, .int .i64 now, .int .i64 seq, .int .i64 trn, .slice (some ⟨b, 0, none⟩) 1 1, .slice none 0 0, .int .i64 pn, .int .i64 pt, .int .i64 pq, .bool pa, .slice none 0 0, .int .i64 x, .int .i64 y, .int .i64 h, .int .i64 e, .slice none 0 0, .slice none 0 0] 32)) = W at *
  refine (heldFact1 b _ hr0).mono ?_
  rintro r w0 ⟨rfl, hw⟩
  obtain rfl := hw.symm
  clear hw
  go_wp2_with fail
  refine (heldItemS_nil 5 _).mono ?_
  rintro r w0 ⟨rfl, hw⟩
  obtain rfl := hw.symm
  clear hw
  go_wp2_with fail
  refine (heldDoubtS_nil 5 _).mono ?_
  rintro r w0 ⟨rfl, hw⟩
  obtain rfl := hw.symm
  clear hw
  go_wp2_with fail
  refine (heldPlaceS_nil 5 _).mono ?_
  rintro r w0 ⟨rfl, hw⟩
  obtain rfl := hw.symm
  clear hw
  go_wp2_with fail
  refine (heldForeignS_nil 5 _).mono ?_
  rintro r w0 ⟨rfl, hw⟩
  obtain rfl := hw.symm
  clear hw
  go_wp2
  go_ret
  exact ⟨rfl, bw⟩
end Go.Proofs.Ytdfleidjbjjfdaa
