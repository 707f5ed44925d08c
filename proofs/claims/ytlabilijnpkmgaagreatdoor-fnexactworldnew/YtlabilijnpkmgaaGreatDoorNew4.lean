/- Nodes whose lists are empty but for the table: compared, marked, held. -/
import Derived.Test.YtlabilijnpkmgaaGreatDoorNew3
namespace Go.Proofs.YtlabilijnpkmgaaGreatDoor
open Go.ChangeShapes Go.WideShapes Go.ChangeAt Go.RowKit
attribute [local go_sem ↓] Go.wp_at_zero Go.wp_at_succ
set_option maxHeartbeats 2000000 in
theorem eqNode_same (me inc now seq trn pn pt pq x y h e : Int) (up gone gate pa : Bool) (a a' : Option Addr) (len cap cap' : Nat) (F : Nat → Fc) (w : World) (hs : FSl w a len F) (hs' : FSl w a' len F) (hl : len ≤ 1048576) :
    Calls Tryz.prog 39 #[.agg #[.int .i64 me, .bool up, .bool gone, .bool gate, .int .i64 inc, .int .i64 now, .int .i64 seq, .int .i64 trn, .slice a len cap, .slice none 0 0, .int .i64 pn, .int .i64 pt, .int .i64 pq, .bool pa, .slice none 0 0, .int .i64 x, .int .i64 y, .int .i64 h, .int .i64 e, .slice none 0 0, .slice none 0 0], .agg #[.int .i64 me, .bool up, .bool gone, .bool gate, .int .i64 inc, .int .i64 now, .int .i64 seq, .int .i64 trn, .slice a' len cap', .slice none 0 0, .int .i64 pn, .int .i64 pt, .int .i64 pq, .bool pa, .slice none 0 0, .int .i64 x, .int .i64 y, .int .i64 h, .int .i64 e, .slice none 0 0, .slice none 0 0]] w fun r w' => r = .returned (.bool true) ∧ Below w.heap.size w w' := by
  have e1 : (up != up) = false := by simp
  have e2 : (gone != gone) = false := by simp
  have e3 : (gate != gate) = false := by simp
  go_enter Tryz.func39, Tryz.ntmps39
  go_wp2_with fail
  have c9 : ((w.alloc (.cells #[.int .i64 me, .bool up, .bool gone, .bool gate, .int .i64 inc, .int .i64 now, .int .i64 seq, .int .i64 trn, .slice a len cap, .slice none 0 0, .int .i64 pn, .int .i64 pt, .int .i64 pq, .bool pa, .slice none 0 0, .int .i64 x, .int .i64 y, .int .i64 h, .int .i64 e, .slice none 0 0, .slice none 0 0] 41)).alloc (.cells #[.int .i64 me, .bool up, .bool gone, .bool gate, .int .i64 inc, .int .i64 now, .int .i64 seq, .int .i64 trn, .slice a' len cap', .slice none 0 0, .int .i64 pn, .int .i64 pt, .int .i64 pq, .bool pa, .slice none 0 0, .int .i64 x, .int .i64 y, .int .i64 h, .int .i64 e, .slice none 0 0, .slice none 0 0] 41)).cell? ⟨w.heap.size, 9, none⟩ = some (.slice none 0 0) := by simp [go_sem]
  have c10 : ((w.alloc (.cells #[.int .i64 me, .bool up, .bool gone, .bool gate, .int .i64 inc, .int .i64 now, .int .i64 seq, .int .i64 trn, .slice a len cap, .slice none 0 0, .int .i64 pn, .int .i64 pt, .int .i64 pq, .bool pa, .slice none 0 0, .int .i64 x, .int .i64 y, .int .i64 h, .int .i64 e, .slice none 0 0, .slice none 0 0] 41)).alloc (.cells #[.int .i64 me, .bool up, .bool gone, .bool gate, .int .i64 inc, .int .i64 now, .int .i64 seq, .int .i64 trn, .slice a' len cap', .slice none 0 0, .int .i64 pn, .int .i64 pt, .int .i64 pq, .bool pa, .slice none 0 0, .int .i64 x, .int .i64 y, .int .i64 h, .int .i64 e, .slice none 0 0, .slice none 0 0] 41)).cell? ⟨w.heap.size, 10, none⟩ = some (.int .i64 pn) := by simp [go_sem]
  have c11 : ((w.alloc (.cells #[.int .i64 me, .bool up, .bool gone, .bool gate, .int .i64 inc, .int .i64 now, .int .i64 seq, .int .i64 trn, .slice a len cap, .slice none 0 0, .int .i64 pn, .int .i64 pt, .int .i64 pq, .bool pa, .slice none 0 0, .int .i64 x, .int .i64 y, .int .i64 h, .int .i64 e, .slice none 0 0, .slice none 0 0] 41)).alloc (.cells #[.int .i64 me, .bool up, .bool gone, .bool gate, .int .i64 inc, .int .i64 now, .int .i64 seq, .int .i64 trn, .slice a' len cap', .slice none 0 0, .int .i64 pn, .int .i64 pt, .int .i64 pq, .bool pa, .slice none 0 0, .int .i64 x, .int .i64 y, .int .i64 h, .int .i64 e, .slice none 0 0, .slice none 0 0] 41)).cell? ⟨w.heap.size, 11, none⟩ = some (.int .i64 pt) := by simp [go_sem]
  have c12 : ((w.alloc (.cells #[.int .i64 me, .bool up, .bool gone, .bool gate, .int .i64 inc, .int .i64 now, .int .i64 seq, .int .i64 trn, .slice a len cap, .slice none 0 0, .int .i64 pn, .int .i64 pt, .int .i64 pq, .bool pa, .slice none 0 0, .int .i64 x, .int .i64 y, .int .i64 h, .int .i64 e, .slice none 0 0, .slice none 0 0] 41)).alloc (.cells #[.int .i64 me, .bool up, .bool gone, .bool gate, .int .i64 inc, .int .i64 now, .int .i64 seq, .int .i64 trn, .slice a' len cap', .slice none 0 0, .int .i64 pn, .int .i64 pt, .int .i64 pq, .bool pa, .slice none 0 0, .int .i64 x, .int .i64 y, .int .i64 h, .int .i64 e, .slice none 0 0, .slice none 0 0] 41)).cell? ⟨w.heap.size, 12, none⟩ = some (.int .i64 pq) := by simp [go_sem]
  have c13 : ((w.alloc (.cells #[.int .i64 me, .bool up, .bool gone, .bool gate, .int .i64 inc, .int .i64 now, .int .i64 seq, .int .i64 trn, .slice a len cap, .slice none 0 0, .int .i64 pn, .int .i64 pt, .int .i64 pq, .bool pa, .slice none 0 0, .int .i64 x, .int .i64 y, .int .i64 h, .int .i64 e, .slice none 0 0, .slice none 0 0] 41)).alloc (.cells #[.int .i64 me, .bool up, .bool gone, .bool gate, .int .i64 inc, .int .i64 now, .int .i64 seq, .int .i64 trn, .slice a' len cap', .slice none 0 0, .int .i64 pn, .int .i64 pt, .int .i64 pq, .bool pa, .slice none 0 0, .int .i64 x, .int .i64 y, .int .i64 h, .int .i64 e, .slice none 0 0, .slice none 0 0] 41)).cell? ⟨w.heap.size, 13, none⟩ = some (.bool pa) := by simp [go_sem]
  have c14 : ((w.alloc (.cells #[.int .i64 me, .bool up, .bool gone, .bool gate, .int .i64 inc, .int .i64 now, .int .i64 seq, .int .i64 trn, .slice a len cap, .slice none 0 0, .int .i64 pn, .int .i64 pt, .int .i64 pq, .bool pa, .slice none 0 0, .int .i64 x, .int .i64 y, .int .i64 h, .int .i64 e, .slice none 0 0, .slice none 0 0] 41)).alloc (.cells #[.int .i64 me, .bool up, .bool gone, .bool gate, .int .i64 inc, .int .i64 now, .int .i64 seq, .int .i64 trn, .slice a' len cap', .slice none 0 0, .int .i64 pn, .int .i64 pt, .int .i64 pq, .bool pa, .slice none 0 0, .int .i64 x, .int .i64 y, .int .i64 h, .int .i64 e, .slice none 0 0, .slice none 0 0] 41)).cell? ⟨w.heap.size, 14, none⟩ = some (.slice none 0 0) := by simp [go_sem]
  have c15 : ((w.alloc (.cells #[.int .i64 me, .bool up, .bool gone, .bool gate, .int .i64 inc, .int .i64 now, .int .i64 seq, .int .i64 trn, .slice a len cap, .slice none 0 0, .int .i64 pn, .int .i64 pt, .int .i64 pq, .bool pa, .slice none 0 0, .int .i64 x, .int .i64 y, .int .i64 h, .int .i64 e, .slice none 0 0, .slice none 0 0] 41)).alloc (.cells #[.int .i64 me, .bool up, .bool gone, .bool gate, .int .i64 inc, .int .i64 now, .int .i64 seq, .int .i64 trn, .slice a' len cap', .slice none 0 0, .int .i64 pn, .int .i64 pt, .int .i64 pq, .bool pa, .slice none 0 0, .int .i64 x, .int .i64 y, .int .i64 h, .int .i64 e, .slice none 0 0, .slice none 0 0] 41)).cell? ⟨w.heap.size, 15, none⟩ = some (.int .i64 x) := by simp [go_sem]
  have c16 : ((w.alloc (.cells #[.int .i64 me, .bool up, .bool gone, .bool gate, .int .i64 inc, .int .i64 now, .int .i64 seq, .int .i64 trn, .slice a len cap, .slice none 0 0, .int .i64 pn, .int .i64 pt, .int .i64 pq, .bool pa, .slice none 0 0, .int .i64 x, .int .i64 y, .int .i64 h, .int .i64 e, .slice none 0 0, .slice none 0 0] 41)).alloc (.cells #[.int .i64 me, .bool up, .bool gone, .bool gate, .int .i64 inc, .int .i64 now, .int .i64 seq, .int .i64 trn, .slice a' len cap', .slice none 0 0, .int .i64 pn, .int .i64 pt, .int .i64 pq, .bool pa, .slice none 0 0, .int .i64 x, .int .i64 y, .int .i64 h, .int .i64 e, .slice none 0 0, .slice none 0 0] 41)).cell? ⟨w.heap.size, 16, none⟩ = some (.int .i64 y) := by simp [go_sem]
  have c17 : ((w.alloc (.cells #[.int .i64 me, .bool up, .bool gone, .bool gate, .int .i64 inc, .int .i64 now, .int .i64 seq, .int .i64 trn, .slice a len cap, .slice none 0 0, .int .i64 pn, .int .i64 pt, .int .i64 pq, .bool pa, .slice none 0 0, .int .i64 x, .int .i64 y, .int .i64 h, .int .i64 e, .slice none 0 0, .slice none 0 0] 41)).alloc (.cells #[.int .i64 me, .bool up, .bool gone, .bool gate, .int .i64 inc, .int .i64 now, .int .i64 seq, .int .i64 trn, .slice a' len cap', .slice none 0 0, .int .i64 pn, .int .i64 pt, .int .i64 pq, .bool pa, .slice none 0 0, .int .i64 x, .int .i64 y, .int .i64 h, .int .i64 e, .slice none 0 0, .slice none 0 0] 41)).cell? ⟨w.heap.size, 17, none⟩ = some (.int .i64 h) := by simp [go_sem]
  have c18 : ((w.alloc (.cells #[.int .i64 me, .bool up, .bool gone, .bool gate, .int .i64 inc, .int .i64 now, .int .i64 seq, .int .i64 trn, .slice a len cap, .slice none 0 0, .int .i64 pn, .int .i64 pt, .int .i64 pq, .bool pa, .slice none 0 0, .int .i64 x, .int .i64 y, .int .i64 h, .int .i64 e, .slice none 0 0, .slice none 0 0] 41)).alloc (.cells #[.int .i64 me, .bool up, .bool gone, .bool gate, .int .i64 inc, .int .i64 now, .int .i64 seq, .int .i64 trn, .slice a' len cap', .slice none 0 0, .int .i64 pn, .int .i64 pt, .int .i64 pq, .bool pa, .slice none 0 0, .int .i64 x, .int .i64 y, .int .i64 h, .int .i64 e, .slice none 0 0, .slice none 0 0] 41)).cell? ⟨w.heap.size, 18, none⟩ = some (.int .i64 e) := by simp [go_sem]
  have c19 : ((w.alloc (.cells #[.int .i64 me, .bool up, .bool gone, .bool gate, .int .i64 inc, .int .i64 now, .int .i64 seq, .int .i64 trn, .slice a len cap, .slice none 0 0, .int .i64 pn, .int .i64 pt, .int .i64 pq, .bool pa, .slice none 0 0, .int .i64 x, .int .i64 y, .int .i64 h, .int .i64 e, .slice none 0 0, .slice none 0 0] 41)).alloc (.cells #[.int .i64 me, .bool up, .bool gone, .bool gate, .int .i64 inc, .int .i64 now, .int .i64 seq, .int .i64 trn, .slice a' len cap', .slice none 0 0, .int .i64 pn, .int .i64 pt, .int .i64 pq, .bool pa, .slice none 0 0, .int .i64 x, .int .i64 y, .int .i64 h, .int .i64 e, .slice none 0 0, .slice none 0 0] 41)).cell? ⟨w.heap.size, 19, none⟩ = some (.slice none 0 0) := by simp [go_sem]
  have c20 : ((w.alloc (.cells #[.int .i64 me, .bool up, .bool gone, .bool gate, .int .i64 inc, .int .i64 now, .int .i64 seq, .int .i64 trn, .slice a len cap, .slice none 0 0, .int .i64 pn, .int .i64 pt, .int .i64 pq, .bool pa, .slice none 0 0, .int .i64 x, .int .i64 y, .int .i64 h, .int .i64 e, .slice none 0 0, .slice none 0 0] 41)).alloc (.cells #[.int .i64 me, .bool up, .bool gone, .bool gate, .int .i64 inc, .int .i64 now, .int .i64 seq, .int .i64 trn, .slice a' len cap', .slice none 0 0, .int .i64 pn, .int .i64 pt, .int .i64 pq, .bool pa, .slice none 0 0, .int .i64 x, .int .i64 y, .int .i64 h, .int .i64 e, .slice none 0 0, .slice none 0 0] 41)).cell? ⟨w.heap.size, 20, none⟩ = some (.slice none 0 0) := by simp [go_sem]
  have d9 : ((w.alloc (.cells #[.int .i64 me, .bool up, .bool gone, .bool gate, .int .i64 inc, .int .i64 now, .int .i64 seq, .int .i64 trn, .slice a len cap, .slice none 0 0, .int .i64 pn, .int .i64 pt, .int .i64 pq, .bool pa, .slice none 0 0, .int .i64 x, .int .i64 y, .int .i64 h, .int .i64 e, .slice none 0 0, .slice none 0 0] 41)).alloc (.cells #[.int .i64 me, .bool up, .bool gone, .bool gate, .int .i64 inc, .int .i64 now, .int .i64 seq, .int .i64 trn, .slice a' len cap', .slice none 0 0, .int .i64 pn, .int .i64 pt, .int .i64 pq, .bool pa, .slice none 0 0, .int .i64 x, .int .i64 y, .int .i64 h, .int .i64 e, .slice none 0 0, .slice none 0 0] 41)).cell? ⟨w.heap.size + 1, 9, none⟩ = some (.slice none 0 0) := by simp [go_sem]
  have d10 : ((w.alloc (.cells #[.int .i64 me, .bool up, .bool gone, .bool gate, .int .i64 inc, .int .i64 now, .int .i64 seq, .int .i64 trn, .slice a len cap, .slice none 0 0, .int .i64 pn, .int .i64 pt, .int .i64 pq, .bool pa, .slice none 0 0, .int .i64 x, .int .i64 y, .int .i64 h, .int .i64 e, .slice none 0 0, .slice none 0 0] 41)).alloc (.cells #[.int .i64 me, .bool up, .bool gone, .bool gate, .int .i64 inc, .int .i64 now, .int .i64 seq, .int .i64 trn, .slice a' len cap', .slice none 0 0, .int .i64 pn, .int .i64 pt, .int .i64 pq, .bool pa, .slice none 0 0, .int .i64 x, .int .i64 y, .int .i64 h, .int .i64 e, .slice none 0 0, .slice none 0 0] 41)).cell? ⟨w.heap.size + 1, 10, none⟩ = some (.int .i64 pn) := by simp [go_sem]
  have d11 : ((w.alloc (.cells #[.int .i64 me, .bool up, .bool gone, .bool gate, .int .i64 inc, .int .i64 now, .int .i64 seq, .int .i64 trn, .slice a len cap, .slice none 0 0, .int .i64 pn, .int .i64 pt, .int .i64 pq, .bool pa, .slice none 0 0, .int .i64 x, .int .i64 y, .int .i64 h, .int .i64 e, .slice none 0 0, .slice none 0 0] 41)).alloc (.cells #[.int .i64 me, .bool up, .bool gone, .bool gate, .int .i64 inc, .int .i64 now, .int .i64 seq, .int .i64 trn, .slice a' len cap', .slice none 0 0, .int .i64 pn, .int .i64 pt, .int .i64 pq, .bool pa, .slice none 0 0, .int .i64 x, .int .i64 y, .int .i64 h, .int .i64 e, .slice none 0 0, .slice none 0 0] 41)).cell? ⟨w.heap.size + 1, 11, none⟩ = some (.int .i64 pt) := by simp [go_sem]
  have d12 : ((w.alloc (.cells #[.int .i64 me, .bool up, .bool gone, .bool gate, .int .i64 inc, .int .i64 now, .int .i64 seq, .int .i64 trn, .slice a len cap, .slice none 0 0, .int .i64 pn, .int .i64 pt, .int .i64 pq, .bool pa, .slice none 0 0, .int .i64 x, .int .i64 y, .int .i64 h, .int .i64 e, .slice none 0 0, .slice none 0 0] 41)).alloc (.cells #[.int .i64 me, .bool up, .bool gone, .bool gate, .int .i64 inc, .int .i64 now, .int .i64 seq, .int .i64 trn, .slice a' len cap', .slice none 0 0, .int .i64 pn, .int .i64 pt, .int .i64 pq, .bool pa, .slice none 0 0, .int .i64 x, .int .i64 y, .int .i64 h, .int .i64 e, .slice none 0 0, .slice none 0 0] 41)).cell? ⟨w.heap.size + 1, 12, none⟩ = some (.int .i64 pq) := by simp [go_sem]
  have d13 : ((w.alloc (.cells #[.int .i64 me, .bool up, .bool gone, .bool gate, .int .i64 inc, .int .i64 now, .int .i64 seq, .int .i64 trn, .slice a len cap, .slice none 0 0, .int .i64 pn, .int .i64 pt, .int .i64 pq, .bool pa, .slice none 0 0, .int .i64 x, .int .i64 y, .int .i64 h, .int .i64 e, .slice none 0 0, .slice none 0 0] 41)).alloc (.cells #[.int .i64 me, .bool up, .bool gone, .bool gate, .int .i64 inc, .int .i64 now, .int .i64 seq, .int .i64 trn, .slice a' len cap', .slice none 0 0, .int .i64 pn, .int .i64 pt, .int .i64 pq, .bool pa, .slice none 0 0, .int .i64 x, .int .i64 y, .int .i64 h, .int .i64 e, .slice none 0 0, .slice none 0 0] 41)).cell? ⟨w.heap.size + 1, 13, none⟩ = some (.bool pa) := by simp [go_sem]
  have d14 : ((w.alloc (.cells #[.int .i64 me, .bool up, .bool gone, .bool gate, .int .i64 inc, .int .i64 now, .int .i64 seq, .int .i64 trn, .slice a len cap, .slice none 0 0, .int .i64 pn, .int .i64 pt, .int .i64 pq, .bool pa, .slice none 0 0, .int .i64 x, .int .i64 y, .int .i64 h, .int .i64 e, .slice none 0 0, .slice none 0 0] 41)).alloc (.cells #[.int .i64 me, .bool up, .bool gone, .bool gate, .int .i64 inc, .int .i64 now, .int .i64 seq, .int .i64 trn, .slice a' len cap', .slice none 0 0, .int .i64 pn, .int .i64 pt, .int .i64 pq, .bool pa, .slice none 0 0, .int .i64 x, .int .i64 y, .int .i64 h, .int .i64 e, .slice none 0 0, .slice none 0 0] 41)).cell? ⟨w.heap.size + 1, 14, none⟩ = some (.slice none 0 0) := by simp [go_sem]
  have d15 : ((w.alloc (.cells #[.int .i64 me, .bool up, .bool gone, .bool gate, .int .i64 inc, .int .i64 now, .int .i64 seq, .int .i64 trn, .slice a len cap, .slice none 0 0, .int .i64 pn, .int .i64 pt, .int .i64 pq, .bool pa, .slice none 0 0, .int .i64 x, .int .i64 y, .int .i64 h, .int .i64 e, .slice none 0 0, .slice none 0 0] 41)).alloc (.cells #[.int .i64 me, .bool up, .bool gone, .bool gate, .int .i64 inc, .int .i64 now, .int .i64 seq, .int .i64 trn, .slice a' len cap', .slice none 0 0, .int .i64 pn, .int .i64 pt, .int .i64 pq, .bool pa, .slice none 0 0, .int .i64 x, .int .i64 y, .int .i64 h, .int .i64 e, .slice none 0 0, .slice none 0 0] 41)).cell? ⟨w.heap.size + 1, 15, none⟩ = some (.int .i64 x) := by simp [go_sem]
  have d16 : ((w.alloc (.cells #[.int .i64 me, .bool up, .bool gone, .bool gate, .int .i64 inc, .int .i64 now, .int .i64 seq, .int .i64 trn, .slice a len cap, .slice none 0 0, .int .i64 pn, .int .i64 pt, .int .i64 pq, .bool pa, .slice none 0 0, .int .i64 x, .int .i64 y, .int .i64 h, .int .i64 e, .slice none 0 0, .slice none 0 0] 41)).alloc (.cells #[.int .i64 me, .bool up, .bool gone, .bool gate, .int .i64 inc, .int .i64 now, .int .i64 seq, .int .i64 trn, .slice a' len cap', .slice none 0 0, .int .i64 pn, .int .i64 pt, .int .i64 pq, .bool pa, .slice none 0 0, .int .i64 x, .int .i64 y, .int .i64 h, .int .i64 e, .slice none 0 0, .slice none 0 0] 41)).cell? ⟨w.heap.size + 1, 16, none⟩ = some (.int .i64 y) := by simp [go_sem]
  have d17 : ((w.alloc (.cells #[.int .i64 me, .bool up, .bool gone, .bool gate, .int .i64 inc, .int .i64 now, .int .i64 seq, .int .i64 trn, .slice a len cap, .slice none 0 0, .int .i64 pn, .int .i64 pt, .int .i64 pq, .bool pa, .slice none 0 0, .int .i64 x, .int .i64 y, .int .i64 h, .int .i64 e, .slice none 0 0, .slice none 0 0] 41)).alloc (.cells #[.int .i64 me, .bool up, .bool gone, .bool gate, .int .i64 inc, .int .i64 now, .int .i64 seq, .int .i64 trn, .slice a' len cap', .slice none 0 0, .int .i64 pn, .int .i64 pt, .int .i64 pq, .bool pa, .slice none 0 0, .int .i64 x, .int .i64 y, .int .i64 h, .int .i64 e, .slice none 0 0, .slice none 0 0] 41)).cell? ⟨w.heap.size + 1, 17, none⟩ = some (.int .i64 h) := by simp [go_sem]
  have d18 : ((w.alloc (.cells #[.int .i64 me, .bool up, .bool gone, .bool gate, .int .i64 inc, .int .i64 now, .int .i64 seq, .int .i64 trn, .slice a len cap, .slice none 0 0, .int .i64 pn, .int .i64 pt, .int .i64 pq, .bool pa, .slice none 0 0, .int .i64 x, .int .i64 y, .int .i64 h, .int .i64 e, .slice none 0 0, .slice none 0 0] 41)).alloc (.cells #[.int .i64 me, .bool up, .bool gone, .bool gate, .int .i64 inc, .int .i64 now, .int .i64 seq, .int .i64 trn, .slice a' len cap', .slice none 0 0, .int .i64 pn, .int .i64 pt, .int .i64 pq, .bool pa, .slice none 0 0, .int .i64 x, .int .i64 y, .int .i64 h, .int .i64 e, .slice none 0 0, .slice none 0 0] 41)).cell? ⟨w.heap.size + 1, 18, none⟩ = some (.int .i64 e) := by simp [go_sem]
  have d19 : ((w.alloc (.cells #[.int .i64 me, .bool up, .bool gone, .bool gate, .int .i64 inc, .int .i64 now, .int .i64 seq, .int .i64 trn, .slice a len cap, .slice none 0 0, .int .i64 pn, .int .i64 pt, .int .i64 pq, .bool pa, .slice none 0 0, .int .i64 x, .int .i64 y, .int .i64 h, .int .i64 e, .slice none 0 0, .slice none 0 0] 41)).alloc (.cells #[.int .i64 me, .bool up, .bool gone, .bool gate, .int .i64 inc, .int .i64 now, .int .i64 seq, .int .i64 trn, .slice a' len cap', .slice none 0 0, .int .i64 pn, .int .i64 pt, .int .i64 pq, .bool pa, .slice none 0 0, .int .i64 x, .int .i64 y, .int .i64 h, .int .i64 e, .slice none 0 0, .slice none 0 0] 41)).cell? ⟨w.heap.size + 1, 19, none⟩ = some (.slice none 0 0) := by simp [go_sem]
  have d20 : ((w.alloc (.cells #[.int .i64 me, .bool up, .bool gone, .bool gate, .int .i64 inc, .int .i64 now, .int .i64 seq, .int .i64 trn, .slice a len cap, .slice none 0 0, .int .i64 pn, .int .i64 pt, .int .i64 pq, .bool pa, .slice none 0 0, .int .i64 x, .int .i64 y, .int .i64 h, .int .i64 e, .slice none 0 0, .slice none 0 0] 41)).alloc (.cells #[.int .i64 me, .bool up, .bool gone, .bool gate, .int .i64 inc, .int .i64 now, .int .i64 seq, .int .i64 trn, .slice a' len cap', .slice none 0 0, .int .i64 pn, .int .i64 pt, .int .i64 pq, .bool pa, .slice none 0 0, .int .i64 x, .int .i64 y, .int .i64 h, .int .i64 e, .slice none 0 0, .slice none 0 0] 41)).cell? ⟨w.heap.size + 1, 20, none⟩ = some (.slice none 0 0) := by simp [go_sem]
  have bw : Below w.heap.size w ((w.alloc (.cells #[.int .i64 me, .bool up, .bool gone, .bool gate, .int .i64 inc, .int .i64 now, .int .i64 seq, .int .i64 trn, .slice a len cap, .slice none 0 0, .int .i64 pn, .int .i64 pt, .int .i64 pq, .bool pa, .slice none 0 0, .int .i64 x, .int .i64 y, .int .i64 h, .int .i64 e, .slice none 0 0, .slice none 0 0] 41)).alloc (.cells #[.int .i64 me, .bool up, .bool gone, .bool gate, .int .i64 inc, .int .i64 now, .int .i64 seq, .int .i64 trn, .slice a' len cap', .slice none 0 0, .int .i64 pn, .int .i64 pt, .int .i64 pq, .bool pa, .slice none 0 0, .int .i64 x, .int .i64 y, .int .i64 h, .int .i64 e, .slice none 0 0, .slice none 0 0] 41)) := balloc _ (balloc _ (Below.refl _ _))
  generalize ((w.alloc (.cells #[.int .i64 me, .bool up, .bool gone, .bool gate, .int .i64 inc, .int .i64 now, .int .i64 seq, .int .i64 trn, .slice a len cap, .slice none 0 0, .int .i64 pn, .int .i64 pt, .int .i64 pq, .bool pa, .slice none 0 0, .int .i64 x, .int .i64 y, .int .i64 h, .int .i64 e, .slice none 0 0, .slice none 0 0] 41)).alloc (.cells #[.int .i64 me, .bool up, .bool gone, .bool gate, .int .i64 inc, .int .i64 now, .int .i64 seq, .int .i64 trn, .slice a' len cap', .slice none 0 0, .int .i64 pn, .int .i64 pt, .int .i64 pq, .bool pa, .slice none 0 0, .int .i64 x, .int .i64 y, .int .i64 h, .int .i64 e, .slice none 0 0, .slice none 0 0] 41)) = W at *
  generalize w.heap.size + 1 = KB at *
  refine (eqFactS_same a a' len cap cap' F _ (hs.below bw) (hs'.below bw) hl).mono ?_
  rintro r w1 ⟨rfl, b1⟩
  replace c9 := keep_below b1 c9
  replace c10 := keep_below b1 c10
  replace c11 := keep_below b1 c11
  replace c12 := keep_below b1 c12
  replace c13 := keep_below b1 c13
  replace c14 := keep_below b1 c14
  replace c15 := keep_below b1 c15
  replace c16 := keep_below b1 c16
  replace c17 := keep_below b1 c17
  replace c18 := keep_below b1 c18
  replace c19 := keep_below b1 c19
  replace c20 := keep_below b1 c20
  replace d9 := keep_below b1 d9
  replace d10 := keep_below b1 d10
  replace d11 := keep_below b1 d11
  replace d12 := keep_below b1 d12
  replace d13 := keep_below b1 d13
  replace d14 := keep_below b1 d14
  replace d15 := keep_below b1 d15
  replace d16 := keep_below b1 d16
  replace d17 := keep_below b1 d17
  replace d18 := keep_below b1 d18
  replace d19 := keep_below b1 d19
  replace d20 := keep_below b1 d20
  have B1 := btrans bw b1
  clear b1 bw
  go_wp2_with fail
  refine (eqItemS_nil _).mono ?_
  rintro r w0 ⟨rfl, hw⟩
  obtain rfl := hw.symm
  clear hw
  go_wp2_with fail
  refine (eqProbe_same pn pt pq pa _).mono ?_
  rintro r w2 ⟨rfl, b2⟩
  replace c9 := keep_below b2 c9
  replace c10 := keep_below b2 c10
  replace c11 := keep_below b2 c11
  replace c12 := keep_below b2 c12
  replace c13 := keep_below b2 c13
  replace c14 := keep_below b2 c14
  replace c15 := keep_below b2 c15
  replace c16 := keep_below b2 c16
  replace c17 := keep_below b2 c17
  replace c18 := keep_below b2 c18
  replace c19 := keep_below b2 c19
  replace c20 := keep_below b2 c20
  replace d9 := keep_below b2 d9
  replace d10 := keep_below b2 d10
  replace d11 := keep_below b2 d11
  replace d12 := keep_below b2 d12
  replace d13 := keep_below b2 d13
  replace d14 := keep_below b2 d14
  replace d15 := keep_below b2 d15
  replace d16 := keep_below b2 d16
  replace d17 := keep_below b2 d17
  replace d18 := keep_below b2 d18
  replace d19 := keep_below b2 d19
  replace d20 := keep_below b2 d20
  have B2 := btrans B1 b2
  clear b2
  go_wp2_with fail
  refine (eqDoubtS_nil _).mono ?_
  rintro r w0 ⟨rfl, hw⟩
  obtain rfl := hw.symm
  clear hw
  go_wp2_with fail
  refine (eqCoord_same x y h e _).mono ?_
  rintro r w3 ⟨rfl, b3⟩
  replace c9 := keep_below b3 c9
  replace c10 := keep_below b3 c10
  replace c11 := keep_below b3 c11
  replace c12 := keep_below b3 c12
  replace c13 := keep_below b3 c13
  replace c14 := keep_below b3 c14
  replace c15 := keep_below b3 c15
  replace c16 := keep_below b3 c16
  replace c17 := keep_below b3 c17
  replace c18 := keep_below b3 c18
  replace c19 := keep_below b3 c19
  replace c20 := keep_below b3 c20
  replace d9 := keep_below b3 d9
  replace d10 := keep_below b3 d10
  replace d11 := keep_below b3 d11
  replace d12 := keep_below b3 d12
  replace d13 := keep_below b3 d13
  replace d14 := keep_below b3 d14
  replace d15 := keep_below b3 d15
  replace d16 := keep_below b3 d16
  replace d17 := keep_below b3 d17
  replace d18 := keep_below b3 d18
  replace d19 := keep_below b3 d19
  replace d20 := keep_below b3 d20
  have B3 := btrans B2 b3
  clear b3
  go_wp2_with fail
  refine (eqPlaceS_nil _).mono ?_
  rintro r w0 ⟨rfl, hw⟩
  obtain rfl := hw.symm
  clear hw
  go_wp2_with fail
  refine (eqForeignS_nil _).mono ?_
  rintro r w0 ⟨rfl, hw⟩
  obtain rfl := hw.symm
  clear hw
  go_wp2
  go_ret
  exact ⟨rfl, B3⟩
theorem cs_off {w : World} {b i j : Nat} {u : Value} (v : Value) (hij : i ≠ j) (h : w.cell? ⟨b, i, none⟩ = some u) : (w.setCell ⟨b, j, none⟩ v).cell? ⟨b, i, none⟩ = some u := (World.cell?_setCell_other _ _ _ _ (fun e => hij (by simpa using (congrArg Addr.off e).symm))).trans h
set_option maxHeartbeats 1000000 in
theorem markFact1 (b : Nat) (n i s : Int) (g : Bool) (w : World) (h : Row1 w b n i s g) :
    Calls Tryz.prog 23 #[.slice (some ⟨b, 0, none⟩) 1 1, .int .i64 1] w fun r w' => r = .returned (.int .i64 5) ∧ Row1 w' b 1 2 3 false ∧ w.grownBy w' (some b) := by
  obtain ⟨⟨c0, c1, c2, c3⟩, f0, f1, f2, f3⟩ := h
  have fin : Row1 ((((w.setCell ⟨b, 0, none⟩ (.int .i64 1)).setCell ⟨b, 1, none⟩ (.int .i64 2)).setCell ⟨b, 2, none⟩ (.int .i64 3)).setCell ⟨b, 3, none⟩ (.bool false)) b 1 2 3 false := by
    refine ⟨⟨cs_off _ (by decide) (cs_off _ (by decide) (cs_off _ (by decide) (cs_same _ c0))), cs_off _ (by decide) (cs_off _ (by decide) (cs_same _ (cs_off _ (by decide) c1))), cs_off _ (by decide) (cs_same _ (cs_off _ (by decide) (cs_off _ (by decide) c2))), cs_same _ (cs_off _ (by decide) (cs_off _ (by decide) (cs_off _ (by decide) c3)))⟩, ?_, ?_, ?_, ?_⟩ <;> simp only [World.frozen?_setCell] <;> assumption
  have gr : w.grownBy ((((w.setCell ⟨b, 0, none⟩ (.int .i64 1)).setCell ⟨b, 1, none⟩ (.int .i64 2)).setCell ⟨b, 2, none⟩ (.int .i64 3)).setCell ⟨b, 3, none⟩ (.bool false)) (some b) := grown_trans (grown_trans (grown_trans (grown_set w b 0 _) (grown_set _ b 1 _)) (grown_set _ b 2 _)) (grown_set _ b 3 _)
  go_enter Tryz.func23, Tryz.ntmps23
  go_wp2
  go_loopw [1, 5] (fun x j wr => (j = .int .i64 0 ∧ x = .int .i64 1 ∧ wr = w) ∨ (j = .int .i64 1 ∧ x = .int .i64 5 ∧ wr = ((((w.setCell ⟨b, 0, none⟩ (.int .i64 1)).setCell ⟨b, 1, none⟩ (.int .i64 2)).setCell ⟨b, 2, none⟩ (.int .i64 3)).setCell ⟨b, 3, none⟩ (.bool false)))) (fun _ j _ => 1 - (intOf j).toNat)
  case atStart => exact .inl ⟨rfl, rfl, rfl⟩
  case round =>
    rcases hrel with ⟨rfl, rfl, hw⟩ | ⟨rfl, rfl, hw⟩
    · subst hw
      go_wp2
      go_roundw
      case rel => simp
      case measure => simp [intOf]
    · subst hw
      go_wp2
      go_ret
      exact ⟨rfl, fin, gr⟩
set_option maxHeartbeats 1000000 in
theorem heldFact1 (b : Nat) (w : World) (h : Row1 w b 1 2 3 false) :
    Calls Tryz.prog 27 #[.slice (some ⟨b, 0, none⟩) 1 1, .int .i64 1] w fun r w' => r = .returned (.int .i64 5) ∧ w' = w := by
  obtain ⟨⟨c0, c1, c2, c3⟩, f0, f1, f2, f3⟩ := h
  go_enter Tryz.func27, Tryz.ntmps27
  go_wp2
  go_loopw [1, 5] (fun x j wr => wr = w ∧ ((j = .int .i64 0 ∧ x = .int .i64 1) ∨ (j = .int .i64 1 ∧ x = .int .i64 5))) (fun _ j _ => 1 - (intOf j).toNat)
  case atStart => simp
  case round =>
    obtain ⟨hw, hrel⟩ := hrel
    subst hw
    rcases hrel with ⟨rfl, rfl⟩ | ⟨rfl, rfl⟩
    · go_wp2
      go_roundw
      case rel => exact ⟨by simp, .inr (by simp)⟩
      case measure => simp [intOf]
    · go_wp2
      go_ret
      exact ⟨rfl, rfl⟩
end Go.Proofs.YtlabilijnpkmgaaGreatDoor
