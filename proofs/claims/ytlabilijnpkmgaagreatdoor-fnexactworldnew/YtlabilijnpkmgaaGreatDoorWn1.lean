/- A new world: the radio, who is among some, where a fact goes. -/
import Derived.Test.YtlabilijnpkmgaaGreatDoorFl
import Derived.Test.YtlabilijnpkmgaaGreatDoorWk
namespace Go.Proofs.YtlabilijnpkmgaaGreatDoor
open Go.ChangeShapes Go.WideShapes Go.ChangeAt Go.RowKit
attribute [local go_sem ↓] Go.wp_at_zero Go.wp_at_succ
/-- a radio with nothing under way -/
def Rad (w : World) (rb : Nat) : Prop := ∃ hb, w.heap[rb]? = some (.cells #[.pointer (some ⟨hb, 0, none⟩), .int .i64 0] 68 (0, 0)) ∧ w.heap[hb]? = some (.cells #[.int .i64 0, .string ⟨#[]⟩, .bool false, .pointer none] 66 (0, 0))
theorem Rad.below {w w' : World} {rb : Nat} (h : Rad w rb) (k : Below w.heap.size w w') : Rad w' rb := by
  obtain ⟨hb, h1, h2⟩ := h
  exact ⟨hb, (k.block rb (lt_of_block h1)).trans h1, (k.block hb (lt_of_block h2)).trans h2⟩
theorem radioOf_any (w : World) : Calls Tryz.prog 11 #[.slice none 0 0] w fun r w' => (∃ rb, r = .returned (.pointer (some ⟨rb, 0, none⟩)) ∧ Rad w' rb ∧ w.heap.size ≤ rb) ∧ Below w.heap.size w w' := by
  have X : ((w.alloc (.cells #[.int .i64 0, .string ⟨#[]⟩, .bool false, .pointer none] 66)).alloc (.cells #[.pointer (some ⟨w.heap.size, 0, none⟩), .int .i64 0] 68)).heap[w.heap.size]? = some (.cells #[.int .i64 0, .string ⟨#[]⟩, .bool false, .pointer none] 66 (0, 0)) := (heap_alloc_old _ _ (by simp)).trans (heap_alloc_new _ _)
  have Y := heap_alloc_new (w.alloc (.cells #[.int .i64 0, .string ⟨#[]⟩, .bool false, .pointer none] 66)) (.cells #[.pointer (some ⟨w.heap.size, 0, none⟩), .int .i64 0] 68)
  have b := balloc (.cells #[.pointer (some ⟨w.heap.size, 0, none⟩), .int .i64 0] 68) (balloc (.cells #[.int .i64 0, .string ⟨#[]⟩, .bool false, .pointer none] 66) (Below.refl w.heap.size w))
  have hs : (w.alloc (.cells #[.int .i64 0, .string ⟨#[]⟩, .bool false, .pointer none] 66)).heap.size = w.heap.size + 1 := by simp [go_sem]
  rw [hs] at Y
  have fin : (∃ rb, Ending.returned (.pointer (some ⟨w.heap.size + 1, 0, none⟩)) = .returned (.pointer (some ⟨rb, 0, none⟩)) ∧ Rad ((w.alloc (.cells #[.int .i64 0, .string ⟨#[]⟩, .bool false, .pointer none] 66)).alloc (.cells #[.pointer (some ⟨w.heap.size, 0, none⟩), .int .i64 0] 68)) rb ∧ w.heap.size ≤ rb) := ⟨w.heap.size + 1, rfl, ⟨w.heap.size, Y, X⟩, by omega⟩
  have fin' : Hid _ := fin
  clear X Y hs fin
  go_enter Tryz.func11, Tryz.ntmps11
  go_wp2
  refine wp_loop_rounds 1 ?_
  rw [rounds_succ]
  go_wp2
  go_ret
  exact ⟨fin'.out, b⟩
theorem list_any (rb : Nat) (w : World) (h : Rad w rb) : Calls Tryz.prog 38 #[.pointer (some ⟨rb, 0, none⟩)] w fun r w' => r = .returned (.slice none 0 0) ∧ w' = w := by
  obtain ⟨hb, h1, h2⟩ := h
  have c0 := (Ws.new h1).c 0 (.pointer (some ⟨hb, 0, none⟩)) rfl
  have c1 := (Ws.new h2).c 3 (.pointer none) rfl
  clear h1 h2
  go_enter Tryz.func38, Tryz.ntmps38
  go_wp2
  refine wp_loop_rounds 1 ?_
  rw [rounds_succ]
  go_wp2
  go_ret
  exact ⟨rfl, rfl⟩
theorem send_any (p : Value) (w : World) : Calls Tryz.prog 33 #[p, .slice none 0 0] w fun r w' => r = .returned (.tuple #[]) ∧ w' = w := by
  go_enter Tryz.func33, Tryz.ntmps33
  go_wp2
  refine wp_loop_rounds 1 ?_
  rw [rounds_succ]
  go_wp2
  go_end0
  exact ⟨rfl, rfl⟩
theorem sidx_nil (f : Fc) (w : World) : Calls Tryz.prog 52 #[.slice none 0 0, .agg #[.int .i64 f.n, .int .i64 f.i, .int .i64 f.s, .bool f.g]] w fun r w' => r = .returned (.int .i64 (-1)) ∧ Below w.heap.size w w' := by
  have b := balloc (.cells #[.int .i64 f.n, .int .i64 f.i, .int .i64 f.s, .bool f.g] 45) (Below.refl w.heap.size w)
  go_enter Tryz.func52, Tryz.ntmps52
  go_wp2
  refine wp_loop_rounds 1 ?_
  rw [rounds_succ]
  go_wp2
  go_ret
  exact ⟨rfl, b⟩
theorem con_nil (f : Fc) (w : World) : Calls Tryz.prog 31 #[.slice none 0 0, .agg #[.int .i64 f.n, .int .i64 f.i, .int .i64 f.s, .bool f.g]] w fun r w' => r = .returned (.bool false) ∧ Below w.heap.size w w' := by
  have b := balloc (.cells #[.int .i64 f.n, .int .i64 f.i, .int .i64 f.s, .bool f.g] 45) (Below.refl w.heap.size w)
  go_enter Tryz.func31, Tryz.ntmps31
  go_wp2_with fail
  refine (sidx_nil f _).mono ?_
  rintro r w1 ⟨rfl, k⟩
  go_wp2
  go_ret
  exact ⟨rfl, btrans b k⟩
end Go.Proofs.YtlabilijnpkmgaaGreatDoor
