/- Facts, compared. -/
import Derived.Test.YtlabilijnpkmgaaGreatDoorBox
import Derived.Test.YtlabilijnpkmgaaGreatDoorExOver
namespace Go.Proofs.YtlabilijnpkmgaaGreatDoor
open Go.ChangeShapes Go.WideShapes Go.ChangeAt Go.RowKit
attribute [local go_sem ↓] Go.wp_at_zero Go.wp_at_succ
/-- numbers, compared -/
def icmp (a b : Int) : Int := if a < b then -1 else if b < a then 1 else 0
theorem nan_any (a : Int) (w : World) : Calls Tryz.prog 82 #[.int .i64 a] w fun r w' => r = .returned (.bool false) ∧ w' = w := by
  go_enter Tryz.func82, Tryz.ntmps82
  go_wp2
  go_ret
  exact ⟨rfl, rfl⟩
theorem icmp_any (a b : Int) (w : World) : Calls Tryz.prog 66 #[.int .i64 a, .int .i64 b] w fun r w' => r = .returned (.int .i64 (icmp a b)) ∧ w' = w := by
  go_enter Tryz.func66, Tryz.ntmps66
  go_wp2_with fail
  refine (nan_any a _).mono ?_
  rintro r w2 ⟨rfl, rfl⟩
  go_wp2_with fail
  refine (nan_any b _).mono ?_
  rintro r w2 ⟨rfl, rfl⟩
  by_cases h1 : a < b
  · go_wp2
    go_ret
    exact ⟨ret_int (by simp [icmp, h1]), rfl⟩
  · by_cases h2 : b < a
    · go_wp2
      go_ret
      exact ⟨ret_int (by simp [icmp, h1, h2]), rfl⟩
    · go_wp2
      go_ret
      exact ⟨ret_int (by unfold icmp; rw [if_neg (by omega), if_neg (by omega)]), rfl⟩
/-- facts, compared -/
def fcmp (n i s : Int) (g : Bool) (n' i' s' : Int) (g' : Bool) : Int := if overB n i s g n' i' s' g' = true then 1 else if overB n' i' s' g' n i s g = true then -1 else icmp n n'
set_option maxHeartbeats 1000000 in
theorem fcmp_any (n i s : Int) (g : Bool) (n' i' s' : Int) (g' : Bool) (w : World) :
    Calls Tryz.prog 54 #[.agg #[.int .i64 n, .int .i64 i, .int .i64 s, .bool g], .agg #[.int .i64 n', .int .i64 i', .int .i64 s', .bool g']] w fun r w' => r = .returned (.int .i64 (fcmp n i s g n' i' s' g')) ∧ Below w.heap.size w w' := by
  obtain ⟨z, hz⟩ : ∃ z, Hid (fcmp n i s g n' i' s' g' = z) := ⟨_, rfl⟩
  rw [hz.out]
  have b0 := balloc (.cells #[.int .i64 n', .int .i64 i', .int .i64 s', .bool g'] 45) (balloc (.cells #[.int .i64 n, .int .i64 i, .int .i64 s, .bool g] 45) (Below.refl w.heap.size w))
  have X := (Ws.box (w := w) #[.int .i64 n, .int .i64 i, .int .i64 s, .bool g] 45).alloc (.cells #[.int .i64 n', .int .i64 i', .int .i64 s', .bool g'] 45)
  have Y := Ws.box (w := w.alloc (.cells #[.int .i64 n, .int .i64 i, .int .i64 s, .bool g] 45)) #[.int .i64 n', .int .i64 i', .int .i64 s', .bool g'] 45
  have hs : (w.alloc (.cells #[.int .i64 n, .int .i64 i, .int .i64 s, .bool g] 45)).heap.size = w.heap.size + 1 := by simp [go_sem]
  rw [hs] at Y
  go_enter Tryz.func54, Tryz.ntmps54
  go_upto_region 1 with fail
  generalize (w.alloc (.cells #[.int .i64 n, .int .i64 i, .int .i64 s, .bool g] 45)).alloc (.cells #[.int .i64 n', .int .i64 i', .int .i64 s', .bool g'] 45) = u at *
  clear hs
  have c0 := X.c 0 (.int .i64 n) rfl
  have c1 := X.c 1 (.int .i64 i) rfl
  have c2 := X.c 2 (.int .i64 s) rfl
  have c3 := X.c 3 (.bool g) rfl
  have d0 := Y.c 0 (.int .i64 n') rfl
  have d1 := Y.c 1 (.int .i64 i') rfl
  have d2 := Y.c 2 (.int .i64 s') rfl
  have d3 := Y.c 3 (.bool g') rfl
  clear X Y
  go_wp2_with fail
  refine (fover_any n i s g n' i' s' g' _).mono ?_
  rintro r u1 ⟨rfl, k1⟩
  have b1 := btrans b0 k1
  cases h1 : overB n i s g n' i' s' g'
  · have h1' : Hid (overB n i s g n' i' s' g' = false) := h1
    clear h1
    replace c0 := keep_below k1 c0
    replace c1 := keep_below k1 c1
    replace c2 := keep_below k1 c2
    replace c3 := keep_below k1 c3
    replace d0 := keep_below k1 d0
    replace d1 := keep_below k1 d1
    replace d2 := keep_below k1 d2
    replace d3 := keep_below k1 d3
    clear b0 k1
    go_wp2_with fail
    refine (fover_any n' i' s' g' n i s g _).mono ?_
    rintro r u2 ⟨rfl, k2⟩
    have b2 := btrans b1 k2
    cases h2 : overB n' i' s' g' n i s g
    · have h2' : Hid (overB n' i' s' g' n i s g = false) := h2
      clear h2
      replace c0 := keep_below k2 c0
      replace d0 := keep_below k2 d0
      clear b1 k2 c1 c2 c3 d1 d2 d3
      go_wp2_with fail
      refine (icmp_any n n' _).mono ?_
      rintro r u3 ⟨rfl, rfl⟩
      clear c0 d0
      go_wp2
      go_ret
      exact ⟨ret_int (by rw [← hz.out]; simp [fcmp, h1'.out, h2'.out]), b2⟩
    · have h2' : Hid (overB n' i' s' g' n i s g = true) := h2
      clear h2 c0 c1 c2 c3 d0 d1 d2 d3
      go_wp2
      go_ret
      exact ⟨ret_int (by rw [← hz.out]; simp [fcmp, h1'.out, h2'.out]), b2⟩
  · have h1' : Hid (overB n i s g n' i' s' g' = true) := h1
    clear h1 c0 c1 c2 c3 d0 d1 d2 d3
    go_wp2
    go_ret
    exact ⟨ret_int (by rw [← hz.out]; simp [fcmp, h1'.out]), b1⟩
end Go.Proofs.YtlabilijnpkmgaaGreatDoor
