/- What the draws of numbers come to, whatever the code: some numbers; nothing that was there has turned. -/
import Derived.Test.YtkkjoglbcdhopaaDraw
import Derived.Test.YtkkjoglbcdhopaaFix
import Derived.LoopTactic
import Derived.WalkKit
import Derived.ProofKit
import Derived.WalkLawsBesides
namespace Go.Proofs.Ytkkjoglbcdhopaa
open Go.ChangeShapes Go.WideShapes Go.ChangeAt Go.RowKit
theorem eight (w : World) (x0 x1 x2 x3 x4 x5 x6 x7 : Int) (m : Nat) (hm : m < 8) :
    ∃ r : Int, (w.alloc (.cells #[.int .i64 x0, .int .i64 x1, .int .i64 x2, .int .i64 x3, .int .i64 x4, .int .i64 x5, .int .i64 x6, .int .i64 x7] 3)).cell? ⟨w.heap.size, m, none⟩ = some (.int .i64 r) := by
  have h : m = 0 ∨ m = 1 ∨ m = 2 ∨ m = 3 ∨ m = 4 ∨ m = 5 ∨ m = 6 ∨ m = 7 := by omega
  rcases h with rfl | rfl | rfl | rfl | rfl | rfl | rfl | rfl <;> exact ⟨_, by simp; rfl⟩
theorem num_any (B rb p : Nat) (w : World) (h : Rd B rb p w) (hp : p < 900000) :
    Calls Try.prog 38 #[.pointer (some ⟨rb, 0, none⟩)] w fun e w' => ∃ r : Int, e = .returned (.int .i64 r) ∧ Rd B rb (p + 4) w' ∧ Off rb w w' := by
  go_enter Try.func38, Try.ntmps38
  go_wp2_with fail
  refine (pick_any B rb p _ _ h (by omega)).mono ?_
  rintro e w1 ⟨k1, rfl, a1, b1, r1, o1⟩
  go_wp2_with fail
  refine (pick_any B rb (p + 1) _ _ r1 (by omega)).mono ?_
  rintro e w2 ⟨k2, rfl, a2, b2, r2, o2⟩
  go_wp2_with fail
  refine (pick_any B rb (p + 1 + 1) _ _ r2 (by omega)).mono ?_
  rintro e w3 ⟨k3, rfl, a3, b3, r3, o3⟩
  go_wp2_with fail
  refine (pick_any B rb (p + 1 + 1 + 1) _ _ (r3.alloc _) (by omega)).mono ?_
  rintro e w4 ⟨k4, rfl, a4, b4, r4, o4⟩
  obtain ⟨m, rfl⟩ := Int.eq_ofNat_of_zero_le a4
  have hm : m < 8 := by omega
  have hrb : w3.heap.size ≠ rb := by have := r3.lt; omega
  obtain ⟨r, hr⟩ : ∃ r : Int, w4.cell? ⟨w3.heap.size, m, none⟩ = some (.int .i64 r) := by
    rw [o4.cell (p := ⟨w3.heap.size, m, none⟩) hrb]
    exact eight w3 _ _ _ _ _ _ _ _ m hm
  clear b1 b2 b3 b4
  go_wp2
  go_ret
  exact ⟨r, rfl, r4, ((o1.off.trans (o2.off.trans o3.off)).alloc _).trans o4.off⟩
theorem draw2_any (a : Option Addr) (len cap : Nat) (B : Nat) (w : World) (hB : B ≤ w.heap.size) (h : Bytes B w a len) (hl : len ≤ cap) :
    Calls Try.prog 16 #[.slice a len cap] w fun e w' => ∃ x y : Int, e = .returned (.tuple #[.int .i64 x, .int .i64 y]) ∧ Below w.heap.size w w' := by
  go_enter Try.func16, Try.ntmps16
  go_wp2_with fail
  refine (open_any B a len cap w hB h hl).mono ?_
  rintro e w1 ⟨rfl, r1, b1, s1⟩
  go_wp2_with fail
  refine (num_any B _ 0 _ r1 (by omega)).mono ?_
  rintro e w2 ⟨x, rfl, r2, o2⟩
  go_wp2_with fail
  refine (num_any B _ _ _ r2 (by omega)).mono ?_
  rintro e w3 ⟨y, rfl, r3, o3⟩
  go_wp2
  go_ret2
  exact ⟨x, y, rfl, (o2.trans o3).belowAll b1 (Nat.le_refl _)⟩
theorem draw2m_any (a : Option Addr) (len cap : Nat) (B : Nat) (w : World) (hB : B ≤ w.heap.size) (h : Bytes B w a len) (hl : len ≤ cap) :
    Calls Try.prog 31 #[.slice a len cap] w fun e w' => ∃ x y : Int, e = .returned (.tuple #[.int .i64 x, .int .i64 y]) ∧ Below w.heap.size w w' := by
  go_enter Try.func31, Try.ntmps31
  go_wp2_with fail
  refine (draw2_any a len cap B w hB h hl).mono ?_
  rintro e w1 ⟨x, y, rfl, b1⟩
  go_wp2
  go_ret2
  exact ⟨x, y, rfl, b1⟩
theorem draw2d_any (a : Option Addr) (len cap : Nat) (B : Nat) (w : World) (hB : B ≤ w.heap.size) (h : Bytes B w a len) (hl : len ≤ cap) :
    Calls Try.prog 32 #[.slice a len cap] w fun e w' => ∃ x y : Int, e = .returned (.tuple #[.int .i64 x, .int .i64 y]) ∧ Below w.heap.size w w' := by
  go_enter Try.func32, Try.ntmps32
  go_wp2_with fail
  refine (draw2_any a len cap B w hB h hl).mono ?_
  rintro e w1 ⟨x, y, rfl, b1⟩
  go_wp2
  go_ret2
  exact ⟨x, y, rfl, b1⟩
theorem draw2n_any (a : Option Addr) (len cap : Nat) (B : Nat) (w : World) (hB : B ≤ w.heap.size) (h : Bytes B w a len) (hl : len ≤ cap) :
    Calls Try.prog 35 #[.slice a len cap] w fun e w' => ∃ x y : Int, e = .returned (.tuple #[.int .i64 x, .int .i64 y]) ∧ Below w.heap.size w w' := by
  go_enter Try.func35, Try.ntmps35
  go_wp2_with fail
  refine (draw2_any a len cap B w hB h hl).mono ?_
  rintro e w1 ⟨x, y, rfl, b1⟩
  go_wp2
  go_ret2
  exact ⟨x, y, rfl, b1⟩
theorem draw1_any (a : Option Addr) (len cap : Nat) (B : Nat) (w : World) (hB : B ≤ w.heap.size) (h : Bytes B w a len) (hl : len ≤ cap) :
    Calls Try.prog 36 #[.slice a len cap] w fun e w' => ∃ x : Int, e = .returned (.int .i64 x) ∧ Below w.heap.size w w' := by
  go_enter Try.func36, Try.ntmps36
  go_wp2_with fail
  refine (open_any B a len cap w hB h hl).mono ?_
  rintro e w1 ⟨rfl, r1, b1, s1⟩
  go_wp2_with fail
  refine (num_any B _ 0 _ r1 (by omega)).mono ?_
  rintro e w2 ⟨x, rfl, r2, o2⟩
  go_wp2
  go_ret
  exact ⟨x, rfl, o2.belowAll b1 (Nat.le_refl _)⟩
theorem draw1r_any (a : Option Addr) (len cap : Nat) (B : Nat) (w : World) (hB : B ≤ w.heap.size) (h : Bytes B w a len) (hl : len ≤ cap) :
    Calls Try.prog 34 #[.slice a len cap] w fun e w' => ∃ x : Int, e = .returned (.int .i64 x) ∧ Below w.heap.size w w' := by
  go_enter Try.func34, Try.ntmps34
  go_wp2_with fail
  refine (open_any B a len cap w hB h hl).mono ?_
  rintro e w1 ⟨rfl, r1, b1, s1⟩
  go_wp2_with fail
  refine (num_any B _ 0 _ r1 (by omega)).mono ?_
  rintro e w2 ⟨x, rfl, r2, o2⟩
  go_wp2
  go_ret
  exact ⟨x, rfl, o2.belowAll b1 (Nat.le_refl _)⟩
end Go.Proofs.Ytkkjoglbcdhopaa
