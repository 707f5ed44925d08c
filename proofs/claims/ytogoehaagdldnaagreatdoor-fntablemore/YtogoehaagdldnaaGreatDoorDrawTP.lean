/- A drawn table and fact; two lists held against each other. -/
import Derived.Test.YtogoehaagdldnaaGreatDoorDrawTab
namespace Go.Proofs.YtogoehaagdldnaaGreatDoor
open Go.ChangeShapes Go.WideShapes Go.ChangeAt Go.RowKit
attribute [local go_sem ↓] Go.wp_at_zero Go.wp_at_succ
/-- some list and some fact -/
def TPPost (w : World) (r : Ending) (w' : World) : Prop :=
  ∃ (a : Option Addr) (c : Nat) (T : List Fc) (f : Fc), r = .returned (.tuple #[.slice a T.length c, fval f]) ∧ Value.slice a T.length c ≠ .slice none 0 0 ∧ w'.ownsRow w.heap.size 33 4 (.slice a T.length c) T.length (fl T) ∧ T.length ≤ 7 ∧ Below w.heap.size w w'
set_option maxRecDepth 20000 in
set_option maxHeartbeats 2000000 in
theorem drawTP_any (a : Option Addr) (len cap : Nat) (w : World) (h : Bytes w.heap.size w a len) (hl : len ≤ cap) :
    Calls Tryz.prog 17 #[.slice a len cap] w (TPPost w) := by
  have p0 : (w.alloc (.cells #[.int .i64 0, .int .i64 0, .int .i64 0, .bool false] 33)).heap[w.heap.size]? = some (.cells #[.int .i64 0, .int .i64 0, .int .i64 0, .bool false] 33 (0, 0)) := heap_alloc_new _ _
  have B0 : Below w.heap.size w (w.alloc (.cells #[.int .i64 0, .int .i64 0, .int .i64 0, .bool false] 33)) := balloc _ (Below.refl _ _)
  have z0 : (w.alloc (.cells #[.int .i64 0, .int .i64 0, .int .i64 0, .bool false] 33)).heap.size = w.heap.size + 1 := by simp
  go_enter Tryz.func17, Tryz.ntmps17
  go_wp2_with fail
  generalize (w.alloc (.cells #[.int .i64 0, .int .i64 0, .int .i64 0, .bool false] 33)) = W0 at *
  refine (open_any w.heap.size a len cap _ (by omega) (h.below B0 (Nat.le_refl _)) hl).mono ?_
  rintro r w1 ⟨rfl, ⟨G, r1⟩, b1, z1⟩
  have B1 := btrans B0 b1
  have S1 : Slot4 w1 w.heap.size := fun i hi => by
    have p1 := (b1.block w.heap.size (by omega)).trans p0
    have : i = 0 ∨ i = 1 ∨ i = 2 ∨ i = 3 := by omega
    rcases this with rfl | rfl | rfl | rfl <;> exact ⟨⟨_, by simp [World.cell?, p1]; rfl⟩, by simp [World.frozen?, p1]⟩
  clear b1 p0
  have r1lt := r1.lt
  generalize hrb : W0.heap.size = rb at *
  have nA : w.heap.size ≠ rb := by omega
  have hB : w.heap.size ≤ rb := by omega
  have hBl : w.heap.size < w1.heap.size := by omega
  clear z0 z1 hrb
  go_wp2_with fail
  refine (anyTable_any w.heap.size rb 0 _ r1 (by omega)).mono ?_
  rintro r w2 ⟨a2, c2, T, q, rfl, hn, o2, hT, hq, r2, f2⟩
  have S2 := S1.off f2 nA
  have B2 := Off.belowAll B1 f2 hB
  clear S1 f2 r1
  go_wp2_with fail
  refine (anyFact_any w.heap.size rb q _ r2 (by omega)).mono ?_
  rintro r w3 ⟨fn, fi, fs, fg, q3, rfl, hq3, r3, f3⟩
  have S3 := S2.off f3 nA
  have B3 := Off.belowAll B2 f3 hB
  have o3 := own_off o2 f3 (by have := r1lt; omega)
  clear S2 f3 r2 r3 o2
  obtain ⟨⟨v0, c0⟩, m0⟩ := S3 0 (by omega)
  obtain ⟨⟨v1, c1⟩, m1⟩ := S3 1 (by omega)
  obtain ⟨⟨v2, c2'⟩, m2⟩ := S3 2 (by omega)
  obtain ⟨⟨v3, c3⟩, m3⟩ := S3 3 (by omega)
  go_wp2
  refine bodyPost_ret (v := .tuple #[.slice a2 T.length c2, .agg #[.int .i64 fn, .int .i64 fi, .int .i64 fs, .bool fg]]) (by simp [results, Tryz.results17, go_sem, c0, c1, c2', c3]) rfl ⟨a2, c2, T, ⟨fn, fi, fs, fg⟩, rfl, hn, ?_, hT, set4 B3⟩
  have g1 := grown_trans (grown_trans (grown_trans (grown_set w3 w.heap.size 0 (.int .i64 fn)) (grown_set _ w.heap.size 1 (.int .i64 fi))) (grown_set _ w.heap.size 2 (.int .i64 fs))) (grown_set _ w.heap.size 3 (.bool fg))
  exact own_mono B1.size (o3.kept g1 (.inr fun e => by have := (o3.lt _ e).1; omega))
set_option maxRecDepth 20000 in
theorem fceq (f g : Fc) : (f = g) ↔ f.n = g.n ∧ f.i = g.i ∧ f.s = g.s ∧ f.g = g.g := by
  obtain ⟨a, b, c, d⟩ := f
  obtain ⟨a', b', c', d'⟩ := g
  simp
set_option maxRecDepth 20000 in
set_option maxHeartbeats 2000000 in
theorem lh_same (a a' : Option Addr) (len cap cap' : Nat) (F : Nat → Fc) (w : World) (h : FSl w a len F) (h' : FSl w a' len F) (hl : len ≤ 1048576) :
    Calls Tryz.prog 11 #[.slice a len cap, .slice a' len cap'] w fun e w' => e = .returned (.bool true) ∧ Below w.heap.size w w' := by
  go_enter Tryz.func11, Tryz.ntmps11
  go_wp2
  go_loopw [5] (fun i wr => ∃ k : Nat, k ≤ len ∧ i = .int .i64 k ∧ Below w.heap.size w wr) (fun i _ => len - (intOf i).toNat)
  case atStart => exact ⟨0, Nat.zero_le _, rfl, Below.refl _ _⟩
  case round =>
    obtain ⟨k, hk, rfl, hb⟩ := hrel
    by_cases hlt : k < len
    · obtain ⟨b, off, rfl, hbl, hf⟩ := h (by omega)
      obtain ⟨c0, c1, c2, c3⟩ := (hf.below hb hbl) k hlt
      obtain ⟨b', off', rfl, hbl', hf'⟩ := h' (by omega)
      obtain ⟨d0, d1, d2, d3⟩ := (hf'.below hb hbl') k hlt
      have i0 : (0 : Int) ≤ (k : Int) := by omega
      have i1 : (k : Int) < (len : Int) := by omega
      go_wp2_with fail
      go_quiet (fail)
      go_wp2
      go_roundw
      case rel => exact ⟨k + 1, by omega, by go_num, QB hb⟩
      case measure => simp [intOf]; omega
    · go_wp2
      go_ret
      exact ⟨rfl, hb⟩
end Go.Proofs.YtogoehaagdldnaaGreatDoor
