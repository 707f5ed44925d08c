/- A drawn text; the law that the sum is that which the whole world calls CRC-32, walked. -/
import Derived.Test.YtbaadlkgjniipaaDraw
import Derived.Laws.Concat
namespace Go.Proofs.Ytbaadlkgjniipaa
open Go.ChangeShapes Go.WideShapes Go.ChangeAt Go.RowKit
set_option maxHeartbeats 400000 in
theorem many_any (t : ByteArray) (n : Int) (h0 : 0 ≤ n) (h1 : n ≤ 5) (ht : t.size ≤ 100) (w : World) :
    Calls Try.prog 10 #[.string t, .int .i64 n] w fun e w' => (∃ o : ByteArray, e = .returned (.string o) ∧ o.size ≤ 700) ∧ w' = w := by
  go_enter Try.func10, Try.ntmps10
  go_wp2
  go_loop [0, 1, 5] (fun t n o => ∃ (tt oo : ByteArray) (k : Int), t = .string tt ∧ n = .int .i64 k ∧ o = .string oo ∧ 0 ≤ k ∧ ((k ≤ 5 ∧ tt.size ≤ 100 ∧ oo.size ≤ 0) ∨ (k ≤ 2 ∧ tt.size ≤ 200 ∧ oo.size ≤ 100) ∨ (k ≤ 1 ∧ tt.size ≤ 400 ∧ oo.size ≤ 300) ∨ (k ≤ 0 ∧ tt.size ≤ 800 ∧ oo.size ≤ 700))) (fun _ n _ => (intOf n).toNat)
  case atStart => exact ⟨t, _, n, rfl, rfl, rfl, h0, .inl ⟨h1, ht, by decide⟩⟩
  case round =>
    obtain ⟨tt, oo, k, rfl, rfl, rfl, k0, hb⟩ := hrel
    have hk5 : k ≤ 5 := by omega
    have hts : tt.size ≤ 800 := by omega
    have hos : oo.size ≤ 700 := by omega
    by_cases hlt : 0 < k
    · go_wp2
      all_goals
        go_round
        case rel => exact ⟨_, _, k / 2, rfl, by go_num, rfl, by omega, by simp only [ByteArray.size_append]; omega⟩
        case measure => simp [intOf]; omega
    · go_wp2
      go_ret
      exact ⟨⟨_, rfl, by omega⟩, rfl⟩
theorem four (w : World) (a b c d : Value) (m : Nat) (hm : m < 4) : ∃ v, (v = a ∨ v = b ∨ v = c ∨ v = d) ∧ (w.alloc (.cells #[a, b, c, d] 9)).cell? ⟨w.heap.size, m, none⟩ = some v := by
  have h : m = 0 ∨ m = 1 ∨ m = 2 ∨ m = 3 := by omega
  rcases h with rfl | rfl | rfl | rfl
  · exact ⟨a, .inl rfl, by simp⟩
  · exact ⟨b, .inr (.inl rfl), by simp⟩
  · exact ⟨c, .inr (.inr (.inl rfl)), by simp⟩
  · exact ⟨d, .inr (.inr (.inr rfl)), by simp⟩
set_option maxHeartbeats 400000 in
theorem of_any {G : Cd} (B rb p L : Nat) (w : World) (h : Rd G B rb p w) (hp : p < 1000000) (hL : L ≠ rb) (hc : ∀ m, m < 4 → ∃ s : ByteArray, s.size ≤ 9 ∧ w.cell? ⟨L, m, none⟩ = some (.string s)) :
    Calls Try.prog 11 #[.pointer (some ⟨rb, 0, none⟩), .slice (some ⟨L, 0, none⟩) 4 4] w fun e w' => (∃ s : ByteArray, e = .returned (.string s) ∧ s.size ≤ 9) ∧ Rd G B rb (p + 1) w' ∧ Aside1 rb w w' := by
  go_enter Try.func11, Try.ntmps11
  go_wp2_with fail
  refine (pick_any B rb p _ _ h hp).mono ?_
  rintro e w1 ⟨rfl, ⟨a1, b1⟩, r1, o1⟩
  generalize G.pk _ _ = m at *
  obtain ⟨m, rfl⟩ := Int.eq_ofNat_of_zero_le a1
  have hm : m < 4 := by omega
  obtain ⟨s, hs, hcell⟩ := hc m hm
  have hcell1 : w1.cell? ⟨L, m, none⟩ = some (.string s) := (o1.cell (p := ⟨L, m, none⟩) hL).trans hcell
  clear hc hcell b1
  go_wp2
  go_ret
  exact ⟨⟨s, rfl, hs⟩, r1, o1⟩
theorem balloc {w w' : World} (o : Obj) (h : Below w.heap.size w w') : Below w.heap.size w (w'.alloc o) := h.alloc h.size o
theorem btrans {a W w' : World} (h : Below a.heap.size a W) (k : Below W.heap.size W w') : Below a.heap.size a w' := h.trans (k.mono h.size)
set_option maxHeartbeats 400000 in
theorem drawSum_any (a : Option Addr) (len cap : Nat) (w : World) (h : Bytes w.heap.size w a len) (hl : len ≤ cap) :
    Calls Try.prog 5 #[.slice a len cap] w fun r w' => (∃ s : ByteArray, r = .returned (.string s) ∧ s.size ≤ 700) ∧ Below w.heap.size w w' := by
  go_enter Try.func5, Try.ntmps5
  go_wp2_with fail
  refine (open_any w.heap.size a len cap _ (Nat.le_refl _) h hl).mono ?_
  rintro r w1 ⟨rfl, ⟨G, r1⟩, b1, z1⟩
  have hne : w1.heap.size ≠ w.heap.size := by omega
  clear z1
  generalize hrb : w.heap.size = rb at r1 hne ⊢
  go_wp2_with fail
  refine (of_any _ rb 0 _ _ (r1.alloc _) (by omega) hne (fun m hm => by
    obtain ⟨v, hv, hc⟩ := four w1 _ _ _ _ m hm
    rcases hv with rfl | rfl | rfl | rfl
    · exact ⟨_, by decide, hc⟩
    · exact ⟨_, by decide, hc⟩
    · exact ⟨_, by decide, hc⟩
    · exact ⟨_, by decide, hc⟩)).mono ?_
  rintro r w2 ⟨⟨s, rfl, hs⟩, r2, o2⟩
  go_wp2_with fail
  refine (pick_any _ rb _ _ _ r2 (by omega)).mono ?_
  rintro r w3 ⟨rfl, ⟨a3, b3⟩, r3, o3⟩
  generalize G.pk _ _ = k at *
  go_wp2_with fail
  refine (many_any s k a3 (by omega) (by omega) _).mono ?_
  rintro r w4 ⟨⟨o, rfl, ho⟩, rfl⟩
  go_wp2
  go_ret
  subst hrb
  exact ⟨⟨o, rfl, ho⟩, btrans (Below.trans (balloc _ b1) (Below.trans (o2.below (Nat.le_refl _)) (o3.below (Nat.le_refl _)))) (Below.refl _ _)⟩
theorem lhIn_any (n lo hi : Int) (w : World) (h1 : lo ≤ n) (h2 : n ≤ hi) :
    Calls Try.prog 8 #[.int .i64 n, .int .i64 lo, .int .i64 hi] w fun e w' => e = .returned (.bool true) ∧ w' = w := by
  go_enter Try.func8, Try.ntmps8
  go_wp2
  go_ret
  exact ⟨rfl, rfl⟩
theorem check : sumN ⟨#[49, 50, 51, 52, 53, 54, 55, 56, 57]⟩ = 3421780262 := by decide +kernel
theorem check0 : sumN ⟨#[]⟩ = 0 := by decide +kernel
theorem sumN_lt (s : ByteArray) : sumN s < 4294967296 := xor_lt _ _ (crcN_lt _ (byt_lt s) _) (by omega)
set_option maxHeartbeats 1000000 in
theorem wordSum_walk (a : Option Addr) (len cap : Nat) (w : World) (h : Bytes w.heap.size w a len) (hl : len ≤ cap) (hm : len ≤ maxLen) :
    Calls Try.prog 3 #[.slice a len cap] w fun e w' => e = .returned (.bool true) ∧ Below w.heap.size w w' := by
  unfold maxLen at hm
  by_cases hlen : 1048576 < len
  · go_enter Try.func3, Try.ntmps3
    go_wp2
    go_ret
    exact ⟨rfl, Below.refl _ _⟩
  go_enter Try.func3, Try.ntmps3
  go_wp2_with fail
  refine (drawSum_any a len cap _ h hl).mono ?_
  rintro r w1 ⟨⟨s, rfl, hs⟩, b1⟩
  have hz := sumN_lt s
  go_wp2_with fail
  refine (sum_any s (by omega) _).mono ?_
  rintro r w2 ⟨rfl, b2⟩
  go_wp2_with fail
  refine (ssum_any s (by omega) _).mono ?_
  rintro r w3 ⟨rfl, rfl⟩
  generalize sumN s = z at *
  have z0 : (0 : Int) ≤ (z : Int) := by omega
  have z1 : (z : Int) ≤ 4294967295 := by omega
  go_wp2_with fail
  refine (lhIn_any _ _ _ _ z0 z1).mono ?_
  rintro r w4 ⟨rfl, rfl⟩
  go_wp2_with fail
  refine (sum_any _ (by decide) _).mono ?_
  rintro r w5 ⟨rfl, b5⟩
  rw [check]
  go_wp2_with fail
  refine (sum_any _ (by decide) _).mono ?_
  rintro r w6 ⟨rfl, b6⟩
  rw [check0]
  go_wp2
  go_ret
  exact ⟨rfl, btrans (btrans (btrans b1 b2) b5) b6⟩
end Go.Proofs.Ytbaadlkgjniipaa
