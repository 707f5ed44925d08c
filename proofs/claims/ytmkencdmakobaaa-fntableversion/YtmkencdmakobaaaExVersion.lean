/- How new a table is: the program's way and the model's; the exact law of TableVersion, walked. -/
import Derived.Test.YtmkencdmakobaaaExTable
namespace Go.Proofs.Ytmkencdmakobaaa
open Go.ChangeShapes Go.WideShapes Go.ChangeAt Go.RowKit
attribute [local go_sem ↓] Go.wp_at_zero Go.wp_at_succ
def verN (F : Nat → Fc) : Nat → Int
  | 0 => 0
  | k + 1 => verN F k + 1 + (F k).i * 16 + (F k).s * 2 + if (F k).g = true then 1 else 0
def verT (len : Nat) (F : Nat → Fc) : Int := if tokB len F = true then verN F len else 0
theorem vtok_all {len : Nat} {F : Nat → Fc} (h : tokB len F = true) : ∀ k, k < len → 0 ≤ (F k).n ∧ (F k).n ≤ 7 ∧ 0 ≤ (F k).i ∧ (F k).i ≤ 999 ∧ 1 ≤ (F k).s ∧ (F k).s ≤ 4 := by
  unfold tokB allB at h
  rw [Bool.and_eq_true, decide_eq_true_iff] at h
  intro k hk
  have := h.1 k hk
  unfold fokB inb at this
  simp at this
  omega
theorem ver_bd {len : Nat} {F : Nat → Fc} (h : tokB len F = true) : ∀ k, k ≤ len → 0 ≤ verN F k ∧ verN F k ≤ 16000 * (k : Int) := by
  intro k
  induction k with
  | zero => intro _; simp [verN]
  | succ k ih =>
    intro hk
    have := ih (by omega)
    have := vtok_all h k (by omega)
    unfold verN
    split <;> omega
theorem vtok_lit (a : Option Addr) (len cap : Nat) (F : Nat → Fc) (b : Bool) (w : World) (h : FSl w a len F) (hl : len ≤ 1048576) (hb : tokB len F = b) :
    Calls Try.prog 15 #[.slice a len cap] w fun e w' => e = .returned (.bool b) ∧ Below w.heap.size w w' := hb ▸ tok_any a len cap F w h hl
theorem vstok_lit (a : Option Addr) (len cap : Nat) (F : Nat → Fc) (b : Bool) (w : World) (h : FSl w a len F) (hl : len ≤ 1048576) (hb : tokB len F = b) :
    Calls Try.prog 10 #[.slice a len cap] w fun e w' => e = .returned (.bool b) ∧ Below w.heap.size w w' := hb ▸ stok_any a len cap F w h hl
set_option maxRecDepth 10000 in
set_option maxHeartbeats 1000000 in
theorem ver_any (a : Option Addr) (len cap : Nat) (F : Nat → Fc) (w : World) (h : FSl w a len F) (hl : len ≤ 1048576) :
    Calls Try.prog 7 #[.slice a len cap] w fun e w' => e = .returned (.int .i64 (verT len F)) ∧ Below w.heap.size w w' := by
  cases hok : tokB len F
  · have hok' : Hid (tokB len F = false) := hok
    clear hok
    go_enter Try.func7, Try.ntmps7
    go_wp2_with fail
    refine (vtok_lit a len cap F false _ h hl hok'.out).mono ?_
    rintro r w1 ⟨rfl, b1⟩
    go_wp2
    go_ret
    exact ⟨ret_int (by unfold verT; rw [hok'.out]; rfl), b1⟩
  · have hok' : Hid (tokB len F = true) := hok
    have hbd := ver_bd hok
    have hall := vtok_all hok
    clear hok
    go_enter Try.func7, Try.ntmps7
    go_wp2_with fail
    refine (vtok_lit a len cap F true _ h hl hok'.out).mono ?_
    rintro r w1 ⟨rfl, b1⟩
    have h1 := h.below b1
    go_wp2_with fail
    go_loopw [3, 5, 11] (fun v _ i wr => ∃ k : Nat, k ≤ len ∧ i = .int .i64 k ∧ v = .int .i64 (verN F k) ∧ Below w1.heap.size w1 wr) (fun _ _ i _ => len - (intOf i).toNat)
    case atStart => exact ⟨0, by omega, rfl, rfl, Below.refl _ _⟩
    case round =>
      obtain ⟨k, hk, rfl, rfl, hb⟩ := hrel
      by_cases hlt : k < len
      · obtain ⟨b, off, rfl, hbl, hf⟩ := h1 (by omega)
        obtain ⟨c0, c1, c2, c3⟩ := (hf.below hb hbl) k hlt
        have g1 := hbd k hk
        have g2 := hall k hlt
        have g3 : Hid (verN F (k + 1) = verN F k + 1 + (F k).i * 16 + (F k).s * 2 + if (F k).g = true then 1 else 0) := rfl
        obtain ⟨g10, g11⟩ := g1
        obtain ⟨_, _, g20, g21, g22, g23⟩ := g2
        clear hbd hall
        generalize verN F k = v at *
        have g12 : v ≤ 16777216000 := by omega
        clear g11
        cases hg : (F k).g
        · have g4 := g3.out
          rw [hg] at c3 g4
          simp only [Bool.false_eq_true, if_false] at g4
          have g5 : Hid (verN F (k + 1) = v + 1 + (F k).i * 16 + (F k).s * 2 + 0) := g4
          clear hg g4 g3
          go_wp2
          go_roundw
          case rel => exact ⟨k + 1, by omega, by go_num, by rw [g5.out]; try go_num, balloc _ hb⟩
          case measure => simp [intOf]; omega
        · have g4 := g3.out
          rw [hg] at c3 g4
          simp only [if_true] at g4
          have g5 : Hid (verN F (k + 1) = v + 1 + (F k).i * 16 + (F k).s * 2 + 1) := g4
          clear hg g4 g3
          go_wp2
          go_roundw
          case rel => exact ⟨k + 1, by omega, by go_num, by rw [g5.out]; try go_num, balloc _ hb⟩
          case measure => simp [intOf]; omega
      · go_wp2
        go_ret
        have e : k = len := by omega
        subst e
        exact ⟨ret_int (by unfold verT; rw [hok'.out]; rfl), btrans b1 hb⟩
set_option maxRecDepth 10000 in
set_option maxHeartbeats 1000000 in
theorem sver_any (a : Option Addr) (len cap : Nat) (F : Nat → Fc) (w : World) (h : FSl w a len F) (hl : len ≤ 1048576) :
    Calls Try.prog 9 #[.slice a len cap] w fun e w' => e = .returned (.int .i64 (verT len F)) ∧ Below w.heap.size w w' := by
  cases hok : tokB len F
  · have hok' : Hid (tokB len F = false) := hok
    clear hok
    go_enter Try.func9, Try.ntmps9
    go_wp2_with fail
    refine (vstok_lit a len cap F false _ h hl hok'.out).mono ?_
    rintro r w1 ⟨rfl, b1⟩
    go_wp2
    go_ret
    exact ⟨ret_int (by unfold verT; rw [hok'.out]; rfl), b1⟩
  · have hok' : Hid (tokB len F = true) := hok
    have hbd := ver_bd hok
    have hall := vtok_all hok
    clear hok
    go_enter Try.func9, Try.ntmps9
    go_wp2_with fail
    refine (vstok_lit a len cap F true _ h hl hok'.out).mono ?_
    rintro r w1 ⟨rfl, b1⟩
    have h1 := h.below b1
    go_wp2_with fail
    go_loopw [3, 4] (fun v i wr => ∃ k : Nat, k ≤ len ∧ i = .int .i64 k ∧ v = .int .i64 (verN F k) ∧ Below w1.heap.size w1 wr) (fun _ i _ => len - (intOf i).toNat)
    case atStart => exact ⟨0, by omega, rfl, rfl, Below.refl _ _⟩
    case round =>
      obtain ⟨k, hk, rfl, rfl, hb⟩ := hrel
      by_cases hlt : k < len
      · obtain ⟨b, off, rfl, hbl, hf⟩ := h1 (by omega)
        obtain ⟨c0, c1, c2, c3⟩ := (hf.below hb hbl) k hlt
        have g1 := hbd k hk
        have g2 := hall k hlt
        have g3 : Hid (verN F (k + 1) = verN F k + 1 + (F k).i * 16 + (F k).s * 2 + if (F k).g = true then 1 else 0) := rfl
        obtain ⟨g10, g11⟩ := g1
        obtain ⟨_, _, g20, g21, g22, g23⟩ := g2
        clear hbd hall
        generalize verN F k = v at *
        have g12 : v ≤ 16777216000 := by omega
        clear g11
        have i0 : (0 : Int) ≤ (k : Int) := by omega
        have i1 : (k : Int) < (len : Int) := by omega
        cases hg : (F k).g
        · have g4 := g3.out
          rw [hg] at c3 g4
          simp only [Bool.false_eq_true, if_false] at g4
          have g5 : Hid (verN F (k + 1) = v + 1 + (F k).i * 16 + (F k).s * 2 + 0) := g4
          clear hg g4 g3
          go_wp2
          go_quiet (fail)
          go_wp2
          go_roundw
          case rel => exact ⟨k + 1, by omega, by go_num, by rw [g5.out]; try go_num, QB hb⟩
          case measure => simp [intOf]; omega
        · have g4 := g3.out
          rw [hg] at c3 g4
          simp only [if_true] at g4
          have g5 : Hid (verN F (k + 1) = v + 1 + (F k).i * 16 + (F k).s * 2 + 1) := g4
          clear hg g4 g3
          go_wp2
          go_quiet (fail)
          go_wp2
          go_roundw
          case rel => exact ⟨k + 1, by omega, by go_num, by rw [g5.out]; try go_num, QB hb⟩
          case measure => simp [intOf]; omega
      · go_wp2
        go_ret
        have e : k = len := by omega
        subst e
        exact ⟨ret_int (by unfold verT; rw [hok'.out]; rfl), btrans b1 hb⟩
end Go.Proofs.Ytmkencdmakobaaa
