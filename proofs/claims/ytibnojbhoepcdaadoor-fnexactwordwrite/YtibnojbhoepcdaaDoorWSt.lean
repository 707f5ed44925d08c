/- The sum's text: eight figures; the program's way and the model's. -/
import Derived.Test.YtibnojbhoepcdaaDoorWHex
import Derived.Test.YtibnojbhoepcdaaDoorGates
namespace Go.Proofs.YtibnojbhoepcdaaDoor.S
open Go.ChangeShapes Go.WideShapes Go.ChangeAt Go.RowKit
attribute [local go_sem ↓] Go.wp_at_zero Go.wp_at_succ
/-- just so many figures -/
def hexP : Nat → Nat → List UInt8
  | 0, _ => []
  | k + 1, n => hexP k (n / 16) ++ [hexD (n % 16)]
theorem hexP_zero (k : Nat) : hexP k 0 = List.replicate k 48 := by
  induction k with
  | zero => rfl
  | succ k ih => rw [hexP, Nat.zero_div, ih, List.replicate_succ']; rfl
theorem hexA_len (k : Nat) : ∀ n l, (hexA k n l).length ≤ k + 1 + l.length ∧ l.length < (hexA k n l).length := by
  induction k with
  | zero => intro n l; simp [hexA]; omega
  | succ k ih =>
    intro n l
    rw [hexA]
    split
    · simp; omega
    · have := ih (n / 16) (hexD (n % 16) :: l)
      simp only [List.length_cons] at this
      omega
theorem hexA_pad (k : Nat) : ∀ n l, n < 16 ^ (k + 1) → List.replicate (k + 1 + l.length - (hexA k n l).length) 48 ++ hexA k n l = hexP (k + 1) n ++ l := by
  induction k with
  | zero => intro n l h; simp [hexA, hexP, Nat.add_comm]
  | succ k ih =>
    intro n l h
    rw [hexA]
    split
    · rename_i h16
      rw [hexP, Nat.div_eq_of_lt h16, hexP_zero, Nat.mod_eq_of_lt h16]
      simp only [List.length_cons]
      rw [show k + 1 + 1 + l.length - (l.length + 1) = k + 1 by omega]
      simp
    · have := ih (n / 16) (hexD (n % 16) :: l) (Nat.div_lt_of_lt_mul (by rw [Nat.pow_succ, Nat.mul_comm] at h; exact h))
      simp only [List.length_cons] at this
      rw [show k + 1 + 1 + l.length = k + 1 + (l.length + 1) by omega, this]
      rw [hexP.eq_def (k + 1 + 1)]
      simp
/-- the sum's text -/
def hex8 (n : Nat) : List UInt8 := hexP 8 n
theorem hex8_pad (n : Nat) (h : n < 4294967296) : List.replicate (8 - (hexL n).length) 48 ++ hexL n = hex8 n := by
  have := hexA_pad 7 n [] (by omega)
  simpa [hexL, hex8] using this
theorem hexL_len (n : Nat) : (hexL n).length ≤ 8 := by have := (hexA_len 7 n []).1; simpa [hexL] using this
theorem hexP_len (k n : Nat) : (hexP k n).length = k := by
  induction k generalizing n with
  | zero => rfl
  | succ k ih => simp [hexP, ih]
theorem rep48 (c : Nat) : Lib.repeatL [48] c = List.replicate c 48 := by
  induction c with
  | zero => rfl
  | succ c ih => rw [Lib.repeatL, ih, List.replicate_succ]; rfl
set_option maxRecDepth 20000 in
set_option maxHeartbeats 1000000 in
theorem sumText_any (n : Nat) (hn : n < 4294967296) (w : World) (hc : w.cell? ⟨5, 15, none⟩ = some (.int .u8 4)) :
    Calls Tryd.prog 22 #[.int .i64 n] w fun e w' => e = .returned (.string (bs (hex8 n))) ∧ Below w.heap.size w w' := by
  have hpad := hex8_pad n hn
  have hlen := hexL_len n
  have hf := fmt_any n hn w hc
  generalize hexL n = l at hpad hlen hf
  generalize hex8 n = t at hpad
  obtain ⟨F, hF⟩ : ∃ F, bs l = F := ⟨_, rfl⟩
  have hsz : F.size = l.length := by rw [← hF]; simp [ByteArray.size]
  have hr := fun w1 => Tryd.strings_Repeat ⟨#[48]⟩ (8 - F.size) w1 (by omega) (by rw [show (ByteArray.mk #[48]).size = 1 from rfl]; omega)
  have hE : ByteArray.mk (Lib.repeatL (ByteArray.mk #[48]).data.toList (8 - F.size)).toArray ++ F = bs t := by
    rw [← hpad, ← hF, show (ByteArray.mk #[48]).data.toList = [48] from rfl, rep48, show (bs l).size = l.length by simp [ByteArray.size]]
    exact bs_append _ _
  have hRs : (ByteArray.mk (Lib.repeatL (ByteArray.mk #[48]).data.toList (8 - F.size)).toArray).size = 8 - F.size := by
    rw [show (ByteArray.mk #[48]).data.toList = [48] from rfl, rep48]
    exact List.size_toArray.trans List.length_replicate
  generalize ByteArray.mk (Lib.repeatL (ByteArray.mk #[48]).data.toList (8 - F.size)).toArray = R at hr hE hRs
  rw [hF] at hf
  rw [show ((8 - F.size : Nat) : Int) = 8 - (F.size : Int) by omega] at hr
  generalize bs t = T at *
  have big : ¬ (9223372036854775807 : Int) < (R.size : Int) + (F.size : Int) := by omega
  have hEH : Hid (R ++ F = T) := hE
  have hrH : Hid _ := hr
  clear hE hpad hF hRs hsz hlen hr hn
  go_enter Tryd.func22, Tryd.ntmps22
  go_wp2_with fail
  refine hf.mono ?_
  rintro e w1 ⟨rfl, b1⟩
  clear hf
  go_wp2_with fail
  refine (hrH.out w1).mono ?_
  rintro e w2 ⟨rfl, b2⟩
  have B2 := btrans b1 b2
  clear hrH
  go_wp2
  go_ret
  exact ⟨by rw [hEH.out]; rfl, B2⟩
end Go.Proofs.YtibnojbhoepcdaaDoor.S
