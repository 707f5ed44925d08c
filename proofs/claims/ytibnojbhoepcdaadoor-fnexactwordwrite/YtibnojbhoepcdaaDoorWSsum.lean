/- The sum of a text: the model's way. -/
import Derived.Test.YtibnojbhoepcdaaDoorProg
import Derived.Test.YtibnojbhoepcdaaDoorWCrc
import Derived.Below
import Derived.LoopTactic
import Derived.WalkKit
import Derived.ProofKit
import Derived.WalkLawsBesides
import Derived.Laws.BitsAllLaws
import Derived.Laws.Bits64
namespace Go.Proofs.YtibnojbhoepcdaaDoor.S
open Go.ChangeShapes Go.WideShapes Go.ChangeAt Go.RowKit
theorem ret_int {k : IntKind} {a b : Int} (h : a = b) : Ending.returned (.int k a) = .returned (.int k b) := by rw [h]
theorem i64_nat (a : Nat) (ha : a < 9223372036854775808) : (BitVec.ofInt 64 (a : Int)).toNat = a := by
  rw [BitVec.ofInt_natCast, BitVec.toNat_ofNat]; exact Nat.mod_eq_of_lt (by omega)
theorem i64_xor_nat (a b : Nat) (ha : a < 9223372036854775808) (hb : b < 9223372036854775808) :
    bits .xor .i64 (a : Int) (b : Int) = ((a ^^^ b : Nat) : Int) := by
  have hx : a ^^^ b < 2 ^ 63 := Nat.xor_lt_two_pow (by omega) (by omega)
  show IntKind.i64.wrap ((BitVec.ofInt 64 (a : Int) ^^^ BitVec.ofInt 64 (b : Int)).toNat : Int) = _
  rw [BitVec.toNat_xor, i64_nat a ha, i64_nat b hb]
  simp [IntKind.wrap, IntKind.bits, IntKind.signed]
  omega
theorem i64_and_one (a : Nat) (ha : a < 9223372036854775808) : bits .and .i64 (a : Int) 1 = ((a % 2 : Nat) : Int) := by
  show IntKind.i64.wrap ((BitVec.ofInt 64 (a : Int) &&& BitVec.ofInt 64 ((1 : Nat) : Int)).toNat : Int) = _
  rw [BitVec.toNat_and, i64_nat a ha, i64_nat 1 (by omega), Nat.and_one_is_mod]
  simp [IntKind.wrap, IntKind.bits, IntKind.signed]
  omega
set_option maxHeartbeats 400000 in
theorem bits_any (x : Nat) (hx : x < 4294967296) (w : World) :
    Calls Tryd.prog 34 #[.int .i64 (x : Int)] w fun e w' => e = .returned (.int .i64 ((st8 x : Nat) : Int)) ∧ w' = w := by
  go_enter Tryd.func34, Tryd.ntmps34
  go_wp2
  go_loop [3, 4] (fun v i => ∃ k : Nat, k ≤ 8 ∧ i = .int .i64 k ∧ v = .int .i64 ((stpN k x : Nat) : Int)) (fun _ i => 8 - (intOf i).toNat)
  case atStart => exact ⟨0, by omega, rfl, rfl⟩
  case round =>
    obtain ⟨k, hk, rfl, rfl⟩ := hrel
    by_cases hlt : k < 8
    · have hy := stpN_lt k x hx
      have hs : Hid (stpN (k + 1) x = stp (stpN k x)) := rfl
      generalize stpN k x = y at *
      have h1 := i64_and_one y (by omega)
      have hlt' : (k : Int) < 8 := by omega
      by_cases ho : y % 2 = 1
      · rw [ho] at h1
        have h2 := i64_xor_nat (y / 2) 3988292384 (by omega) (by omega)
        have e2 : (((y / 2 : Nat) : Int)) = (y : Int) / 2 := by omega
        rw [e2] at h2
        have e3 : ((3988292384 : Nat) : Int) = 3988292384 := rfl
        rw [e3] at h2
        have hs' : Hid (stpN (k + 1) x = (y / 2) ^^^ 3988292384) := by have := hs.out; unfold stp at this; rw [if_pos ho] at this; exact this
        clear hs ho e2 e3
        generalize (y / 2) ^^^ 3988292384 = z at *
        go_wp2
        go_round
        case rel => exact ⟨k + 1, by omega, by go_num, by rw [hs'.out]⟩
        case measure => simp [intOf]; omega
      · have e0 : y % 2 = 0 := by omega
        rw [e0] at h1
        have hs' : Hid (stpN (k + 1) x = y / 2) := by have := hs.out; unfold stp at this; rw [if_neg ho] at this; exact this
        clear hs ho e0
        go_wp2
        go_round
        case rel => exact ⟨k + 1, by omega, by go_num, by rw [hs'.out]; go_num⟩
        case measure => simp [intOf]; omega
    · go_wp2
      go_ret
      have e : k = 8 := by omega
      subst e
      exact ⟨rfl, rfl⟩
/-- the bytes of a text as numbers -/
def byt (s : ByteArray) (i : Nat) : Nat := (s.data.toList[i]?.getD 0).toNat
theorem byt_lt (s : ByteArray) (i : Nat) : byt s i < 256 := (s.data.toList[i]?.getD 0).toNat_lt
theorem byt_at (s : ByteArray) (k : Nat) (h : k < s.size) : s[k].toNat = byt s k := by
  unfold byt
  have : s.data.toList[k]? = some s[k] := by
    rw [List.getElem?_eq_getElem (by simpa using h)]; rfl
  rw [this]; rfl
/-- the sum of a text -/
def sumN (s : ByteArray) : Nat := crcN (byt s) s.size ^^^ 4294967295
set_option maxHeartbeats 400000 in
theorem ssum_any (s : ByteArray) (hs : s.size ≤ 1048576) (w : World) :
    Calls Tryd.prog 13 #[.string s] w fun e w' => e = .returned (.int .i64 ((sumN s : Nat) : Int)) ∧ w' = w := by
  go_enter Tryd.func13, Tryd.ntmps13
  go_wp2
  go_loop [3, 4] (fun v i => ∃ k : Nat, k ≤ s.size ∧ i = .int .i64 k ∧ v = .int .i64 ((crcN (byt s) k : Nat) : Int)) (fun _ i => s.size - (intOf i).toNat)
  case atStart => exact ⟨0, by omega, rfl, rfl⟩
  case round =>
    obtain ⟨k, hk, rfl, rfl⟩ := hrel
    have hy := crcN_lt (byt s) (byt_lt s) k
    by_cases hlt : k < s.size
    · have hs1 : Hid (crcN (byt s) (k + 1) = st8 (crcN (byt s) k ^^^ byt s k)) := rfl
      have hb := byt_lt s k
      have hbt := byt_at s k hlt
      generalize crcN (byt s) k = y at *
      generalize byt s k = c at *
      have h2 := i64_xor_nat y c (by omega) (by omega)
      have h3 := xor_lt y c hy (by omega)
      go_wp2_with fail
      refine (bits_any (y ^^^ c) h3 _).mono ?_
      rintro e w' ⟨rfl, rfl⟩
      go_wp2
      go_round
      case rel => exact ⟨k + 1, by omega, by go_num, by rw [hs1.out]⟩
      case measure => simp [intOf]; omega
    · have e : k = s.size := by omega
      have h2 := i64_xor_nat (crcN (byt s) k) 4294967295 (by omega) (by omega)
      have e3 : ((4294967295 : Nat) : Int) = 4294967295 := rfl
      have hs1 : Hid (sumN s = crcN (byt s) k ^^^ 4294967295) := by rw [e]; rfl
      rw [e3] at h2
      clear e e3
      generalize crcN (byt s) k = y at *
      generalize y ^^^ 4294967295 = z at *
      go_wp2
      go_ret
      exact ⟨ret_int (by rw [hs1.out]), rfl⟩
end Go.Proofs.YtibnojbhoepcdaaDoor.S
