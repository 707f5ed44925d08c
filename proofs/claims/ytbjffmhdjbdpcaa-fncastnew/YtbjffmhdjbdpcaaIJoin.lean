/- Items put together: the program's way. -/
import Derived.Test.YtbjffmhdjbdpcaaIList
namespace Go.Proofs.Ytbjffmhdjbdpcaa.I
open Go.ChangeShapes Go.WideShapes Go.ChangeAt Go.RowKit
attribute [local go_sem ↓] Go.wp_at_zero Go.wp_at_succ
/-- all of U put to T -/
def tjoin (T U : List It) : List It := U.foldl tput T
theorem tjoin_succ (T : List It) (G : Nat → It) (k : Nat) : tjoin T (seqF G (k + 1)) = tput (tjoin T (seqF G k)) (G k) := by
  unfold tjoin
  rw [seqF_succ, List.foldl_append]
  rfl
theorem tjoin_asc {T : List It} (h : Asc T) (G : Nat → It) : ∀ k, Asc (tjoin T (seqF G k))
  | 0 => h
  | k + 1 => by rw [tjoin_succ]; exact tput_asc (tjoin_asc h G k)
theorem tjoin_ok {T : List It} {G : Nat → It} {len : Nat} (h : ∀ g ∈ T, fok g = true) (hG : ∀ k, k < len → fok (G k) = true) : ∀ k, k ≤ len → ∀ g ∈ tjoin T (seqF G k), fok g = true
  | 0, _ => h
  | k + 1, hk => by
    rw [tjoin_succ]
    intro g hg
    rcases tput_mem hg with rfl | hg
    · exact hG k (by omega)
    · exact tjoin_ok h hG k (by omega) g hg
theorem ok_short {T : List It} (h : Asc T) (hok : ∀ g ∈ T, fok g = true) : T.length ≤ 8 := by
  rcases asc_short T 0 h (fun g hg => by have := hok g hg; unfold fok fokB inb at this; simp at this; omega) with h | h
  · omega
  · simp [h]
theorem seqF_ok {F : Nat → It} {len : Nat} (h : ∀ k, k < len → fok (F k) = true) : ∀ g ∈ seqF F len, fok g = true := fun g hg => by
  obtain ⟨k, hk, rfl⟩ := seqF_mem hg
  exact h k hk
set_option maxRecDepth 20000 in
set_option maxHeartbeats 2000000 in
theorem joined_any (a : Option Addr) (len cap : Nat) (F : Nat → It) (a2 : Option Addr) (len2 cap2 : Nat) (G : Nat → It) (w : World) (h : TSl w a len F) (h2 : TSl w a2 len2 G) (hok : cokB len F = true) (hok2 : cokB len2 G = true) :
    Calls Try.prog 24 #[.slice a len cap, .slice a2 len2 cap2] w fun e w' => ∃ v, e = .returned v ∧ w'.ownsRow w.heap.size 33 5 v (tjoin (seqF F len) (seqF G len2)).length (fl (tjoin (seqF F len) (seqF G len2))) ∧ Below w.heap.size w w' := by
  have hl := tok_len hok
  have hl2 := tok_len hok2
  obtain ⟨t1, t2⟩ := tok_all hok
  obtain ⟨u1, u2⟩ := tok_all hok2
  have hokH : Hid (cokB len F = true) := hok
  clear hok hok2
  have hA := tjoin_asc (seqF_asc t2 len (Nat.le_refl _)) G
  have hO := tjoin_ok (seqF_ok t1) u1
  go_enter Try.func24, Try.ntmps24
  go_wp2_with fail
  refine (regOf_any a len cap F _ h hokH.out).mono ?_
  rintro r w1 ⟨rb, rfl, R1, b1⟩
  go_wp2_with fail
  go_loopw [12] (fun i wr => ∃ k : Nat, k ≤ len2 ∧ i = .int .i64 k ∧ Reg wr w.heap.size rb (len + k) (tjoin (seqF F len) (seqF G k)) ∧ Below w.heap.size w wr) (fun i _ => len2 - (intOf i).toNat)
  case atStart => exact ⟨0, Nat.zero_le _, rfl, R1, b1⟩
  case round =>
    obtain ⟨k, hk, rfl, hR, hb⟩ := hrel
    clear R1 b1
    by_cases hlt : k < len2
    · obtain ⟨b, off, rfl, hbl, hf⟩ := h2 (by omega)
      obtain ⟨c0, c1, c2, c3, c4⟩ := (hf.below hb hbl) k hlt
      go_wp2_with fail
      refine (put_any w.heap.size rb (len + k) (tjoin (seqF F len) (seqF G k)) (G k) _ (hR.below (balloc _ (Below.refl _ _))) (hA k) (hO k (by omega)) (u1 k hlt) (by have := hb.size; simp; omega) (by omega)).mono ?_
      rintro e w2 ⟨rfl, R2, b2⟩
      rw [← tjoin_succ] at R2
      have B2 := (balloc _ hb).trans b2
      clear hR c0 c1 c2 c3 c4 b2
      go_wp2
      go_roundw
      case rel => exact ⟨k + 1, by omega, by go_num, R2, B2⟩
      case measure => simp [intOf]; omega
    · have e : k = len2 := by omega
      subst e
      have hs := ok_short (hA k) (hO k (Nat.le_refl _))
      go_wp2_with fail
      refine (list_any w.heap.size rb (len + k) _ _ hR (hA k) (hO k (Nat.le_refl _)) (by omega)).mono ?_
      rintro r w2 ⟨v, rfl, o2, b2⟩
      go_wp2
      go_ret
      exact ⟨v, rfl, own_mono hb.size o2, btrans hb b2⟩
end Go.Proofs.Ytbjffmhdjbdpcaa.I
