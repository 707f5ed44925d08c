/- What two tables say together: the program's way and the model's. -/
import Derived.Test.YtogoehaagdldnaaGreatDoorTput
namespace Go.Proofs.YtogoehaagdldnaaGreatDoor
open Go.ChangeShapes Go.WideShapes Go.ChangeAt Go.RowKit
attribute [local go_sem ↓] Go.wp_at_zero Go.wp_at_succ
/-- all of U put to T -/
def tjoin (T U : List Fc) : List Fc := U.foldl tput T
set_option maxRecDepth 20000 in
theorem tjoin_succ (T : List Fc) (G : Nat → Fc) (k : Nat) : tjoin T (seqF G (k + 1)) = tput (tjoin T (seqF G k)) (G k) := by
  unfold tjoin
  rw [seqF_succ, List.foldl_append]
  rfl
set_option maxRecDepth 20000 in
theorem tjoin_asc {T : List Fc} (h : Asc T) (G : Nat → Fc) : ∀ k, Asc (tjoin T (seqF G k))
  | 0 => h
  | k + 1 => by rw [tjoin_succ]; exact tput_asc (tjoin_asc h G k)
set_option maxRecDepth 20000 in
theorem tjoin_ok {T : List Fc} {G : Nat → Fc} {len : Nat} (h : ∀ g ∈ T, fok g = true) (hG : ∀ k, k < len → fok (G k) = true) : ∀ k, k ≤ len → ∀ g ∈ tjoin T (seqF G k), fok g = true
  | 0, _ => h
  | k + 1, hk => by
    rw [tjoin_succ]
    intro g hg
    rcases tput_mem hg with rfl | hg
    · exact hG k (by omega)
    · exact tjoin_ok h hG k (by omega) g hg
set_option maxRecDepth 20000 in
theorem ok_short {T : List Fc} (h : Asc T) (hok : ∀ g ∈ T, fok g = true) : T.length ≤ 8 := by
  rcases asc_short T 0 h (fun g hg => by have := hok g hg; unfold fok fokB inb at this; simp at this; omega) with h | h
  · omega
  · simp [h]
def tj (len : Nat) (F : Nat → Fc) (len2 : Nat) (G : Nat → Fc) : List Fc := if (tokB len F && tokB len2 G) = true then tjoin (seqF F len) (seqF G len2) else []
set_option maxRecDepth 20000 in
theorem seqF_ok {F : Nat → Fc} {len : Nat} (h : ∀ k, k < len → fok (F k) = true) : ∀ g ∈ seqF F len, fok g = true := fun g hg => by
  obtain ⟨k, hk, rfl⟩ := seqF_mem hg
  exact h k hk
set_option maxRecDepth 20000 in
theorem tj_len (len : Nat) (F : Nat → Fc) (len2 : Nat) (G : Nat → Fc) : (tj len F len2 G).length ≤ 8 := by
  unfold tj
  split
  · rename_i h
    rw [Bool.and_eq_true] at h
    obtain ⟨t1, t2⟩ := tok_all h.1
    obtain ⟨u1, _⟩ := tok_all h.2
    exact ok_short (tjoin_asc (seqF_asc t2 len (Nat.le_refl _)) G len2) (tjoin_ok (seqF_ok t1) u1 len2 (Nat.le_refl _))
  · simp
set_option maxRecDepth 20000 in
set_option maxHeartbeats 2000000 in
theorem joined_any (a : Option Addr) (len cap : Nat) (F : Nat → Fc) (a2 : Option Addr) (len2 cap2 : Nat) (G : Nat → Fc) (w : World) (h : FSl w a len F) (h2 : FSl w a2 len2 G) (hok : tokB len F = true) (hok2 : tokB len2 G = true) :
    Calls Tryz.prog 26 #[.slice a len cap, .slice a2 len2 cap2] w fun e w' => ∃ v, e = .returned v ∧ w'.ownsRow w.heap.size 33 4 v (tjoin (seqF F len) (seqF G len2)).length (fl (tjoin (seqF F len) (seqF G len2))) ∧ Below w.heap.size w w' := by
  have hl := tok_len hok
  have hl2 := tok_len hok2
  obtain ⟨t1, t2⟩ := tok_all hok
  obtain ⟨u1, u2⟩ := tok_all hok2
  have hokH : Hid (tokB len F = true) := hok
  clear hok hok2
  have hA := tjoin_asc (seqF_asc t2 len (Nat.le_refl _)) G
  have hO := tjoin_ok (seqF_ok t1) u1
  go_enter Tryz.func26, Tryz.ntmps26
  go_wp2_with fail
  refine (regOf_any a len cap F _ h hokH.out).mono ?_
  rintro r w1 ⟨rb, rfl, R1, b1⟩
  go_wp2_with fail
  go_loopw [12] (fun i wr => ∃ k : Nat, k ≤ len2 ∧ i = .int .i64 k ∧ Reg wr w.heap.size rb (len + k) (tjoin (seqF F len) (seqF G k)) ∧ Below w.heap.size w wr) (fun i _ => len2 - (intOf i).toNat)
  case atStart => exact ⟨0, Nat.zero_le _, rfl, R1, b1⟩
  case round =>
    obtain ⟨k, hk, rfl, hR, hb⟩ := hrel
    clear R1 b1
    by_cases hlt : k < len2
    · obtain ⟨b, off, rfl, hbl, hf⟩ := h2 (by omega)
      obtain ⟨c0, c1, c2, c3⟩ := (hf.below hb hbl) k hlt
      go_wp2_with fail
      refine (put_any w.heap.size rb (len + k) (tjoin (seqF F len) (seqF G k)) (G k) _ (hR.below (balloc _ (Below.refl _ _))) (hA k) (hO k (by omega)) (u1 k hlt) (by have := hb.size; simp; omega) (by omega)).mono ?_
      rintro e w2 ⟨rfl, R2, b2⟩
      rw [← tjoin_succ] at R2
      have B2 := (balloc _ hb).trans b2
      clear hR c0 c1 c2 c3 b2
      go_wp2
      go_roundw
      case rel => exact ⟨k + 1, by omega, by go_num, R2, B2⟩
      case measure => simp [intOf]; omega
    · have e : k = len2 := by omega
      subst e
      have hs := ok_short (hA k) (hO k (Nat.le_refl _))
      go_wp2_with fail
      refine (list_any w.heap.size rb (len + k) _ _ hR (hA k) (hO k (Nat.le_refl _)) (by omega)).mono ?_
      rintro r w2 ⟨v, rfl, o2, b2⟩
      go_wp2
      go_ret
      exact ⟨v, rfl, own_mono hb.size o2, btrans hb b2⟩
set_option maxRecDepth 20000 in
set_option maxHeartbeats 4000000 in
theorem fjoin_any (a : Option Addr) (len cap : Nat) (F : Nat → Fc) (a2 : Option Addr) (len2 cap2 : Nat) (G : Nat → Fc) (w : World) (h : FSl w a len F) (h2 : FSl w a2 len2 G) (hl : len ≤ 1048576) (hl2 : len2 ≤ 1048576) :
    Calls Tryz.prog 10 #[.slice a len cap, .slice a2 len2 cap2] w fun e w' => ∃ v, e = .returned v ∧ w'.ownsRow w.heap.size 33 4 v (tj len F len2 G).length (fl (tj len F len2 G)) ∧ Below w.heap.size w w' := by
  cases hok0 : tokB len F
  · have hok : Hid (tokB len F = false) := hok0
    have e1 : tj len F len2 G = [] := by unfold tj; rw [hok0]; rfl
    rw [e1]
    clear hok0 e1
    go_enter Tryz.func10, Tryz.ntmps10
    go_wp2_with fail
    refine (tok_lit a len cap F false _ h hl hok.out).mono ?_
    rintro r w1 ⟨rfl, b1⟩
    go_wp2
    go_ret
    exact ⟨_, rfl, World.ownsRow_nil _ _ _ _, b1⟩
  · have hok : Hid (tokB len F = true) := hok0
    cases hok1 : tokB len2 G
    · have hokG : Hid (tokB len2 G = false) := hok1
      have e1 : tj len F len2 G = [] := by unfold tj; rw [hok0, hok1]; rfl
      rw [e1]
      clear hok0 hok1 e1
      go_enter Tryz.func10, Tryz.ntmps10
      go_wp2_with fail
      refine (tok_lit a len cap F true _ h hl hok.out).mono ?_
      rintro r w1 ⟨rfl, b1⟩
      go_wp2_with fail
      refine (tok_lit a2 len2 cap2 G false _ (h2.below b1) hl2 hokG.out).mono ?_
      rintro r w2 ⟨rfl, b2⟩
      go_wp2
      go_ret
      exact ⟨_, rfl, World.ownsRow_nil _ _ _ _, btrans b1 b2⟩
    · have hokG : Hid (tokB len2 G = true) := hok1
      have e1 : tj len F len2 G = tjoin (seqF F len) (seqF G len2) := by unfold tj; rw [hok0, hok1]; rfl
      rw [e1]
      clear hok0 hok1 e1
      go_enter Tryz.func10, Tryz.ntmps10
      go_wp2_with fail
      refine (tok_lit a len cap F true _ h hl hok.out).mono ?_
      rintro r w1 ⟨rfl, b1⟩
      go_wp2_with fail
      refine (tok_lit a2 len2 cap2 G true _ (h2.below b1) hl2 hokG.out).mono ?_
      rintro r w2 ⟨rfl, b2⟩
      have B2 := btrans b1 b2
      go_wp2_with fail
      refine (joined_any a len cap F a2 len2 cap2 G _ (h.below B2) (h2.below B2) hok.out hokG.out).mono ?_
      rintro r w3 ⟨v, rfl, o3, b3⟩
      go_wp2
      go_ret
      exact ⟨v, rfl, own_mono B2.size o3, btrans B2 b3⟩
set_option maxRecDepth 20000 in
set_option maxHeartbeats 4000000 in
theorem sjoin_any (b off len cap : Nat) (F : Nat → Fc) (a2 : Option Addr) (len2 cap2 : Nat) (G : Nat → Fc) (w : World) (hf : FactsIn w b off len F) (hbl : b < w.heap.size) (h2 : FSl w a2 len2 G) (hl : len ≤ 1048576) (hl2 : len2 ≤ 1048576) :
    Calls Tryz.prog 12 #[.slice (some ⟨b, off, none⟩) len cap, .slice a2 len2 cap2] w fun e w' => ∃ v, e = .returned v ∧ w'.ownsRow w.heap.size 33 4 v (tj len F len2 G).length (fl (tj len F len2 G)) ∧ v ≠ .slice none 0 0 ∧ Below w.heap.size w w' := by
  have h : FSl w (some ⟨b, off, none⟩) len F := fun _ => ⟨b, off, rfl, hbl, hf⟩
  cases hok0 : tokB len F
  · have hok : Hid (tokB len F = false) := hok0
    have e1 : tj len F len2 G = [] := by unfold tj; rw [hok0]; rfl
    rw [e1]
    clear hok0 e1
    go_enter Tryz.func12, Tryz.ntmps12
    go_wp2_with fail
    refine (stok_lit _ len cap F false _ h hl hok.out).mono ?_
    rintro r w1 ⟨rfl, b1⟩
    go_wp2
    go_ret
    exact ⟨_, rfl, own_emptyF _ _ b1.size, by simp, balloc _ b1⟩
  · have hok : Hid (tokB len F = true) := hok0
    cases hok1 : tokB len2 G
    · have hokG : Hid (tokB len2 G = false) := hok1
      have e1 : tj len F len2 G = [] := by unfold tj; rw [hok0, hok1]; rfl
      rw [e1]
      clear hok0 hok1 e1
      go_enter Tryz.func12, Tryz.ntmps12
      go_wp2_with fail
      refine (stok_lit _ len cap F true _ h hl hok.out).mono ?_
      rintro r w1 ⟨rfl, b1⟩
      go_wp2_with fail
      refine (stok_lit a2 len2 cap2 G false _ (h2.below b1) hl2 hokG.out).mono ?_
      rintro r w2 ⟨rfl, b2⟩
      have B2 := btrans b1 b2
      go_wp2
      go_ret
      exact ⟨_, rfl, own_emptyF _ _ B2.size, by simp, balloc _ B2⟩
    · have hokG : Hid (tokB len2 G = true) := hok1
      have e1 : tj len F len2 G = tjoin (seqF F len) (seqF G len2) := by unfold tj; rw [hok0, hok1]; rfl
      rw [e1]
      have hl8 := tok_len hok0
      have hm8 := tok_len hok1
      obtain ⟨t1, t2⟩ := tok_all hok0
      obtain ⟨u1, u2⟩ := tok_all hok1
      have hA := tjoin_asc (seqF_asc t2 len (Nat.le_refl _)) G
      have hO := tjoin_ok (seqF_ok t1) u1
      clear hok0 hok1 e1
      go_enter Tryz.func12, Tryz.ntmps12
      go_wp2_with fail
      refine (stok_lit _ len cap F true _ h hl hok.out).mono ?_
      rintro r w1 ⟨rfl, b1⟩
      go_wp2_with fail
      refine (stok_lit a2 len2 cap2 G true _ (h2.below b1) hl2 hokG.out).mono ?_
      rintro r w2 ⟨rfl, b2⟩
      have B2 := btrans b1 b2
      clear b1 b2
      have hin : FactsIn w2 b off len (fun k => (seqF F len).getD k Fc.zero) := fun k hk => by simp only [seqF_getD F hk]; exact (hf.below B2 hbl) k hk
      go_wp2_with (at_builtin; refine wpList_appF rfl _ _ rfl w2.heap.size (.slice (some ⟨w2.heap.size, 0, none⟩) 0 0) 0 [] rfl (by simp) (own_emptyF w2 _ (Nat.le_refl _)) b off len cap (seqF F len) rfl (seqF_len F len) (hin.alloc _) len (Nat.zero_add _) (by omega) (by simp) ?_; intro g' cap' w3 o3 g3 hc3)
      have B3 := btrans B2 (own_grow (balloc (.cells #[] 33) (Below.refl _ w2)) (by simp) (own_emptyF w2 _ (Nat.le_refl _)) g3)
      rw [List.nil_append] at o3
      replace o3 := own_mono B2.size o3
      clear g3 hin B2
      go_wp2_with fail
      go_loopw [5, 6] (fun x i wr => ∃ k : Nat, k ≤ len2 ∧ i = .int .i64 k ∧ (∃ a c, x = .slice a (tjoin (seqF F len) (seqF G k)).length c ∧ Value.slice a (tjoin (seqF F len) (seqF G k)).length c ≠ .slice none 0 0 ∧ wr.ownsRow w.heap.size 33 4 (.slice a (tjoin (seqF F len) (seqF G k)).length c) (tjoin (seqF F len) (seqF G k)).length (fl (tjoin (seqF F len) (seqF G k)))) ∧ Below w.heap.size w wr) (fun _ i _ => len2 - (intOf i).toNat)
      case atStart => exact ⟨0, Nat.zero_le _, rfl, ⟨_, cap', by rw [show tjoin (seqF F len) (seqF G 0) = seqF F len from rfl, seqF_len], by simp, by rw [show tjoin (seqF F len) (seqF G 0) = seqF F len from rfl, seqF_len]; exact o3⟩, B3⟩
      case round =>
        obtain ⟨k, hk, rfl, ⟨ax, cx, rfl, hnx, hox⟩, hb⟩ := hrel
        clear o3 B3 hc3
        by_cases hlt : k < len2
        · obtain ⟨b', off', rfl, hbl', hf'⟩ := h2 (by omega)
          obtain ⟨c0, c1, c2, c3⟩ := (hf'.below hb hbl') k hlt
          have i0 : (0 : Int) ≤ (k : Int) := by omega
          have i1 : (k : Int) < (len2 : Int) := by omega
          have hs := ok_short (hA k) (hO k (by omega))
          have hAk := hA k
          have ts := tjoin_succ (seqF F len) G k
          clear hA hO
          generalize tjoin (seqF F len) (seqF G k) = Tk at *
          go_wp2_with fail
          refine (l3put_own w.heap.size ax cx Tk.length Tk (G k) _ hox hnx hAk (by omega) hb.size).mono ?_
          rintro e w4 ⟨a4, c4, rfl, hn4, o4, b4⟩
          rw [← ts] at o4 hn4
          rw [← ts]
          have B4 := btrans hb b4
          clear hox hnx c0 c1 c2 c3 b4 hb ts
          go_wp2
          go_roundw
          case rel => exact ⟨k + 1, by omega, by go_num, ⟨a4, c4, rfl, hn4, o4⟩, B4⟩
          case measure => simp [intOf]; omega
        · have e : k = len2 := by omega
          subst e
          go_wp2
          go_ret
          exact ⟨_, rfl, hox, hnx, hb⟩
end Go.Proofs.YtogoehaagdldnaaGreatDoor
