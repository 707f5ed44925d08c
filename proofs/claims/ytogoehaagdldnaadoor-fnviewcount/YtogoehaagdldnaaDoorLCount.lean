/- Everybody stands in just one way: the law, walked. -/
import Derived.Test.YtogoehaagdldnaaDoorExViewX
import Derived.Test.YtogoehaagdldnaaDoorExText
import Derived.Test.YtogoehaagdldnaaDoorDrawTab
namespace Go.Proofs.YtogoehaagdldnaaDoor
open Go.ChangeShapes Go.WideShapes Go.ChangeAt Go.RowKit
attribute [local go_sem ↓] Go.wp_at_zero Go.wp_at_succ
theorem cnt_sum {F : Nat → Fc} : ∀ k, (∀ j, j < k → fok (F j) = true) → cntN F 1 k + cntN F 2 k + cntN F 3 k + cntN F 4 k = k
  | 0, _ => rfl
  | k + 1, h => by
    have ih := cnt_sum k (fun j hj => h j (by omega))
    have hf := h k (by omega)
    have hs : (F k).s = 1 ∨ (F k).s = 2 ∨ (F k).s = 3 ∨ (F k).s = 4 := by
      unfold fok fokB inb at hf
      simp at hf
      omega
    simp only [cntN]
    rcases hs with e | e | e | e <;> rw [e] <;> simp <;> omega
theorem cntT_sum {len : Nat} {F : Nat → Fc} : cntT len F 1 + cntT len F 2 + cntT len F 3 + cntT len F 4 = (if tokB len F = true then (len : Int) else 0) := by
  unfold cntT
  by_cases h : tokB len F = true
  · have := cnt_sum len (tok_all h).1
    simp only [h, if_true]
    omega
  · simp [h]
theorem cntT_le {len : Nat} {F : Nat → Fc} {x : Int} : 0 ≤ cntT len F x ∧ cntT len F x ≤ (len : Int) := by
  unfold cntT
  have := cnt_le F x len
  split <;> omega
theorem cnt_lit (a : Option Addr) (len cap : Nat) (F : Nat → Fc) (x z : Int) (w : World) (h : FSl w a len F) (hl : len ≤ 1048576) (hz : cntT len F x = z) :
    Calls Tryd.prog 14 #[.slice a len cap, .int .i64 x] w fun e w' => e = .returned (.int .i64 z) ∧ Below w.heap.size w w' := hz ▸ cnt_any a len cap F x w h hl
theorem scnt_lit (a : Option Addr) (len cap : Nat) (F : Nat → Fc) (x z : Int) (w : World) (h : FSl w a len F) (hl : len ≤ 1048576) (hz : cntT len F x = z) :
    Calls Tryd.prog 15 #[.slice a len cap, .int .i64 x] w fun e w' => e = .returned (.int .i64 z) ∧ Below w.heap.size w w' := hz ▸ scnt_any a len cap F x w h hl
/-- a list of facts and a number -/
def VCPost (w : World) (r : Ending) (w' : World) : Prop :=
  ∃ (a : Option Addr) (n c : Nat) (F : Nat → Fc) (x : Int), r = .returned (.tuple #[.slice a n c, .int .i64 x]) ∧ FSl w' a n F ∧ n ≤ 8 ∧ Below w.heap.size w w'
set_option maxRecDepth 20000 in
set_option maxHeartbeats 2000000 in
theorem drawVC_any (a : Option Addr) (len cap : Nat) (w : World) (h : Bytes w.heap.size w a len) (hl : len ≤ cap) :
    Calls Tryd.prog 13 #[.slice a len cap] w (VCPost w) := by
  go_enter Tryd.func13, Tryd.ntmps13
  go_wp2_with fail
  refine (open_any w.heap.size a len cap _ (Nat.le_refl _) h hl).mono ?_
  rintro r w1 ⟨rfl, ⟨C, r1⟩, B1, z1⟩
  have r1lt := r1.lt
  go_wp2_with fail
  refine (anyTable_any w.heap.size w.heap.size 0 _ r1 (by omega)).mono ?_
  rintro r w2 ⟨a2, c2, T, q, rfl, hn, o2, hT, hq, r2, f2⟩
  have B2 := Off.belowAll B1 f2 (Nat.le_refl _)
  clear f2 r1
  go_wp2_with fail
  refine (pick_any w.heap.size w.heap.size q 6 _ r2 (by omega)).mono ?_
  rintro r w4 ⟨rfl, hk, r4, f4⟩
  have B4 := Off.belowAll B2 f4.off (Nat.le_refl _)
  replace o2 := own_off o2 f4.off (by omega)
  clear f4 r4 r2
  obtain ⟨x2, d2, e2, _, _, h2⟩ := own_facts o2
  simp only [Value.slice.injEq, true_and] at e2
  obtain ⟨rfl, rfl⟩ := e2
  go_wp2
  exact bodyPost_ret (v := .tuple #[.slice a2 T.length c2, .int .i64 (C.pk q 6)]) (by simp [results, Tryd.results13, go_sem]) rfl ⟨_, _, _, _, _, rfl, h2, by omega, B4⟩
set_option maxRecDepth 20000 in
set_option maxHeartbeats 8000000 in
theorem count_walk (a : Option Addr) (len cap : Nat) (w : World) (h : Bytes w.heap.size w a len) (hl : len ≤ cap) (ht : Tabs w) :
    Calls Tryd.prog 4 #[.slice a len cap] w fun r w' => r = .returned (.bool true) ∧ Below w.heap.size w w' := by
  by_cases hlen : len ≤ 1048576
  · have j0 : ¬ (1048576 : Int) < (len : Int) := by omega
    go_enter Tryd.func4, Tryd.ntmps4
    go_wp2_with fail
    refine (drawVC_any a len cap _ h hl).mono ?_
    rintro r w1 ⟨a1, n, c1, F, x, rfl, hT, ln, B1⟩
    have hsum := cntT_sum (len := n) (F := F)
    have l1 := cntT_le (len := n) (F := F) (x := 1)
    have l2 := cntT_le (len := n) (F := F) (x := 2)
    have l3 := cntT_le (len := n) (F := F) (x := 3)
    have l4 := cntT_le (len := n) (F := F) (x := 4)
    obtain ⟨z1, hz1⟩ : ∃ z, Hid (cntT n F 1 = z) := ⟨_, rfl⟩
    obtain ⟨z2, hz2⟩ : ∃ z, Hid (cntT n F 2 = z) := ⟨_, rfl⟩
    obtain ⟨z3, hz3⟩ : ∃ z, Hid (cntT n F 3 = z) := ⟨_, rfl⟩
    obtain ⟨z4, hz4⟩ : ∃ z, Hid (cntT n F 4 = z) := ⟨_, rfl⟩
    obtain ⟨zx, hzx⟩ : ∃ z, Hid (cntT n F x = z) := ⟨_, rfl⟩
    obtain ⟨y, hy⟩ : ∃ y, Hid (txt n F = y) := ⟨_, rfl⟩
    obtain ⟨q, hq⟩ : ∃ q, Hid (tokB n F = q) := ⟨_, rfl⟩
    rw [hz1.out, hz2.out, hz3.out, hz4.out, hq.out] at hsum
    rw [hz1.out] at l1
    rw [hz2.out] at l2
    rw [hz3.out] at l3
    rw [hz4.out] at l4
    have r1 : IntKind.i64.wrap (z1 + z2) = z1 + z2 := by rw [IntKind.wrap_i64]; omega
    have r2 : IntKind.i64.wrap (z1 + z2 + z3) = z1 + z2 + z3 := by rw [IntKind.wrap_i64]; omega
    have r3 : IntKind.i64.wrap (z1 + z2 + z3 + z4) = z1 + z2 + z3 + z4 := by rw [IntKind.wrap_i64]; omega
    have hS : Hid (z1 + z2 + z3 + z4 = if q = true then (n : Int) else 0) := hsum
    clear hsum l1 l2 l3 l4
    go_wp2_with fail
    refine (cnt_lit a1 n c1 F 1 z1 _ hT (by omega) hz1.out).mono ?_
    rintro r w2 ⟨rfl, b2⟩
    have B2 := btrans B1 b2
    replace hT := hT.below b2
    clear b2
    go_wp2_with fail
    refine (cnt_lit a1 n c1 F 2 z2 _ hT (by omega) hz2.out).mono ?_
    rintro r w3 ⟨rfl, b3⟩
    have B3 := btrans B2 b3
    replace hT := hT.below b3
    clear b3
    go_wp2_with fail
    refine (cnt_lit a1 n c1 F 3 z3 _ hT (by omega) hz3.out).mono ?_
    rintro r w4 ⟨rfl, b4⟩
    have B4 := btrans B3 b4
    replace hT := hT.below b4
    clear b4
    go_wp2_with fail
    refine (cnt_lit a1 n c1 F 4 z4 _ hT (by omega) hz4.out).mono ?_
    rintro r w5 ⟨rfl, b5⟩
    have B5 := btrans B4 b5
    replace hT := hT.below b5
    clear b5
    go_wp2_with fail
    obtain ⟨s, hs⟩ : ∃ s, z1 + z2 + z3 + z4 = s := ⟨_, rfl⟩
    rw [hs] at hS ⊢
    clear hs r1 r2 r3
    refine (cnt_lit a1 n c1 F x zx _ hT (by omega) hzx.out).mono ?_
    rintro r w6 ⟨rfl, b6⟩
    have B6 := btrans B5 b6
    replace hT := hT.below b6
    clear b6
    go_wp2_with fail
    refine (scnt_lit a1 n c1 F x zx _ hT (by omega) hzx.out).mono ?_
    rintro r w7 ⟨rfl, b7⟩
    have B7 := btrans B6 b7
    replace hT := hT.below b7
    clear b7
    go_wp2_with fail
    refine (text_lit a1 n c1 F y _ hT (by omega) (ht.below B7) hy.out).mono ?_
    rintro r w8 ⟨rfl, b8⟩
    have B8 := btrans B7 b8
    replace hT := hT.below b8
    clear b8
    go_wp2_with fail
    refine (stext_lit a1 n c1 F y _ hT (by omega) hy.out).mono ?_
    rintro r w9 ⟨rfl, b9⟩
    have B9 := btrans B8 b9
    replace hT := hT.below b9
    clear b9
    cases q
    · obtain rfl : s = 0 := hS.out
      go_wp2_with fail
      refine (stok_litt a1 n c1 F false _ hT (by omega) hq.out).mono ?_
      rintro r w10 ⟨rfl, b10⟩
      have B10 := btrans B9 b10
      replace hT := hT.below b10
      clear b10
      go_wp2
      go_ret
      exact ⟨rfl, B10⟩
    · obtain rfl : s = (n : Int) := hS.out
      go_wp2_with fail
      refine (stok_litt a1 n c1 F true _ hT (by omega) hq.out).mono ?_
      rintro r w10 ⟨rfl, b10⟩
      have B10 := btrans B9 b10
      replace hT := hT.below b10
      clear b10
      go_wp2_with fail
      refine (stok_litt a1 n c1 F true _ hT (by omega) hq.out).mono ?_
      rintro r w11 ⟨rfl, b11⟩
      have B11 := btrans B10 b11
      replace hT := hT.below b11
      clear b11
      go_wp2
      go_ret
      exact ⟨rfl, B11⟩
  · have j0 : (1048576 : Int) < (len : Int) := by omega
    go_enter Tryd.func4, Tryd.ntmps4
    go_wp2
    go_ret
    exact ⟨rfl, Below.refl _ _⟩
end Go.Proofs.YtogoehaagdldnaaDoor
