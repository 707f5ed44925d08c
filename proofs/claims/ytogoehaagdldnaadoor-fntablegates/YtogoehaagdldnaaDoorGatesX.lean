/- Gateways: the program's way and the model's; marks in lists. -/
import Derived.Test.YtogoehaagdldnaaDoorTput
import Derived.Laws.OwnMore
namespace Go.Proofs.YtogoehaagdldnaaDoor
open Go.ChangeShapes Go.WideShapes Go.ChangeAt Go.RowKit
attribute [local go_sem ↓] Go.wp_at_zero Go.wp_at_succ
/-- the first n of those that may be gateways and live, among the first k -/
def gsel (F : Nat → Fc) (n : Int) : Nat → List Int
  | 0 => []
  | k + 1 => if ((gsel F n k).length : Int) < n ∧ (F k).g = true ∧ (F k).s = 1 then gsel F n k ++ [(F k).n] else gsel F n k
theorem gsel_le (F : Nat → Fc) (n : Int) : ∀ k, (gsel F n k).length ≤ k
  | 0 => Nat.le_refl _
  | k + 1 => by have := gsel_le F n k; unfold gsel; split <;> simp <;> omega
theorem gsel_full (F : Nat → Fc) (n : Int) (k : Nat) (h : ¬ ((gsel F n k).length : Int) < n) : ∀ j, gsel F n (k + j) = gsel F n k
  | 0 => rfl
  | j + 1 => by
    have ih := gsel_full F n k h j
    show gsel F n (k + j + 1) = _
    rw [gsel, ih, if_neg (fun h' => h h'.1)]
def gT (len : Nat) (F : Nat → Fc) (n : Int) : List Int := if tokB len F = true then gsel F n len else []
theorem gT_le (len : Nat) (F : Nat → Fc) (n : Int) : (gT len F n).length ≤ len := by unfold gT; split; exact gsel_le F n len; simp
set_option maxRecDepth 10000 in
set_option maxHeartbeats 2000000 in
theorem gates_any (a : Option Addr) (len cap : Nat) (F : Nat → Fc) (n : Int) (w : World) (h : FSl w a len F) (hl : len ≤ 1048576) :
    Calls Tryd.prog 7 #[.slice a len cap, .int .i64 n] w fun e w' => ∃ v, e = .returned v ∧ w'.ownsRow w.heap.size 3 1 v (gT len F n).length (lv (gT len F n)) ∧ Below w.heap.size w w' := by
  obtain ⟨ti, hi, hz0, hz1, hz2⟩ := info_parts info3
  cases hok : tokB len F
  · have hok' : Hid (tokB len F = false) := hok
    have hg : Hid (gT len F n = []) := by unfold Hid gT; rw [hok]; rfl
    clear hok
    go_enter Tryd.func7, Tryd.ntmps7
    go_wp2_with fail
    refine (tok_lit a len cap F false _ h hl hok'.out).mono ?_
    rintro r w1 ⟨rfl, b1⟩
    go_wp2
    go_ret
    exact ⟨_, rfl, by rw [hg.out]; exact World.ownsRow_nil _ _ _ _, b1⟩
  · have hok' : Hid (tokB len F = true) := hok
    have hg : Hid (gT len F n = gsel F n len) := by unfold Hid gT; rw [hok]; rfl
    clear hok
    go_enter Tryd.func7, Tryd.ntmps7
    go_wp2_with fail
    refine (tok_lit a len cap F true _ h hl hok'.out).mono ?_
    rintro r w1 ⟨rfl, b1⟩
    have h1 := h.below b1
    go_wp2_with fail
    go_loopw [5, 7, 13] (fun v _ i wr => ∃ k : Nat, k ≤ len ∧ i = .int .i64 k ∧ wr.ownsRow w1.heap.size 3 1 v (gsel F n k).length (lv (gsel F n k)) ∧ Below w1.heap.size w1 wr) (fun _ _ i _ => len - (intOf i).toNat)
    case atStart => exact ⟨0, by omega, rfl, World.ownsRow_nil _ _ _ _, Below.refl _ _⟩
    case round =>
      obtain ⟨k, hk, rfl, hown, hb⟩ := hrel
      have hle := gsel_le F n k
      obtain ⟨av, cv, rfl, hcv, _⟩ := own_list hown
      by_cases hlt : k < len
      · obtain ⟨b, off, rfl, hbl, hf⟩ := h1 (by omega)
        obtain ⟨c0, c1, c2, c3⟩ := (hf.below hb hbl) k hlt
        by_cases hcond : ((gsel F n k).length : Int) < n ∧ (F k).g = true ∧ (F k).s = 1
        · have hnext : Hid (gsel F n (k + 1) = gsel F n k ++ [(F k).n]) := by unfold Hid; rw [gsel, if_pos hcond]
          obtain ⟨q1, q2, q3⟩ := hcond
          rw [q2] at c3
          rw [q3] at c2
          have O1 := hown.alloc (.cells #[.int .i64 (F k).n, .int .i64 (F k).i, .int .i64 1, .bool true] 32)
          have B1 := balloc (.cells #[.int .i64 (F k).n, .int .i64 (F k).i, .int .i64 1, .bool true] 32) hb
          clear q2 q3
          go_wp2_with (at_builtin; refine wpList_append_own _ rfl _ _ 26 rfl w1.heap.size 3 ti (.int .i64 0) 1 8 Tryd.underlying26 hi hz0 hz1 hz2 rfl (by decide) _ _ _ rfl (O1.alloc _) ⟨wr.heap.size + 1, 0, none⟩ 1 1 [.int .i64 (F k).n] rfl rfl ?c1 ?c2 ?c3 ?c4 ?c5 ?_)
          case c1 =>
            intro j u hj
            match j, hj with
            | 0, hj => simp at hj; subst hj; simp [Addr.add]
          case c2 => intro u hu; simp at hu; subst hu; rfl
          case c3 => unfold maxLen; omega
          case c4 => omega
          case c5 => have := B1.size; simp at this; simp; omega
          · intro v' w2 hown' hgrow _
            have B2 := own_grow (balloc (.cells #[.int .i64 (F k).n] 3) B1) (by have := B1.size; simp at this; simp; omega) (O1.alloc _) hgrow
            clear O1 hgrow B1
            go_wp2
            go_roundw
            case rel => exact ⟨k + 1, by omega, by go_num, by rw [hnext.out, lv_append, List.length_append]; exact hown', B2⟩
            case measure => simp [intOf]; omega
        · have hnext : Hid (gsel F n (k + 1) = gsel F n k) := by unfold Hid; rw [gsel, if_neg hcond]
          have O1 := hown.alloc (.cells #[.int .i64 (F k).n, .int .i64 (F k).i, .int .i64 (F k).s, .bool (F k).g] 32)
          have B1 := balloc (.cells #[.int .i64 (F k).n, .int .i64 (F k).i, .int .i64 (F k).s, .bool (F k).g] 32) hb
          by_cases q1 : ((gsel F n k).length : Int) < n
          · cases q2 : (F k).g
            · rw [q2] at c3 O1 B1
              clear q2 hcond hown hb
              go_wp2
              go_roundw
              case rel => exact ⟨k + 1, by omega, by go_num, by rw [hnext.out]; exact O1, B1⟩
              case measure => simp [intOf]; omega
            · have q3 : ¬ (F k).s = 1 := fun e => hcond ⟨q1, q2, e⟩
              rw [q2] at c3 O1 B1
              clear q2 hcond hown hb
              go_wp2
              go_roundw
              case rel => exact ⟨k + 1, by omega, by go_num, by rw [hnext.out]; exact O1, B1⟩
              case measure => simp [intOf]; omega
          · clear hcond hown hb
            go_wp2
            go_roundw
            case rel => exact ⟨k + 1, by omega, by go_num, by rw [hnext.out]; exact O1, B1⟩
            case measure => simp [intOf]; omega
      · go_wp2
        go_ret
        have e : k = len := by omega
        subst e
        exact ⟨_, rfl, by rw [hg.out]; exact own_mono b1.size hown, btrans b1 hb⟩
set_option maxRecDepth 10000 in
set_option maxHeartbeats 2000000 in
theorem l3gates_any (a : Option Addr) (len cap : Nat) (F : Nat → Fc) (n : Int) (w : World) (h : FSl w a len F) (hl : len ≤ 1048576) :
    Calls Tryd.prog 23 #[.slice a len cap, .int .i64 n] w fun e w' => ∃ v, e = .returned v ∧ w'.ownsRow w.heap.size 3 1 v (gsel F n len).length (lv (gsel F n len)) ∧ Below w.heap.size w w' := by
  obtain ⟨ti, hi, hz0, hz1, hz2⟩ := info_parts info3
  go_enter Tryd.func23, Tryd.ntmps23
  go_wp2_with fail
  go_loopw [5, 6] (fun v i wr => ∃ k : Nat, k ≤ len ∧ i = .int .i64 k ∧ wr.ownsRow w.heap.size 3 1 v (gsel F n k).length (lv (gsel F n k)) ∧ Below w.heap.size w wr) (fun _ i _ => len - (intOf i).toNat)
  case atStart => exact ⟨0, by omega, rfl, World.ownsRow_lit w #[] 0 (Nat.le_refl _) (by unfold maxLen; omega) rfl, balloc _ (Below.refl _ _)⟩
  case round =>
    obtain ⟨k, hk, rfl, hown, hb⟩ := hrel
    have hle := gsel_le F n k
    obtain ⟨av, cv, rfl, hcv, _⟩ := own_list hown
    by_cases hlt : k < len
    · by_cases q1 : ((gsel F n k).length : Int) < n
      · obtain ⟨b, off, rfl, hbl, hf⟩ := h (by omega)
        obtain ⟨c0, c1, c2, c3⟩ := (hf.below hb hbl) k hlt
        have i0 : (0 : Int) ≤ (k : Int) := by omega
        have i1 : (k : Int) < (len : Int) := by omega
        by_cases hcond : ((gsel F n k).length : Int) < n ∧ (F k).g = true ∧ (F k).s = 1
        · have hnext : Hid (gsel F n (k + 1) = gsel F n k ++ [(F k).n]) := by unfold Hid; rw [gsel, if_pos hcond]
          obtain ⟨_, q2, q3⟩ := hcond
          rw [q2] at c3
          rw [q3] at c2
          clear q2 q3
          go_wp2_with (at_builtin; refine wpList_append_own _ rfl _ _ 26 rfl w.heap.size 3 ti (.int .i64 0) 1 8 Tryd.underlying26 hi hz0 hz1 hz2 rfl (by decide) _ _ _ rfl (hown.alloc _) ⟨wr.heap.size, 0, none⟩ 1 1 [.int .i64 (F k).n] rfl rfl ?c1 ?c2 ?c3 ?c4 ?c5 ?_)
          case c1 =>
            intro j u hj
            match j, hj with
            | 0, hj => simp at hj; subst hj; simp [Addr.add]
          case c2 => intro u hu; simp at hu; subst hu; rfl
          case c3 => unfold maxLen; omega
          case c4 => omega
          case c5 => have := hb.size; simp; omega
          · intro v' w2 hown' hgrow _
            have B2 := own_grow (balloc (.cells #[.int .i64 (F k).n] 3) hb) (by have := hb.size; simp; omega) (hown.alloc _) hgrow
            clear hown hgrow hb
            go_wp2
            go_roundw
            case rel => exact ⟨k + 1, by omega, by go_num, by rw [hnext.out, lv_append, List.length_append]; exact hown', B2⟩
            case measure => simp [intOf]; omega
        · have hnext : Hid (gsel F n (k + 1) = gsel F n k) := by unfold Hid; rw [gsel, if_neg hcond]
          cases q2 : (F k).g
          · rw [q2] at c3
            clear q2 hcond
            go_wp2
            go_roundw
            case rel => exact ⟨k + 1, by omega, by go_num, by rw [hnext.out]; exact hown, hb⟩
            case measure => simp [intOf]; omega
          · have q3 : ¬ (F k).s = 1 := fun e => hcond ⟨q1, q2, e⟩
            rw [q2] at c3
            clear q2 hcond
            go_wp2
            go_roundw
            case rel => exact ⟨k + 1, by omega, by go_num, by rw [hnext.out]; exact hown, hb⟩
            case measure => simp [intOf]; omega
      · have hfull : Hid (gsel F n len = gsel F n k) := by
          have := gsel_full F n k q1 (len - k)
          rwa [show k + (len - k) = len by omega] at this
        go_wp2
        go_ret
        exact ⟨_, rfl, by rw [hfull.out]; exact hown, hb⟩
    · go_wp2
      go_ret
      have e : k = len := by omega
      subst e
      exact ⟨_, rfl, hown, hb⟩
set_option maxHeartbeats 2000000 in
theorem sgates_any (a : Option Addr) (len cap : Nat) (F : Nat → Fc) (n : Int) (w : World) (h : FSl w a len F) (hl : len ≤ 1048576) :
    Calls Tryd.prog 9 #[.slice a len cap, .int .i64 n] w fun e w' => ∃ v, e = .returned v ∧ w'.ownsRow w.heap.size 3 1 v (gT len F n).length (lv (gT len F n)) ∧ Below w.heap.size w w' := by
  cases hok : tokB len F
  · have hok' : Hid (tokB len F = false) := hok
    have hg : Hid (gT len F n = []) := by unfold Hid gT; rw [hok]; rfl
    clear hok
    go_enter Tryd.func9, Tryd.ntmps9
    go_wp2_with fail
    refine (stok_lit a len cap F false _ h hl hok'.out).mono ?_
    rintro r w1 ⟨rfl, b1⟩
    go_wp2
    go_ret
    exact ⟨_, rfl, by rw [hg.out]; exact World.ownsRow_lit w1 #[] 0 b1.size (by unfold maxLen; omega) rfl, balloc _ b1⟩
  · have hok' : Hid (tokB len F = true) := hok
    have hg : Hid (gT len F n = gsel F n len) := by unfold Hid gT; rw [hok]; rfl
    clear hok
    go_enter Tryd.func9, Tryd.ntmps9
    go_wp2_with fail
    refine (stok_lit a len cap F true _ h hl hok'.out).mono ?_
    rintro r w1 ⟨rfl, b1⟩
    go_wp2_with fail
    refine (l3gates_any a len cap F n _ (h.below b1) hl).mono ?_
    rintro r w2 ⟨v, rfl, o2, b2⟩
    go_wp2
    go_ret
    exact ⟨_, rfl, by rw [hg.out]; exact own_mono b1.size o2, btrans b1 b2⟩
end Go.Proofs.YtogoehaagdldnaaDoor
