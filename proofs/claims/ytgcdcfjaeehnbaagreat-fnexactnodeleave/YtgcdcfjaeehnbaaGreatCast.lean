/- Items that are ok: the program's way and the model's; the exact law of CastOk, walked. -/
import Derived.Test.YtgcdcfjaeehnbaaGreatItems
import Derived.Test.YtgcdcfjaeehnbaaGreatGatesF
namespace Go.Proofs.YtgcdcfjaeehnbaaGreat
open Go.ChangeShapes Go.WideShapes Go.ChangeAt Go.RowKit
set_option maxRecDepth 10000
set_option maxHeartbeats 2000000
attribute [local go_sem ↓] Go.wp_at_zero Go.wp_at_succ
def iokB (x : It) : Bool := fokB x.n x.i x.s && inb x.l 1 4
def callB (len : Nat) (F : Nat → It) : Bool := decide (∀ k, k < len → iokB (F k) = true)
def cokB (len : Nat) (F : Nat → It) : Bool := callB len F && tascB len F
theorem lin_lit (n lo hi : Int) (b : Bool) (h : inb n lo hi = b) (w : World) :
  Calls Tryz.prog 78 #[.int .i64 n, .int .i64 lo, .int .i64 hi] w fun e w' => e = .returned (.bool b) ∧ w' = w := h ▸ lin_any n lo hi w
theorem within_lit (n lo hi : Int) (b : Bool) (h : inb n lo hi = b) (w : World) :
  Calls Tryz.prog 150 #[.int .i64 n, .int .i64 lo, .int .i64 hi] w fun e w' => e = .returned (.bool b) ∧ w' = w := h ▸ within_any n lo hi w
theorem fok_lit (n i s : Int) (g b : Bool) (h : fokB n i s = b) (w : World) :
  Calls Tryz.prog 196 #[.agg #[.int .i64 n, .int .i64 i, .int .i64 s, .bool g]] w fun r w' => r = .returned (.bool b) ∧ Below w.heap.size w w' := h ▸ fok_below n i s g w
theorem cok_any (a : Option Addr) (len cap : Nat) (F : Nat → It) (w : World) (h : TSl w a len F) (hl : len ≤ 1048576) :
  Calls Tryz.prog 157 #[.slice a len cap] w fun e w' => e = .returned (.bool (cokB len F)) ∧ Below w.heap.size w w' := by
 go_enter Tryz.func157, Tryz.ntmps157
 go_wp2
 go_loopw [4, 7] (fun _ i wr => ∃ k : Nat, k ≤ len ∧ i = .int .i64 k ∧ Below w.heap.size w wr ∧ (∀ j, j < k → iokB (F j) = true)) (fun _ i _ => len - (intOf i).toNat)
 case atStart => exact ⟨0, by omega, rfl, Below.refl _ _, fun j h1 => by omega⟩
 case round =>
  obtain ⟨k, hk, rfl, hb, hall⟩ := hrel
  by_cases hlt : k < len
  ·obtain ⟨b, off, rfl, hbl, hf⟩ := h (by omega)
   obtain ⟨c0, c1, c2, c3, c4⟩ := (hf.below hb hbl) k hlt
   cases hok : fokB (F k).n (F k).i (F k).s
   ·have hok' : Hid (fokB (F k).n (F k).i (F k).s = false) := hok
    clear hok
    go_wp2_with fail
    refine (fok_lit _ _ _ _ false hok'.out _).mono ?_
    rintro e w1 ⟨rfl, b1⟩
    have hb1 := btrans (balloc _ hb) b1
    go_wp2
    go_ret
    refine ⟨ret_bool ?_, hb1⟩
    unfold cokB callB
    symm
    rw [Bool.and_eq_false_iff]
    exact .inl (decide_eq_false fun h => by have := h k hlt; unfold iokB at this; rw [hok'.out] at this; simp at this)
   ·have hok' : Hid (fokB (F k).n (F k).i (F k).s = true) := hok
    clear hok
    cases hin : inb (F k).l 1 4
    ·have hin' : Hid (inb (F k).l 1 4 = false) := hin
     clear hin
     go_wp2_with fail
     refine (fok_lit _ _ _ _ true hok'.out _).mono ?_
     rintro e w1 ⟨rfl, b1⟩
     have p0 := keep_below b1 (show (wr.alloc (.cells #[.int .i64 (F k).n, .int .i64 (F k).i, .int .i64 (F k).s, .bool (F k).g, .int .i64 (F k).l] 127)).cell? ⟨wr.heap.size, 4, none⟩ = some (.int .i64 (F k).l) by simp [go_sem])
     have hb1 := btrans (balloc _ hb) b1
     clear b1
     go_wp2_with (go_at_call 150; refine (within_lit _ _ _ false hin'.out _).mono ?_; rintro e w2 ⟨rfl, hw⟩; obtain rfl := hw.symm)
     go_ret
     refine ⟨ret_bool ?_, hb1⟩
     unfold cokB callB
     symm
     rw [Bool.and_eq_false_iff]
     exact .inl (decide_eq_false fun h => by have := h k hlt; unfold iokB at this; rw [hin'.out] at this; simp at this)
    ·have hin' : Hid (inb (F k).l 1 4 = true) := hin
     clear hin
     go_wp2_with fail
     refine (fok_lit _ _ _ _ true hok'.out _).mono ?_
     rintro e w1 ⟨rfl, b1⟩
     have p0 := keep_below b1 (show (wr.alloc (.cells #[.int .i64 (F k).n, .int .i64 (F k).i, .int .i64 (F k).s, .bool (F k).g, .int .i64 (F k).l] 127)).cell? ⟨wr.heap.size, 4, none⟩ = some (.int .i64 (F k).l) by simp [go_sem])
     have hb1 := btrans (balloc _ hb) b1
     clear b1
     go_wp2_with (go_at_call 150; refine (within_lit _ _ _ true hin'.out _).mono ?_; rintro e w2 ⟨rfl, hw⟩; obtain rfl := hw.symm)
     go_roundw
     case rel => exact ⟨k + 1, by omega, by go_num, hb1, fun j hj => by
      by_cases e : j = k
      ·subst e; unfold iokB; rw [hok'.out, hin'.out]; rfl
      ·exact hall j (by omega)⟩
     case measure => simp [intOf]; omega
  ·go_wp2_with fail
   refine (tasc_any _ _ _ _ _ (h.below hb) hl).mono ?_
   rintro e w1 ⟨rfl, b1⟩
   go_wp2
   go_ret
   refine ⟨ret_bool ?_, btrans hb b1⟩
   unfold cokB callB
   rw [decide_eq_true fun j hj => hall j (by omega), Bool.true_and]
theorem scok_any (a : Option Addr) (len cap : Nat) (F : Nat → It) (w : World) (h : TSl w a len F) (hl : len ≤ 1048576) :
  Calls Tryz.prog 140 #[.slice a len cap] w fun e w' => e = .returned (.bool (cokB len F)) ∧ Below w.heap.size w w' := by
 go_enter Tryz.func140, Tryz.ntmps140
 go_wp2
 go_loopw [3] (fun i wr => ∃ k : Nat, k ≤ len ∧ i = .int .i64 k ∧ Below w.heap.size w wr ∧ (∀ j, j < k → iokB (F j) = true) ∧ (∀ j, j < k → 0 < j → (F (j - 1)).n < (F j).n)) (fun i _ => len - (intOf i).toNat)
 case atStart => exact ⟨0, by omega, rfl, Below.refl _ _, fun j h1 => by omega, fun j h1 => by omega⟩
 case round =>
  obtain ⟨k, hk, rfl, hb, hall, hasc⟩ := hrel
  by_cases hlt : k < len
  ·obtain ⟨b, off, rfl, hbl, hf⟩ := h (by omega)
   obtain ⟨c0, c1, c2, c3, c4⟩ := (hf.below hb hbl) k hlt
   have i0 : (0 : Int) ≤ (k : Int) := by omega
   have i1 : (k : Int) < (len : Int) := by omega
   cases hok : fokB (F k).n (F k).i (F k).s
   ·go_wp2_with fail
    have hok' : Hid (fokB (F k).n (F k).i (F k).s = false) := hok
    clear hok
    refine wp_region_held_drew (S := (fun w' => w'.cell? ⟨b, off + k * 5, none⟩ = some (.int .i64 (F k).n) ∧ w'.cell? ⟨b, off + k * 5 + 1, none⟩ = some (.int .i64 (F k).i) ∧ w'.cell? ⟨b, off + k * 5 + 2, none⟩ = some (.int .i64 (F k).s) ∧ w'.cell? ⟨b, off + k * 5 + 3, none⟩ = some (.bool (F k).g) ∧ w'.cell? ⟨b, off + k * 5 + 4, none⟩ = some (.int .i64 (F k).l))) (by kernel_rfl) ?_ (fun hHeld => ?_)
    ·(try dsimp only); (refine ⟨?_, ?_, ?_, ?_, ?_⟩ <;> (repeat (first | with_reducible assumption | with_reducible refine keep_drew ?_ | with_reducible refine keep_below (by assumption) ?_)))
    refine tlT (i := 0) rfl ?_; refine tlT (i := 1) rfl ?_; refine tlT (i := 2) rfl ?_; refine tlT (i := 3) rfl ?_; refine tlT (i := 4) rfl ?_
    refine wpAnyH_ready (rs := [5]) (by kernel_rfl) (by simp) ?_
    refine AllReadyH.cons (o := _) rfl (fun K hK => ?_) AllReadyH.nil
    go_simp
    (refine (sfok_lit _ _ _ _ false hok'.out _).mono ?_; rintro e w1 ⟨rfl, b1⟩)
    go_wp2_with fail
    refine hK.out _ _ ?_ (fun hHeld => ?_)
    ·(try dsimp only); (refine ⟨?_, ?_, ?_, ?_, ?_⟩ <;> (repeat (first | with_reducible assumption | with_reducible refine keep_drew ?_ | with_reducible refine keep_below (by assumption) ?_)))
    clear hK K
    (try simp only [putP]); refine tlT (i := 6) rfl ?_; refine tlT (i := 7) rfl ?_; refine tzT (i := 8) rfl ?_; refine tzT (i := 9) rfl ?_; refine tzT (i := 10) rfl ?_; refine tzT (i := 11) rfl ?_; refine tzT (i := 12) rfl ?_; refine tzT (i := 13) rfl ?_; refine tzT (i := 14) rfl ?_; refine tlT (i := 15) rfl ?_; refine tlT (i := 16) rfl ?_; refine tzT (i := 17) rfl ?_; refine tzT (i := 18) rfl ?_; refine tzT (i := 19) rfl ?_; refine tzT (i := 20) rfl ?_; refine tzT (i := 21) rfl ?_; refine tzT (i := 22) rfl ?_; refine tzT (i := 23) rfl ?_; refine tzT (i := 24) rfl ?_; refine tzT (i := 25) rfl ?_; refine tzT (i := 26) rfl ?_; refine tzT (i := 27) rfl ?_; refine tzT (i := 28) rfl ?_; refine tzT (i := 29) rfl ?_; refine tzT (i := 30) rfl ?_; refine tzT (i := 31) rfl ?_; refine tzT (i := 32) rfl ?_; refine tzT (i := 33) rfl ?_; refine tzT (i := 34) rfl ?_; refine tlT (i := 35) rfl ?_
    refine wpAnyH_done (by kernel_rfl) ?_ _
    have bb := btrans hb.drew b1
    go_wp2
    go_ret
    refine ⟨ret_bool ?_, bb⟩
    unfold cokB callB
    symm
    rw [Bool.and_eq_false_iff]
    exact .inl (decide_eq_false fun h => by have := h k hlt; unfold iokB at this; rw [hok'.out] at this; simp at this)
   ·have hok' : Hid (fokB (F k).n (F k).i (F k).s = true) := hok
    clear hok
    cases hin : inb (F k).l 1 4
    ·have hin' : Hid (inb (F k).l 1 4 = false) := hin
     clear hin
     go_wp2_with fail
     refine wp_region_held_drew (S := (fun w' => w'.cell? ⟨b, off + k * 5, none⟩ = some (.int .i64 (F k).n) ∧ w'.cell? ⟨b, off + k * 5 + 1, none⟩ = some (.int .i64 (F k).i) ∧ w'.cell? ⟨b, off + k * 5 + 2, none⟩ = some (.int .i64 (F k).s) ∧ w'.cell? ⟨b, off + k * 5 + 3, none⟩ = some (.bool (F k).g) ∧ w'.cell? ⟨b, off + k * 5 + 4, none⟩ = some (.int .i64 (F k).l))) (by kernel_rfl) ?_ (fun hHeld => ?_)
     ·(try dsimp only); (refine ⟨?_, ?_, ?_, ?_, ?_⟩ <;> (repeat (first | with_reducible assumption | with_reducible refine keep_drew ?_ | with_reducible refine keep_below (by assumption) ?_)))
     refine tlT (i := 0) rfl ?_; refine tlT (i := 1) rfl ?_; refine tlT (i := 2) rfl ?_; refine tlT (i := 3) rfl ?_; refine tlT (i := 4) rfl ?_
     refine wpAnyH_ready (rs := [5]) (by kernel_rfl) (by simp) ?_
     refine AllReadyH.cons (o := _) rfl (fun K hK => ?_) AllReadyH.nil
     go_simp
     (refine (sfok_lit _ _ _ _ true hok'.out _).mono ?_; rintro e w1 ⟨rfl, b1⟩)
     go_wp2_with fail
     refine hK.out _ _ ?_ (fun hHeld => ?_)
     ·(try dsimp only); (refine ⟨?_, ?_, ?_, ?_, ?_⟩ <;> (repeat (first | with_reducible assumption | with_reducible refine keep_drew ?_ | with_reducible refine keep_below (by assumption) ?_)))
     clear hK K
     (try simp only [putP]); refine tlT (i := 6) rfl ?_; refine tlT (i := 7) rfl ?_; refine tlT (i := 8) rfl ?_; refine tlT (i := 9) rfl ?_; refine tlT (i := 10) rfl ?_; refine tlT (i := 11) rfl ?_; refine tlT (i := 12) rfl ?_
     refine wpAnyH_ready (rs := [13]) (by kernel_rfl) (by simp) ?_
     refine AllReadyH.cons (o := _) rfl (fun K hK => ?_) AllReadyH.nil
     go_simp
     (refine (lin_lit _ _ _ false hin'.out _).mono ?_; rintro e w2 ⟨rfl, hw⟩; obtain rfl := hw.symm)
     go_wp2_with fail
     refine hK.out _ _ ?_ (fun hHeld => ?_)
     ·(try dsimp only); (refine ⟨?_, ?_, ?_, ?_, ?_⟩ <;> (repeat (first | with_reducible assumption | with_reducible refine keep_drew ?_ | with_reducible refine keep_below (by assumption) ?_)))
     clear hK K
     (try simp only [putP]); refine tlT (i := 14) rfl ?_; refine tlT (i := 15) rfl ?_; refine tlT (i := 16) rfl ?_; refine tzT (i := 17) rfl ?_; refine tzT (i := 18) rfl ?_; refine tzT (i := 19) rfl ?_; refine tzT (i := 20) rfl ?_; refine tzT (i := 21) rfl ?_; refine tzT (i := 22) rfl ?_; refine tzT (i := 23) rfl ?_; refine tzT (i := 24) rfl ?_; refine tzT (i := 25) rfl ?_; refine tzT (i := 26) rfl ?_; refine tzT (i := 27) rfl ?_; refine tzT (i := 28) rfl ?_; refine tzT (i := 29) rfl ?_; refine tzT (i := 30) rfl ?_; refine tzT (i := 31) rfl ?_; refine tzT (i := 32) rfl ?_; refine tzT (i := 33) rfl ?_; refine tzT (i := 34) rfl ?_; refine tlT (i := 35) rfl ?_
     refine wpAnyH_done (by kernel_rfl) ?_ _
     have bb := btrans hb.drew b1
     go_wp2
     go_ret
     refine ⟨ret_bool ?_, bb⟩
     unfold cokB callB
     symm
     rw [Bool.and_eq_false_iff]
     exact .inl (decide_eq_false fun h => by have := h k hlt; unfold iokB at this; rw [hin'.out] at this; simp at this)
    ·have hin' : Hid (inb (F k).l 1 4 = true) := hin
     clear hin
     rcases Nat.eq_zero_or_pos k with h0 | h0
     ·subst h0
      simp only [Nat.zero_mul, Nat.add_zero] at c0 c1 c2 c3 c4
      go_wp2_with fail
      refine wp_region_held_drew (S := (fun w' => w'.cell? ⟨b, off, none⟩ = some (.int .i64 (F 0).n) ∧ w'.cell? ⟨b, off + 1, none⟩ = some (.int .i64 (F 0).i) ∧ w'.cell? ⟨b, off + 2, none⟩ = some (.int .i64 (F 0).s) ∧ w'.cell? ⟨b, off + 3, none⟩ = some (.bool (F 0).g) ∧ w'.cell? ⟨b, off + 4, none⟩ = some (.int .i64 (F 0).l))) (by kernel_rfl) ?_ (fun hHeld => ?_)
      ·(try dsimp only); (refine ⟨?_, ?_, ?_, ?_, ?_⟩ <;> (repeat (first | with_reducible assumption | with_reducible refine keep_drew ?_ | with_reducible refine keep_below (by assumption) ?_)))
      refine tlT (i := 0) rfl ?_; refine tlT (i := 1) rfl ?_; refine tlT (i := 2) rfl ?_; refine tlT (i := 3) rfl ?_; refine tlT (i := 4) rfl ?_
      refine wpAnyH_ready (rs := [5]) (by kernel_rfl) (by simp) ?_
      refine AllReadyH.cons (o := _) rfl (fun K hK => ?_) AllReadyH.nil
      go_simp
      (refine (sfok_lit _ _ _ _ true hok'.out _).mono ?_; rintro e w1 ⟨rfl, b1⟩)
      go_wp2_with fail
      refine hK.out _ _ ?_ (fun hHeld => ?_)
      ·(try dsimp only); (refine ⟨?_, ?_, ?_, ?_, ?_⟩ <;> (repeat (first | with_reducible assumption | with_reducible refine keep_drew ?_ | with_reducible refine keep_below (by assumption) ?_)))
      clear hK K
      (try simp only [putP]); refine tlT (i := 6) rfl ?_; refine tlT (i := 7) rfl ?_; refine tlT (i := 8) rfl ?_; refine tlT (i := 9) rfl ?_; refine tlT (i := 10) rfl ?_; refine tlT (i := 11) rfl ?_; refine tlT (i := 12) rfl ?_
      refine wpAnyH_ready (rs := [13]) (by kernel_rfl) (by simp) ?_
      refine AllReadyH.cons (o := _) rfl (fun K hK => ?_) AllReadyH.nil
      go_simp
      (refine (lin_lit _ _ _ true hin'.out _).mono ?_; rintro e w2 ⟨rfl, hw⟩; obtain rfl := hw.symm)
      go_wp2_with fail
      refine hK.out _ _ ?_ (fun hHeld => ?_)
      ·(try dsimp only); (refine ⟨?_, ?_, ?_, ?_, ?_⟩ <;> (repeat (first | with_reducible assumption | with_reducible refine keep_drew ?_ | with_reducible refine keep_below (by assumption) ?_)))
      clear hK K
      (try simp only [putP]); refine tlT (i := 14) rfl ?_; refine tlT (i := 15) rfl ?_; refine tlT (i := 16) rfl ?_; refine tlT (i := 17) rfl ?_; refine tlT (i := 18) rfl ?_; refine tlT (i := 19) rfl ?_; refine tzT (i := 20) rfl ?_; refine tzT (i := 21) rfl ?_; refine tzT (i := 22) rfl ?_; refine tzT (i := 23) rfl ?_; refine tzT (i := 24) rfl ?_; refine tzT (i := 25) rfl ?_; refine tzT (i := 26) rfl ?_; refine tzT (i := 27) rfl ?_; refine tzT (i := 28) rfl ?_; refine tzT (i := 29) rfl ?_; refine tzT (i := 30) rfl ?_; refine tzT (i := 31) rfl ?_; refine tzT (i := 32) rfl ?_; refine tzT (i := 33) rfl ?_; refine tlT (i := 34) rfl ?_; refine tlT (i := 35) rfl ?_
      refine wpAnyH_done (by kernel_rfl) ?_ _
      have bb := btrans hb.drew b1
      go_wp2
      go_roundw
      case rel => exact ⟨1, by omega, by go_num, bb, fun j hj => by
       obtain rfl : j = 0 := by omega
       unfold iokB; rw [hok'.out, hin'.out]; rfl, fun j hj h0 => by omega⟩
      case measure => simp [intOf]; omega
     ·obtain ⟨m, rfl⟩ : ∃ m, k = m + 1 := ⟨k - 1, by omega⟩
      obtain ⟨d0, d1, d2, d3, d4⟩ := (hf.below hb hbl) m (by omega)
      have i3 : (0 : Int) ≤ (m : Int) := by omega
      have i4 : (m : Int) < (len : Int) := by omega
      have i5 : IntKind.i64.wrap ((m : Int) + 1 - 1) = (m : Int) := by rw [IntKind.wrap_i64]; omega
      have i6 : (0 : Int) < (m : Int) + 1 := by omega
      have i7 : (0 : Int) ≤ (m : Int) + 1 := by omega
      have i8 : (m : Int) + 1 < (len : Int) := by omega
      have i9 : IntKind.i64.wrap (m : Int) = (m : Int) := by rw [IntKind.wrap_i64]; omega
      go_wp2_with fail
      refine wp_region_held_drew (S := (fun w' => w'.cell? ⟨b, off + m * 5, none⟩ = some (.int .i64 (F m).n) ∧ w'.cell? ⟨b, off + m * 5 + 1, none⟩ = some (.int .i64 (F m).i) ∧ w'.cell? ⟨b, off + m * 5 + 2, none⟩ = some (.int .i64 (F m).s) ∧ w'.cell? ⟨b, off + m * 5 + 3, none⟩ = some (.bool (F m).g) ∧ w'.cell? ⟨b, off + m * 5 + 4, none⟩ = some (.int .i64 (F m).l) ∧ w'.cell? ⟨b, off + (m + 1) * 5, none⟩ = some (.int .i64 (F (m + 1)).n) ∧ w'.cell? ⟨b, off + (m + 1) * 5 + 1, none⟩ = some (.int .i64 (F (m + 1)).i) ∧ w'.cell? ⟨b, off + (m + 1) * 5 + 2, none⟩ = some (.int .i64 (F (m + 1)).s) ∧ w'.cell? ⟨b, off + (m + 1) * 5 + 3, none⟩ = some (.bool (F (m + 1)).g) ∧ w'.cell? ⟨b, off + (m + 1) * 5 + 4, none⟩ = some (.int .i64 (F (m + 1)).l))) (by kernel_rfl) ?_ (fun hHeld => ?_)
      ·(try dsimp only); (refine ⟨?_, ?_, ?_, ?_, ?_, ?_, ?_, ?_, ?_, ?_⟩ <;> (repeat (first | with_reducible assumption | with_reducible refine keep_drew ?_ | with_reducible refine keep_below (by assumption) ?_)))
      refine tlT (i := 0) rfl ?_; refine tlT (i := 1) rfl ?_; refine tlT (i := 2) rfl ?_; refine tlT (i := 3) rfl ?_; refine tlT (i := 4) rfl ?_
      refine wpAnyH_ready (rs := [5]) (by kernel_rfl) (by simp) ?_
      refine AllReadyH.cons (o := _) rfl (fun K hK => ?_) AllReadyH.nil
      go_simp
      (refine (sfok_lit _ _ _ _ true hok'.out _).mono ?_; rintro e w1 ⟨rfl, b1⟩)
      go_wp2_with fail
      refine hK.out _ _ ?_ (fun hHeld => ?_)
      ·(try dsimp only); (refine ⟨?_, ?_, ?_, ?_, ?_, ?_, ?_, ?_, ?_, ?_⟩ <;> (repeat (first | with_reducible assumption | with_reducible refine keep_drew ?_ | with_reducible refine keep_below (by assumption) ?_)))
      clear hK K
      (try simp only [putP]); refine tlT (i := 6) rfl ?_; refine tlT (i := 7) rfl ?_; refine tlT (i := 8) rfl ?_; refine tlT (i := 9) rfl ?_; refine tlT (i := 10) rfl ?_; refine tlT (i := 11) rfl ?_; refine tlT (i := 12) rfl ?_
      refine wpAnyH_ready (rs := [13]) (by kernel_rfl) (by simp) ?_
      refine AllReadyH.cons (o := _) rfl (fun K hK => ?_) AllReadyH.nil
      go_simp
      (refine (lin_lit _ _ _ true hin'.out _).mono ?_; rintro e w2 ⟨rfl, hw⟩; obtain rfl := hw.symm)
      go_wp2_with fail
      refine hK.out _ _ ?_ (fun hHeld => ?_)
      ·(try dsimp only); (refine ⟨?_, ?_, ?_, ?_, ?_, ?_, ?_, ?_, ?_, ?_⟩ <;> (repeat (first | with_reducible assumption | with_reducible refine keep_drew ?_ | with_reducible refine keep_below (by assumption) ?_)))
      clear hK K
      (try simp only [putP]); refine tlT (i := 14) rfl ?_; refine tlT (i := 15) rfl ?_; refine tlT (i := 16) rfl ?_; refine tlT (i := 17) rfl ?_; refine tlT (i := 18) rfl ?_; refine tlT (i := 19) rfl ?_; refine tlT (i := 20) rfl ?_; refine tlT (i := 21) rfl ?_; refine tlT (i := 22) rfl ?_; refine tlT (i := 23) rfl ?_; refine tlT (i := 24) rfl ?_; refine tlT (i := 25) rfl ?_; refine tlT (i := 26) rfl ?_; refine tlT (i := 27) rfl ?_; refine tlT (i := 28) rfl ?_; refine tlT (i := 29) rfl ?_; refine tlT (i := 30) rfl ?_; refine tlT (i := 31) rfl ?_; refine tlT (i := 32) rfl ?_; refine tlT (i := 33) rfl ?_; refine tlT (i := 34) rfl ?_; refine tlT (i := 35) rfl ?_
      refine wpAnyH_done (by kernel_rfl) ?_ _
      have bb := btrans hb.drew b1
      by_cases hc : (F (m + 1)).n ≤ (F m).n
      ·go_wp2
       go_ret
       refine ⟨ret_bool ?_, bb⟩
       unfold cokB tascB risB
       symm
       rw [Bool.and_eq_false_iff]
       refine .inr (decide_eq_false fun h => ?_)
       have := h (m + 1) hlt (by omega)
       simp at this
       omega
      ·go_wp2
       go_roundw
       case rel => exact ⟨m + 1 + 1, by omega, by go_num, bb, fun j hj => by
         by_cases e : j = m + 1
         ·subst e; unfold iokB; rw [hok'.out, hin'.out]; rfl
         ·exact hall j (by omega), fun j hj h0 => by
         by_cases e : j = m + 1
         ·subst e; simp; omega
         ·exact hasc j (by omega) h0⟩
       case measure => simp [intOf]; omega
  ·go_wp2
   go_ret
   refine ⟨ret_bool ?_, hb⟩
   unfold cokB callB tascB risB
   rw [decide_eq_true fun j hj => hall j (by omega), decide_eq_true fun j hj h0 => hasc j (by omega) h0]
   rfl
end Go.Proofs.YtgcdcfjaeehnbaaGreat
