/- Tables: what is ok, the program's way; two lists with the same facts are the same. -/
import Derived.Test.YtgcdcfjaeehnbaaGreatInts
import Derived.Laws.OwnMore
namespace Go.Proofs.YtgcdcfjaeehnbaaGreat
open Go.ChangeShapes Go.WideShapes Go.ChangeAt Go.RowKit
set_option maxRecDepth 10000
set_option maxHeartbeats 1000000
attribute [local go_sem ↓] Go.wp_at_zero Go.wp_at_succ
def allB (len : Nat) (F : Nat → Fc) : Bool := decide (∀ k, k < len → fokB (F k).n (F k).i (F k).s = true)
def ascB (len : Nat) (F : Nat → Fc) : Bool := decide (∀ k, k < len → 0 < k → (F (k - 1)).n < (F k).n)
def tokB (len : Nat) (F : Nat → Fc) : Bool := allB len F && ascB len F
theorem key_any (n i s : Int) (g : Bool) (w : World) :
  Calls Tryz.prog 310 #[.agg #[.int .i64 n, .int .i64 i, .int .i64 s, .bool g]] w fun r w' => r = .returned (.int .i64 n) ∧ Below w.heap.size w w' := by
 go_enter Tryz.func310, Tryz.ntmps310
 go_wp2
 go_ret
 exact ⟨rfl, balloc _ (Below.refl _ _)⟩
theorem fok_below (n i s : Int) (g : Bool) (w : World) :
  Calls Tryz.prog 196 #[.agg #[.int .i64 n, .int .i64 i, .int .i64 s, .bool g]] w fun r w' => r = .returned (.bool (fokB n i s)) ∧ Below w.heap.size w w' :=
 (fok_any n i s g w).mono (by rintro r w' ⟨rfl, o1, rfl⟩; exact ⟨rfl, balloc _ (Below.refl _ _)⟩)
theorem sfok_below (n i s : Int) (g : Bool) (w : World) :
  Calls Tryz.prog 139 #[.agg #[.int .i64 n, .int .i64 i, .int .i64 s, .bool g]] w fun r w' => r = .returned (.bool (fokB n i s)) ∧ Below w.heap.size w w' :=
 (sfok_any n i s g w).mono (by rintro r w' ⟨rfl, o1, rfl⟩; exact ⟨rfl, balloc _ (Below.refl _ _)⟩)
theorem asc_any (a : Option Addr) (len cap : Nat) (F : Nat → Fc) (w : World) (h : FSl w a len F) (hl : len ≤ 1048576) :
  Calls Tryz.prog 216 #[.slice a len cap] w fun e w' => e = .returned (.bool (ascB len F)) ∧ Below w.heap.size w w' := by
 have hm : ∀ (n i s : Int) (g : Bool) (w : World), (method 402 96 (.agg #[.int .i64 n, .int .i64 i, .int .i64 s, .bool g]) "loop.example/lightship/impl.key").run Tryz.prog w = .ok (310, .agg #[.int .i64 n, .int .i64 i, .int .i64 s, .bool g]) w := fun _ _ _ _ _ => by kernel_rfl
 obtain ⟨ti, hi, hz0, hz1, hz2⟩ := info_parts info3
 go_enter Tryz.func216, Tryz.ntmps216
 go_wp2
 go_loopw [3, 5, 8] (fun v _ i wr => ∃ k : Nat, k ≤ len ∧ i = .int .i64 k ∧ wr.ownsRow w.heap.size 3 1 v k (iv (fun j => (F j).n) k) ∧ Below w.heap.size w wr) (fun _ _ i _ => len - (intOf i).toNat)
 case atStart => exact ⟨0, Nat.zero_le _, rfl, World.ownsRow_nil _ _ _ _, Below.refl _ _⟩
 case round =>
  obtain ⟨k, hk, rfl, hown, hb⟩ := hrel
  by_cases hlt : k < len
  ·obtain ⟨b, off, rfl, hbl, hf⟩ := h (by omega)
   obtain ⟨c0, c1, c2, c3⟩ := (hf.below hb hbl) k hlt
   go_wp2_with fail
   refine (key_any _ _ _ _ _).mono ?_
   rintro e w1 ⟨rfl, b1⟩
   have B1 := btrans (balloc _ hb) b1
   have O1 := own_below (hown.alloc _) b1
   clear hown b1 hb c0 c1 c2 c3
   go_wp2_with (at_builtin; refine wpList_append_own _ rfl _ _ 54 rfl w.heap.size 3 ti (.int .i64 0) 1 8 Tryz.underlying54 hi hz0 hz1 hz2 rfl (by decide) _ _ _ rfl (O1.alloc _) ⟨w1.heap.size, 0, none⟩ 1 1 [.int .i64 (F k).n] rfl rfl ?c1 ?c2 ?c3 ?c4 ?c5 ?_)
   case c1 =>
    intro j u hj
    match j, hj with
    | 0, hj => simp at hj; subst hj; simp [Addr.add]
   case c2 => intro u hu; simp at hu; subst hu; rfl
   case c3 => unfold maxLen; omega
   case c4 => omega
   case c5 => have := B1.size; simp; omega
   ·intro v' w2 hown' hgrow _
    have B2 := own_grow (balloc (.cells #[.int .i64 (F k).n] 3) B1) (by have := B1.size; simp; omega) (O1.alloc _) hgrow
    clear O1 hgrow B1
    go_wp2
    go_roundw
    case rel => exact ⟨k + 1, by omega, by go_num, by rw [iv_succ]; exact hown', B2⟩
    case measure => simp [intOf]; omega
  ·have e : k = len := by omega
   subst e
   obtain ⟨a', cap', rfl, hc', hI⟩ := own_ints hown
   clear hown
   go_wp2_with fail
   refine (rising_any _ _ _ _ _ hI hl).mono ?_
   rintro e w1 ⟨rfl, b1⟩
   go_wp2
   go_ret
   exact ⟨rfl, btrans hb b1⟩
theorem tok_any (a : Option Addr) (len cap : Nat) (F : Nat → Fc) (w : World) (h : FSl w a len F) (hl : len ≤ 1048576) :
  Calls Tryz.prog 154 #[.slice a len cap] w fun e w' => e = .returned (.bool (tokB len F)) ∧ Below w.heap.size w w' := by
 go_enter Tryz.func154, Tryz.ntmps154
 go_wp2
 go_loopw [4, 7] (fun _ i wr => ∃ k : Nat, k ≤ len ∧ i = .int .i64 k ∧ Below w.heap.size w wr ∧ (∀ j, j < k → fokB (F j).n (F j).i (F j).s = true)) (fun _ i _ => len - (intOf i).toNat)
 case atStart => exact ⟨0, by omega, rfl, Below.refl _ _, fun j h1 => by omega⟩
 case round =>
  obtain ⟨k, hk, rfl, hb, hall⟩ := hrel
  by_cases hlt : k < len
  ·obtain ⟨b, off, rfl, hbl, hf⟩ := h (by omega)
   obtain ⟨c0, c1, c2, c3⟩ := (hf.below hb hbl) k hlt
   go_wp2_with fail
   refine (fok_below _ _ _ _ _).mono ?_
   rintro e w1 ⟨rfl, b1⟩
   have hb1 := btrans (balloc _ hb) b1
   by_cases hk : fokB (F k).n (F k).i (F k).s = true
   ·go_wp2
    go_roundw
    case rel => exact ⟨k + 1, by omega, by go_num, hb1, fun j hj => by
     by_cases e : j = k
     ·subst e; exact hk
     ·exact hall j (by omega)⟩
    case measure => simp [intOf]; omega
   ·have hk' : fokB (F k).n (F k).i (F k).s = false := by simpa using hk
    go_wp2
    go_ret
    refine ⟨ret_bool ?_, hb1⟩
    unfold tokB allB
    symm
    rw [Bool.and_eq_false_iff]
    exact .inl (decide_eq_false fun h => hk (h k hlt))
  ·go_wp2_with fail
   refine (asc_any _ _ _ _ _ (h.below hb) hl).mono ?_
   rintro e w1 ⟨rfl, b1⟩
   go_wp2
   go_ret
   refine ⟨ret_bool ?_, btrans hb b1⟩
   unfold tokB allB
   rw [decide_eq_true fun j hj => hall j (by omega), Bool.true_and]
theorem eqFact_same (n i s : Int) (g : Bool) (w : World) :
  Calls Tryz.prog 119 #[.agg #[.int .i64 n, .int .i64 i, .int .i64 s, .bool g], .agg #[.int .i64 n, .int .i64 i, .int .i64 s, .bool g]] w fun r w' => r = .returned (.bool true) ∧ Below w.heap.size w w' := by
 have e0 : (g != g) = false := by simp
 go_enter Tryz.func119, Tryz.ntmps119
 go_wp2
 go_ret
 exact ⟨rfl, balloc _ (balloc _ (Below.refl _ _))⟩
theorem eqFactS_same (a a' : Option Addr) (len cap cap' : Nat) (F : Nat → Fc) (w : World) (h : FSl w a len F) (h' : FSl w a' len F) (hl : len ≤ 1048576) :
  Calls Tryz.prog 46 #[.slice a len cap, .slice a' len cap'] w fun e w' => e = .returned (.bool true) ∧ Below w.heap.size w w' := by
 go_enter Tryz.func46, Tryz.ntmps46
 go_wp2
 go_loopw [5] (fun i wr => ∃ k : Nat, k ≤ len ∧ i = .int .i64 k ∧ Below w.heap.size w wr) (fun i _ => len - (intOf i).toNat)
 case atStart => exact ⟨0, Nat.zero_le _, rfl, Below.refl _ _⟩
 case round =>
  obtain ⟨k, hk, rfl, hb⟩ := hrel
  by_cases hlt : k < len
  ·obtain ⟨b, off, rfl, hbl, hf⟩ := h (by omega)
   obtain ⟨c0, c1, c2, c3⟩ := (hf.below hb hbl) k hlt
   obtain ⟨b', off', rfl, hbl', hf'⟩ := h' (by omega)
   obtain ⟨d0, d1, d2, d3⟩ := (hf'.below hb hbl') k hlt
   have i0 : (0 : Int) ≤ (k : Int) := by omega
   have i1 : (k : Int) < (len : Int) := by omega
   go_wp2_with fail
   go_region_held3 (fun w' => w'.cell? ⟨b, off + k * 4, none⟩ = some (.int .i64 (F k).n) ∧ w'.cell? ⟨b, off + k * 4 + 1, none⟩ = some (.int .i64 (F k).i) ∧ w'.cell? ⟨b, off + k * 4 + 2, none⟩ = some (.int .i64 (F k).s) ∧ w'.cell? ⟨b, off + k * 4 + 3, none⟩ = some (.bool (F k).g) ∧ w'.cell? ⟨b', off' + k * 4, none⟩ = some (.int .i64 (F k).n) ∧ w'.cell? ⟨b', off' + k * 4 + 1, none⟩ = some (.int .i64 (F k).i) ∧ w'.cell? ⟨b', off' + k * 4 + 2, none⟩ = some (.int .i64 (F k).s) ∧ w'.cell? ⟨b', off' + k * 4 + 3, none⟩ = some (.bool (F k).g)) (refine ⟨?_, ?_, ?_, ?_, ?_, ?_, ?_, ?_⟩ <;> (repeat (first | with_reducible assumption | with_reducible refine keep_drew ?_ | with_reducible refine keep_below (by assumption) ?_))) (first | (go_at_call 119; refine (eqFact_same _ _ _ _ _).mono ?_; rintro e w1 ⟨rfl, b1⟩))
   go_wp2
   go_roundw
   case rel => exact ⟨k + 1, by omega, by go_num, btrans hb.drew b1⟩
   case measure => simp [intOf]; omega
  ·go_wp2
   go_ret
   exact ⟨rfl, hb⟩
end Go.Proofs.YtgcdcfjaeehnbaaGreat
namespace Go.Proofs.YtgcdcfjaeehnbaaGreat
open Go.ChangeShapes Go.WideShapes Go.ChangeAt Go.RowKit
set_option maxRecDepth 10000
set_option maxHeartbeats 1000000
attribute [local go_sem ↓] Go.wp_at_zero Go.wp_at_succ
theorem sfok_lit (n i s : Int) (g b : Bool) (h : fokB n i s = b) (w : World) :
  Calls Tryz.prog 139 #[.agg #[.int .i64 n, .int .i64 i, .int .i64 s, .bool g]] w fun r w' => r = .returned (.bool b) ∧ Below w.heap.size w w' := h ▸ sfok_below n i s g w
theorem stok_any (a : Option Addr) (len cap : Nat) (F : Nat → Fc) (w : World) (h : FSl w a len F) (hl : len ≤ 1048576) :
  Calls Tryz.prog 79 #[.slice a len cap] w fun e w' => e = .returned (.bool (tokB len F)) ∧ Below w.heap.size w w' := by
 go_enter Tryz.func79, Tryz.ntmps79
 go_wp2
 go_loopw [3] (fun i wr => ∃ k : Nat, k ≤ len ∧ i = .int .i64 k ∧ Below w.heap.size w wr ∧ (∀ j, j < k → fokB (F j).n (F j).i (F j).s = true) ∧ (∀ j, j < k → 0 < j → (F (j - 1)).n < (F j).n)) (fun i _ => len - (intOf i).toNat)
 case atStart => exact ⟨0, by omega, rfl, Below.refl _ _, fun j h1 => by omega, fun j h1 => by omega⟩
 case round =>
  obtain ⟨k, hk, rfl, hb, hall, hasc⟩ := hrel
  by_cases hlt : k < len
  ·obtain ⟨b, off, rfl, hbl, hf⟩ := h (by omega)
   obtain ⟨c0, c1, c2, c3⟩ := (hf.below hb hbl) k hlt
   have i0 : (0 : Int) ≤ (k : Int) := by omega
   have i1 : (k : Int) < (len : Int) := by omega
   cases hok : fokB (F k).n (F k).i (F k).s
   ·go_wp2_with fail
    have hok' : Hid (fokB (F k).n (F k).i (F k).s = false) := hok
    clear hok
    refine wp_region_held_drew (S := (fun w' => w'.cell? ⟨b, off + k * 4, none⟩ = some (.int .i64 (F k).n) ∧ w'.cell? ⟨b, off + k * 4 + 1, none⟩ = some (.int .i64 (F k).i) ∧ w'.cell? ⟨b, off + k * 4 + 2, none⟩ = some (.int .i64 (F k).s) ∧ w'.cell? ⟨b, off + k * 4 + 3, none⟩ = some (.bool (F k).g))) (by kernel_rfl) ?_ (fun hHeld => ?_)
    ·(try dsimp only); (refine ⟨?_, ?_, ?_, ?_⟩ <;> (repeat (first | with_reducible assumption | with_reducible refine keep_drew ?_ | with_reducible refine keep_below (by assumption) ?_)))
    refine tlT (i := 0) rfl ?_; refine tlT (i := 1) rfl ?_; refine tlT (i := 2) rfl ?_; refine tlT (i := 3) rfl ?_
    refine wpAnyH_ready (rs := [4]) (by kernel_rfl) (by simp) ?_
    refine AllReadyH.cons (o := _) rfl (fun K hK => ?_) AllReadyH.nil
    go_simp
    (refine (sfok_lit _ _ _ _ false hok'.out _).mono ?_; rintro e w1 ⟨rfl, b1⟩)
    go_wp2_with fail
    refine hK.out _ _ ?_ (fun hHeld => ?_)
    ·(try dsimp only); (refine ⟨?_, ?_, ?_, ?_⟩ <;> (repeat (first | with_reducible assumption | with_reducible refine keep_drew ?_ | with_reducible refine keep_below (by assumption) ?_)))
    clear hK K
    (try simp only [putP]); refine tlT (i := 5) rfl ?_; refine tlT (i := 6) rfl ?_; refine tzT (i := 7) rfl ?_; refine tzT (i := 8) rfl ?_; refine tzT (i := 9) rfl ?_; refine tzT (i := 10) rfl ?_; refine tzT (i := 11) rfl ?_; refine tzT (i := 12) rfl ?_; refine tzT (i := 13) rfl ?_; refine tzT (i := 14) rfl ?_; refine tzT (i := 15) rfl ?_; refine tzT (i := 16) rfl ?_; refine tzT (i := 17) rfl ?_; refine tzT (i := 18) rfl ?_; refine tzT (i := 19) rfl ?_; refine tzT (i := 20) rfl ?_; refine tzT (i := 21) rfl ?_; refine tzT (i := 22) rfl ?_; refine tlT (i := 23) rfl ?_
    refine wpAnyH_done (by kernel_rfl) ?_ _
    go_wp2
    go_ret
    refine ⟨ret_bool ?_, btrans hb.drew b1⟩
    unfold tokB allB
    symm
    rw [Bool.and_eq_false_iff]
    exact .inl (decide_eq_false fun h => by have := h k hlt; rw [hok'.out] at this; cases this)
   ·rcases Nat.eq_zero_or_pos k with h0 | h0
    ·subst h0
     simp only [Nat.zero_mul, Nat.add_zero] at c0 c1 c2 c3
     go_wp2_with fail
     have hok' : Hid (fokB (F 0).n (F 0).i (F 0).s = true) := hok
     clear hok
     refine wp_region_held_drew (S := (fun w' => w'.cell? ⟨b, off, none⟩ = some (.int .i64 (F 0).n) ∧ w'.cell? ⟨b, off + 1, none⟩ = some (.int .i64 (F 0).i) ∧ w'.cell? ⟨b, off + 2, none⟩ = some (.int .i64 (F 0).s) ∧ w'.cell? ⟨b, off + 3, none⟩ = some (.bool (F 0).g))) (by kernel_rfl) ?_ (fun hHeld => ?_)
     ·(try dsimp only); (refine ⟨?_, ?_, ?_, ?_⟩ <;> (repeat (first | with_reducible assumption | with_reducible refine keep_drew ?_ | with_reducible refine keep_below (by assumption) ?_)))
     refine tlT (i := 0) rfl ?_; refine tlT (i := 1) rfl ?_; refine tlT (i := 2) rfl ?_; refine tlT (i := 3) rfl ?_
     refine wpAnyH_ready (rs := [4]) (by kernel_rfl) (by simp) ?_
     refine AllReadyH.cons (o := _) rfl (fun K hK => ?_) AllReadyH.nil
     go_simp
     (refine (sfok_lit _ _ _ _ true hok'.out _).mono ?_; rintro e w1 ⟨rfl, b1⟩)
     go_wp2_with fail
     refine hK.out _ _ ?_ (fun hHeld => ?_)
     ·(try dsimp only); (refine ⟨?_, ?_, ?_, ?_⟩ <;> (repeat (first | with_reducible assumption | with_reducible refine keep_drew ?_ | with_reducible refine keep_below (by assumption) ?_)))
     clear hK K
     (try simp only [putP]); refine tlT (i := 5) rfl ?_; refine tlT (i := 6) rfl ?_; refine tlT (i := 7) rfl ?_; refine tlT (i := 8) rfl ?_; refine tlT (i := 9) rfl ?_; refine tzT (i := 10) rfl ?_; refine tzT (i := 11) rfl ?_; refine tzT (i := 12) rfl ?_; refine tzT (i := 13) rfl ?_; refine tzT (i := 14) rfl ?_; refine tzT (i := 15) rfl ?_; refine tzT (i := 16) rfl ?_; refine tzT (i := 17) rfl ?_; refine tzT (i := 18) rfl ?_; refine tzT (i := 19) rfl ?_; refine tzT (i := 20) rfl ?_; refine tzT (i := 21) rfl ?_; refine tlT (i := 22) rfl ?_; refine tlT (i := 23) rfl ?_
     refine wpAnyH_done (by kernel_rfl) ?_ _
     go_wp2
     go_roundw
     case rel => exact ⟨1, by omega, by go_num, btrans hb.drew b1, fun j hj => (show j = 0 by omega) ▸ hok'.out, fun j hj hj0 => by omega⟩
     case measure => simp [intOf]; omega
    ·obtain ⟨m, rfl⟩ : ∃ m, k = m + 1 := ⟨k - 1, by omega⟩
     obtain ⟨d0, d1, d2, d3⟩ := (hf.below hb hbl) m (by omega)
     have i2 : (0 : Int) ≤ (m : Int) := by omega
     have i3 : (m : Int) + 1 < (len : Int) := by omega
     have i4 : (m : Int) < (len : Int) := by omega
     have i5 : (0 : Int) ≤ (m : Int) + 1 := by omega
     have i6 : (0 : Int) < (m : Int) + 1 := by omega
     have i7 : IntKind.i64.wrap (m : Int) = (m : Int) := by rw [IntKind.wrap_i64]; omega
     have i8 : IntKind.i64.wrap ((m : Int) + 1 - 1) = (m : Int) := by rw [IntKind.wrap_i64]; omega
     have e1 : ((m + 1 : Nat) : Int) = (m : Int) + 1 := by omega
     clear i0 i1
     rw [e1]
     go_wp2_with fail
     have hok' : Hid (fokB (F (m + 1)).n (F (m + 1)).i (F (m + 1)).s = true) := hok
     clear hok
     refine wp_region_held_drew (S := (fun w' => w'.cell? ⟨b, off + (m + 1) * 4, none⟩ = some (.int .i64 (F (m + 1)).n) ∧ w'.cell? ⟨b, off + (m + 1) * 4 + 1, none⟩ = some (.int .i64 (F (m + 1)).i) ∧ w'.cell? ⟨b, off + (m + 1) * 4 + 2, none⟩ = some (.int .i64 (F (m + 1)).s) ∧ w'.cell? ⟨b, off + (m + 1) * 4 + 3, none⟩ = some (.bool (F (m + 1)).g) ∧ w'.cell? ⟨b, off + m * 4, none⟩ = some (.int .i64 (F m).n) ∧ w'.cell? ⟨b, off + m * 4 + 1, none⟩ = some (.int .i64 (F m).i) ∧ w'.cell? ⟨b, off + m * 4 + 2, none⟩ = some (.int .i64 (F m).s) ∧ w'.cell? ⟨b, off + m * 4 + 3, none⟩ = some (.bool (F m).g))) (by kernel_rfl) ?_ (fun hHeld => ?_)
     ·(try dsimp only); (refine ⟨?_, ?_, ?_, ?_, ?_, ?_, ?_, ?_⟩ <;> (repeat (first | with_reducible assumption | with_reducible refine keep_drew ?_ | with_reducible refine keep_below (by assumption) ?_)))
     refine tlT (i := 0) rfl ?_; refine tlT (i := 1) rfl ?_; refine tlT (i := 2) rfl ?_; refine tlT (i := 3) rfl ?_
     refine wpAnyH_ready (rs := [4]) (by kernel_rfl) (by simp) ?_
     refine AllReadyH.cons (o := _) rfl (fun K hK => ?_) AllReadyH.nil
     go_simp
     (refine (sfok_lit _ _ _ _ true hok'.out _).mono ?_; rintro e w1 ⟨rfl, b1⟩)
     go_wp2_with fail
     refine hK.out _ _ ?_ (fun hHeld => ?_)
     ·(try dsimp only); (refine ⟨?_, ?_, ?_, ?_, ?_, ?_, ?_, ?_⟩ <;> (repeat (first | with_reducible assumption | with_reducible refine keep_drew ?_ | with_reducible refine keep_below (by assumption) ?_)))
     clear hK K
     (try simp only [putP]); refine tlT (i := 5) rfl ?_; refine tlT (i := 6) rfl ?_; refine tlT (i := 7) rfl ?_; refine tlT (i := 8) rfl ?_; refine tlT (i := 9) rfl ?_; refine tlT (i := 10) rfl ?_; refine tlT (i := 11) rfl ?_; refine tlT (i := 12) rfl ?_; refine tlT (i := 13) rfl ?_; refine tlT (i := 14) rfl ?_; refine tlT (i := 15) rfl ?_; refine tlT (i := 16) rfl ?_; refine tlT (i := 17) rfl ?_; refine tlT (i := 18) rfl ?_; refine tlT (i := 19) rfl ?_; refine tlT (i := 20) rfl ?_; refine tlT (i := 21) rfl ?_; refine tlT (i := 22) rfl ?_; refine tlT (i := 23) rfl ?_
     refine wpAnyH_done (by kernel_rfl) ?_ _
     have bb := btrans hb.drew b1
     by_cases hc : (F (m + 1)).n ≤ (F m).n
     ·go_wp2
      go_ret
      refine ⟨ret_bool ?_, bb⟩
      unfold tokB ascB
      symm
      rw [Bool.and_eq_false_iff]
      refine .inr (decide_eq_false fun h => ?_)
      have := h (m + 1) hlt (by omega)
      simp at this
      omega
     ·go_wp2
      go_roundw
      case rel => exact ⟨m + 1 + 1, by omega, by go_num, bb, fun j hj => by
        by_cases e : j = m + 1
        ·subst e; exact hok'.out
        ·exact hall j (by omega), fun j hj h0 => by
        by_cases e : j = m + 1
        ·subst e; simp; omega
        ·exact hasc j (by omega) h0⟩
      case measure => simp [intOf]; omega
  ·go_wp2
   go_ret
   refine ⟨ret_bool ?_, hb⟩
   unfold tokB allB ascB
   rw [decide_eq_true fun j hj => hall j (by omega), decide_eq_true fun j hj h0 => hasc j (by omega) h0]
   rfl
end Go.Proofs.YtgcdcfjaeehnbaaGreat
namespace Go.Proofs.YtgcdcfjaeehnbaaGreat
open Go.ChangeShapes Go.WideShapes Go.ChangeAt Go.RowKit
attribute [local go_sem ↓] Go.wp_at_zero Go.wp_at_succ
theorem tok_lit (a : Option Addr) (len cap : Nat) (F : Nat → Fc) (b : Bool) (w : World) (h : FSl w a len F) (hl : len ≤ 1048576) (hb : tokB len F = b) :
  Calls Tryz.prog 154 #[.slice a len cap] w fun e w' => e = .returned (.bool b) ∧ Below w.heap.size w w' := hb ▸ tok_any a len cap F w h hl
theorem stok_lit (a : Option Addr) (len cap : Nat) (F : Nat → Fc) (b : Bool) (w : World) (h : FSl w a len F) (hl : len ≤ 1048576) (hb : tokB len F = b) :
  Calls Tryz.prog 79 #[.slice a len cap] w fun e w' => e = .returned (.bool b) ∧ Below w.heap.size w w' := hb ▸ stok_any a len cap F w h hl
def lv (L : List Int) : List Value := L.map (Value.int .i64)
def gsel (F : Nat → Fc) (n : Int) : Nat → List Int
 | 0 => []
 | k + 1 => if ((gsel F n k).length : Int) < n ∧ (F k).g = true ∧ (F k).s = 1 then gsel F n k ++ [(F k).n] else gsel F n k
def gT (len : Nat) (F : Nat → Fc) (n : Int) : List Int := if tokB len F = true then gsel F n len else []
theorem eqInts_same (a a' : Option Addr) (len cap cap' : Nat) (f : Nat → Int) (w : World) (h : ISl w a len f) (h' : ISl w a' len f) (hl : len ≤ 1048576) :
  Calls Tryz.prog 20 #[.slice a len cap, .slice a' len cap'] w fun e w' => e = .returned (.bool true) ∧ Below w.heap.size w w' := by
 go_enter Tryz.func20, Tryz.ntmps20
 go_wp2
 go_loopw [5] (fun i wr => ∃ k : Nat, k ≤ len ∧ i = .int .i64 k ∧ Below w.heap.size w wr) (fun i _ => len - (intOf i).toNat)
 case atStart => exact ⟨0, Nat.zero_le _, rfl, Below.refl _ _⟩
 case round =>
  obtain ⟨k, hk, rfl, hb⟩ := hrel
  by_cases hlt : k < len
  ·obtain ⟨b, off, rfl, hbl, hf⟩ := h (by omega)
   have c0 := (hf.below hb hbl) k hlt
   obtain ⟨b', off', rfl, hbl', hf'⟩ := h' (by omega)
   have d0 := (hf'.below hb hbl') k hlt
   have i0 : (0 : Int) ≤ (k : Int) := by omega
   have i1 : (k : Int) < (len : Int) := by omega
   have e0 : ¬ (f k ≠ f k) := by simp
   go_wp2
   go_quiet (fail)
   go_wp2
   go_roundw
   case rel => exact ⟨k + 1, by omega, by go_num, QB hb⟩
   case measure => simp [intOf]; omega
  ·go_wp2
   go_ret
   exact ⟨rfl, hb⟩
def mk (k0 : Nat) (n : Nat) : List Value := (List.range n).map fun j => Value.int .i64 ((k0 + j : Nat) : Int)
end Go.Proofs.YtgcdcfjaeehnbaaGreat
namespace Go.Proofs.YtgcdcfjaeehnbaaGreat
open Go.ChangeShapes Go.WideShapes Go.ChangeAt Go.RowKit
set_option maxHeartbeats 2000000
attribute [local go_sem ↓] Go.wp_at_zero Go.wp_at_succ
theorem toFactS_row (a : Option Addr) (len cap : Nat) (F : Nat → Fc) (w : World) (h : FSl w a len F) (hl : len ≤ 1048576) (hc : len ≤ cap) :
  Calls Tryz.prog 31 #[.slice a len cap] w fun e w' => ∃ b, e = .returned (.slice (some ⟨b, 0, none⟩) len len) ∧ w'.rowIs b 96 (len * 4) (fv F) ∧ w.heap.size ≤ b ∧ Below w.heap.size w w' := by
 have hmk := run_make_facts len hl
 go_enter Tryz.func31, Tryz.ntmps31
 go_wp2
 go_loopw [4] (fun i wr => ∃ k : Nat, k ≤ len ∧ i = .int .i64 k ∧ Below w.heap.size w wr ∧ wr.rowIs w.heap.size 96 (len * 4) (fv fun j => if j < k then F j else Fc.zero)) (fun i _ => len - (intOf i).toNat)
 case atStart => exact ⟨0, Nat.zero_le _, rfl, balloc _ (Below.refl _ _), by simpa using row_made len w⟩
 case round =>
  obtain ⟨k, hk, rfl, hb, hr⟩ := hrel
  clear hmk
  by_cases hlt : k < len
  ·obtain ⟨b, off, rfl, hbl, hf⟩ := h (by omega)
   obtain ⟨c0, c1, c2, c3⟩ := (hf.below hb hbl) k hlt
   go_wp2_with fail
   refine (toFact_below _ _ _ _ _).mono ?_
   rintro e w1 ⟨rfl, b1⟩
   have hr1 := row_below hr b1
   have hb1 := btrans hb b1
   have d0 := hr1.cell (i := k * 4) (by omega)
   have d1 := hr1.cell (i := k * 4 + 1) (by omega)
   have d2 := hr1.cell (i := k * 4 + 2) (by omega)
   have d3 := hr1.cell (i := k * 4 + 3) (by omega)
   have f0 := hr1.frozen (k * 4)
   have f1 := hr1.frozen (k * 4 + 1)
   have f2 := hr1.frozen (k * 4 + 2)
   have f3 := hr1.frozen (k * 4 + 3)
   clear hr b1 c0 c1 c2 c3 hb
   go_wp2
   go_roundw
   case rel =>
    refine ⟨k + 1, by omega, by go_num, below_set4 _ _ _ _ hb1 (Nat.le_refl _), (row_put hr1 (F k)).congr fun j _ => ?_⟩
    congr 1
    funext j
    by_cases e : j = k
    ·subst e; simp
    ·have : j < k + 1 ↔ j < k := by omega
     simp [e, this]
   case measure => simp [intOf]; omega
  ·go_wp2
   go_ret
   have e : k = len := by omega
   subst e
   refine ⟨w.heap.size, rfl, hr.congr fun j hj => ?_, Nat.le_refl _, hb⟩
   have : j / 4 < k := by omega
   simp [fv, this]
theorem fsl_row {w : World} {b t n : Nat} {F : Nat → Fc} (h : w.rowIs b t (n * 4) (fv F)) : FSl w (some ⟨b, 0, none⟩) n F := fun _ => ⟨b, 0, rfl, h.lt, row_in h⟩
theorem own_mono {w : World} {base base' size n : Nat} {e : TypeId} {v : Value} {xs : List Value} (hbb : base' ≤ base) (h : w.ownsRow base e size v n xs) : w.ownsRow base' e size v n xs := by
 refine ⟨h.1, h.2.imp id ?_⟩
 rintro ⟨g, cap, cur, hv, hg, r⟩
 exact ⟨g, cap, cur, hv, Nat.le_trans hbb hg, r⟩
theorem lv_append (L : List Int) (x : Int) : lv (L ++ [x]) = lv L ++ [.int .i64 x] := by simp [lv]
theorem own_list {w : World} {base : Nat} {e : TypeId} {v : Value} {L : List Int} (h : w.ownsRow base e 1 v L.length (lv L)) : ∃ a cap, v = .slice a L.length cap ∧ L.length ≤ cap ∧ ISl w a L.length (fun k => L.getD k 0) := by
 have h0 := h
 rcases h.2 with ⟨rfl, hl⟩ | ⟨g, cap, cur, rfl, hg, hh, hc, _⟩
 ·exact ⟨none, 0, by rw [hl], by omega, fun h => by omega⟩
 ·refine ⟨_, cap, rfl, hc, fun _ => ⟨g, 0, rfl, lt_of_block hh, fun k hk => ?_⟩⟩
  rw [Nat.zero_add]
  refine (h0.cellAt k (by omega)).trans ?_
  simp [lv, hk]
theorem grown_set (w : World) (b o : Nat) (v : Value) : w.grownBy (w.setCell ⟨b, o, none⟩ v) (some b) := ⟨rfl, rfl, rfl, by simp, fun k _ hk => heap_setCell_other w ⟨b, o, none⟩ k v (fun e => hk (by simp [e]))⟩
theorem grown_trans {w1 w2 w3 : World} {r : Option Nat} (h1 : w1.grownBy w2 r) (h2 : w2.grownBy w3 r) : w1.grownBy w3 r := ⟨h2.os.trans h1.os, h2.tape.trans h1.tape, h2.output.trans h1.output, Nat.le_trans h1.size h2.size, fun k hk hr => (h2.block k (Nat.lt_of_lt_of_le hk h1.size) hr).trans (h1.block k hk hr)⟩
theorem own_shape {w : World} {base : Nat} {e : TypeId} {v : Value} {n : Nat} {xs : List Value} (h : w.ownsRow base e 1 v n xs) : (v = .slice none 0 0 ∧ n = 0) ∨ ∃ g cap, v = .slice (some ⟨g, 0, none⟩) n cap ∧ base ≤ g := by
 rcases h.2 with ⟨rfl, hn⟩ | ⟨g, cap, cur, rfl, hg, _⟩
 ·exact .inl ⟨rfl, hn⟩
 ·exact .inr ⟨g, cap, rfl, hg⟩
end Go.Proofs.YtgcdcfjaeehnbaaGreat
