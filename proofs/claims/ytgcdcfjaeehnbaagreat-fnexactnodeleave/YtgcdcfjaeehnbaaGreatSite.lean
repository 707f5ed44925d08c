/- Coordinates that are ok; sites: whether all facts are of one site, the program's way and the model's. -/
import Derived.Test.YtgcdcfjaeehnbaaGreatCast
namespace Go.Proofs.YtgcdcfjaeehnbaaGreat
open Go.ChangeShapes Go.WideShapes Go.ChangeAt Go.RowKit
set_option maxHeartbeats 1000000
attribute [local go_sem ↓] Go.wp_at_zero Go.wp_at_succ
def cok (x y h e : Int) : Bool := inb x (-100000) 100000 && inb y (-100000) 100000 && inb h 0 100000 && inb e 1 1500
theorem scoord_any (x y h e : Int) (w : World) :
  Calls Tryz.prog 86 #[.agg #[.int .i64 x, .int .i64 y, .int .i64 h, .int .i64 e]] w fun r w' => r = .returned (.bool (cok x y h e)) ∧ Below w.heap.size w w' := by
 go_enter Tryz.func86, Tryz.ntmps86
 go_wp2_with (go_at_call 78; refine (lin_any _ _ _ _).mono ?_; rintro e w' ⟨rfl, rfl⟩)
 all_goals (go_ret; exact ⟨ret_bool (by simp_all [cok]), (Below.refl _ _).alloc (Nat.le_refl _) _⟩)
theorem stand_any (x y h e : Int) (w : World) :
  Calls Tryz.prog 151 #[.agg #[.int .i64 x, .int .i64 y, .int .i64 h, .int .i64 e]] w fun r w' => r = .returned (.agg #[.int .i64 x, .int .i64 y, .int .i64 h, .int .i64 e]) ∧ ∃ o1 o2, w' = (w.alloc o1).alloc o2 := by
 go_enter Tryz.func151, Tryz.ntmps151
 go_wp2
 exact bodyPost_ret (v := .agg #[.int .i64 x, .int .i64 y, .int .i64 h, .int .i64 e]) (by simp [results, Tryz.results151, go_sem]) rfl ⟨rfl, _, _, rfl⟩
theorem fcok_any (x y h e : Int) (w : World) :
  Calls Tryz.prog 100 #[.agg #[.int .i64 x, .int .i64 y, .int .i64 h, .int .i64 e]] w fun r w' => r = .returned (.bool (cok x y h e)) ∧ Below w.heap.size w w' := by
 go_enter Tryz.func100, Tryz.ntmps100
 go_wp2_with (first | (go_at_call 150; refine (within_any _ _ _ _).mono ?_; rintro e w' ⟨rfl, rfl⟩) | (go_at_call 151; refine (stand_any _ _ _ _ _).mono ?_; rintro e w' ⟨rfl, o1, o2, rfl⟩) | (go_at_call 152; go_in) | (go_at_call 153; go_in))
 all_goals (go_ret; refine ⟨ret_bool (by simp_all [cok]), ?_⟩)
 all_goals (repeat (first | exact Below.refl _ _ | refine Below.alloc ?_ (by simp <;> omega) _))
theorem toCoord_any (x y h e : Int) (w : World) :
  Calls Tryz.prog 35 #[.agg #[.int .i64 x, .int .i64 y, .int .i64 h, .int .i64 e]] w fun r w' => r = .returned (.agg #[.int .i64 x, .int .i64 y, .int .i64 h, .int .i64 e]) ∧ ∃ o1 o2 o3, w' = ((w.alloc o1).alloc o2).alloc o3 := by
 go_enter Tryz.func35, Tryz.ntmps35
 go_wp2
 exact bodyPost_ret (v := .agg #[.int .i64 x, .int .i64 y, .int .i64 h, .int .i64 e]) (by simp [results, Tryz.results35, go_sem]) rfl ⟨rfl, _, _, _, rfl⟩
theorem eqCoord_same (x y h e : Int) (w : World) :
  Calls Tryz.prog 50 #[.agg #[.int .i64 x, .int .i64 y, .int .i64 h, .int .i64 e], .agg #[.int .i64 x, .int .i64 y, .int .i64 h, .int .i64 e]] w fun r w' => r = .returned (.bool true) ∧ Below w.heap.size w w' := by
 go_enter Tryz.func50, Tryz.ntmps50
 go_wp2
 go_ret
 exact ⟨rfl, balloc _ (balloc _ (Below.refl _ _))⟩
def ste (n : Int) : Int := wrap64 (n.tdiv 4)
theorem siteOf_any (n : Int) (w : World) :
  Calls Tryz.prog 176 #[.int .i64 n] w fun r w' => r = .returned (.int .i64 (ste n)) ∧ w' = w := by
 go_enter Tryz.func176, Tryz.ntmps176
 go_wp2
 go_ret
 exact ⟨rfl, rfl⟩
def sitB (len : Nat) (F : Nat → Fc) (st : Int) : Bool := decide (∀ k, k < len → ste (F k).n = st)
theorem ssite_any (a : Option Addr) (len cap : Nat) (F : Nat → Fc) (st : Int) (w : World) (h : FSl w a len F) (hl : len ≤ 1048576) :
  Calls Tryz.prog 80 #[.slice a len cap, .int .i64 st] w fun e w' => e = .returned (.bool (sitB len F st)) ∧ Below w.heap.size w w' := by
 go_enter Tryz.func80, Tryz.ntmps80
 go_wp2
 go_loopw [5] (fun i wr => ∃ k : Nat, k ≤ len ∧ i = .int .i64 k ∧ Below w.heap.size w wr ∧ (∀ j, j < k → ste (F j).n = st)) (fun i _ => len - (intOf i).toNat)
 case atStart => exact ⟨0, by omega, rfl, Below.refl _ _, fun j h1 => by omega⟩
 case round =>
  obtain ⟨k, hk, rfl, hb, hall⟩ := hrel
  by_cases hlt : k < len
  ·obtain ⟨b, off, rfl, hbl, hf⟩ := h (by omega)
   obtain ⟨c0, c1, c2, c3⟩ := (hf.below hb hbl) k hlt
   have i0 : (0 : Int) ≤ (k : Int) := by omega
   have i1 : (k : Int) < (len : Int) := by omega
   have hst : wrap64 ((F k).n.tdiv 4) = ste (F k).n := rfl
   by_cases hs : ste (F k).n = st
   ·have e1 : ¬ (ste (F k).n ≠ st) := by simp [hs]
    go_wp2
    go_roundw
    case rel => exact ⟨k + 1, by omega, by go_num, hb, fun j hj => by
     by_cases e : j = k
     ·subst e; exact hs
     ·exact hall j (by omega)⟩
    case measure => simp [intOf]; omega
   ·go_wp2
    go_ret
    refine ⟨ret_bool ?_, hb⟩
    unfold sitB
    symm
    exact decide_eq_false fun h => hs (h k hlt)
  ·go_wp2
   go_ret
   refine ⟨ret_bool ?_, hb⟩
   unfold sitB
   symm
   rw [decide_eq_true_iff]
   exact fun j hj => hall j (by omega)
def outB (n st : Int) : Bool := ste n != st
theorem clo_any (n i s : Int) (g : Bool) (st : Int) (ps : Nat) (w : World) (hp : w.cell? ⟨ps, 0, none⟩ = some (.int .i64 st)) :
  Calls Tryz.prog 218 #[.agg #[.int .i64 n, .int .i64 i, .int .i64 s, .bool g], .pointer (some ⟨ps, 0, none⟩)] w fun r w' => r = .returned (.bool (outB n st)) ∧ Below w.heap.size w w' := by
 go_enter Tryz.func218, Tryz.ntmps218
 go_wp2_with fail
 have c0 : (w.alloc (.cells #[.int .i64 n, .int .i64 i, .int .i64 s, .bool g] 96)).cell? ⟨w.heap.size, 0, none⟩ = some (.int .i64 n) := by simp [go_sem]
 have c1 := keep_alloc (.cells #[.int .i64 n, .int .i64 i, .int .i64 s, .bool g] 96) hp
 have bw := balloc (.cells #[.int .i64 n, .int .i64 i, .int .i64 s, .bool g] 96) (Below.refl w.heap.size w)
 generalize (w.alloc (.cells #[.int .i64 n, .int .i64 i, .int .i64 s, .bool g] 96)) = W at *
 refine wp_region_held_drew (S := (fun w' => w'.cell? ⟨w.heap.size, 0, none⟩ = some (.int .i64 n) ∧ w'.cell? ⟨ps, 0, none⟩ = some (.int .i64 st))) (by kernel_rfl) ?_ (fun hHeld => ?_)
 ·(try dsimp only); (refine ⟨?_, ?_⟩ <;> (repeat (first | with_reducible assumption | with_reducible refine keep_drew ?_ | with_reducible refine keep_below (by assumption) ?_)))
 refine tlT (i := 0) rfl ?_; refine tlT (i := 1) rfl ?_; refine tlT (i := 3) rfl ?_
 refine wpAnyH_ready (rs := [2]) (by kernel_rfl) (by simp) ?_
 refine AllReadyH.cons (o := _) rfl (fun K hK => ?_) AllReadyH.nil
 go_simp
 (refine (siteOf_any n _).mono ?_; rintro e w1 ⟨rfl, hw⟩; obtain rfl := hw.symm)
 go_wp2_with fail
 refine hK.out _ _ ?_ (fun hHeld => ?_)
 ·(try dsimp only); (refine ⟨?_, ?_⟩ <;> (repeat (first | with_reducible assumption | with_reducible refine keep_drew ?_ | with_reducible refine keep_below (by assumption) ?_)))
 clear hK K
 (try simp only [putP]); refine tlT (i := 4) rfl ?_; refine tlT (i := 5) rfl ?_
 refine wpAnyH_done (by kernel_rfl) ?_ _
 go_wp2
 go_ret
 exact ⟨rfl, bw.drew⟩
theorem clo_lit (n i s : Int) (g : Bool) (st : Int) (ps : Nat) (b : Bool) (hb : outB n st = b) (w : World) (hp : w.cell? ⟨ps, 0, none⟩ = some (.int .i64 st)) :
  Calls Tryz.prog 218 #[.agg #[.int .i64 n, .int .i64 i, .int .i64 s, .bool g], .pointer (some ⟨ps, 0, none⟩)] w fun r w' => r = .returned (.bool b) ∧ Below w.heap.size w w' := hb ▸ clo_any n i s g st ps w hp
theorem idx_any (a : Option Addr) (len cap : Nat) (F : Nat → Fc) (st : Int) (ps : Nat) (w : World) (h : FSl w a len F) (hl : len ≤ 1048576) (hp : w.cell? ⟨ps, 0, none⟩ = some (.int .i64 st)) :
  Calls Tryz.prog 194 #[.slice a len cap, .func (.func 218) #[] #[.pointer (some ⟨ps, 0, none⟩)]] w fun e w' => ∃ r : Int, e = .returned (.int .i64 r) ∧ ((sitB len F st = true ∧ r = -1) ∨ (sitB len F st = false ∧ 0 ≤ r)) ∧ Below w.heap.size w w' := by
 go_enter Tryz.func194, Tryz.ntmps194
 go_wp2
 go_loopw [5, 8] (fun _ i wr => ∃ k : Nat, k ≤ len ∧ i = .int .i64 k ∧ Below w.heap.size w wr ∧ (∀ j, j < k → ste (F j).n = st)) (fun _ i _ => len - (intOf i).toNat)
 case atStart => exact ⟨0, by omega, rfl, Below.refl _ _, fun j h1 => by omega⟩
 case round =>
  obtain ⟨k, hk, rfl, hb, hall⟩ := hrel
  by_cases hlt : k < len
  ·obtain ⟨b, off, rfl, hbl, hf⟩ := h (by omega)
   obtain ⟨c0, c1, c2, c3⟩ := (hf.below hb hbl) k hlt
   have i0 : (0 : Int) ≤ (k : Int) := by omega
   have i1 : (k : Int) < (len : Int) := by omega
   have hpr := keep_below hb hp
   cases ho : outB (F k).n st
   ·have ho' : Hid (outB (F k).n st = false) := ho
    clear ho
    go_wp2_with (go_at_call 218; refine (clo_lit _ _ _ _ _ _ false ho'.out _ hpr).mono ?_; rintro e w1 ⟨rfl, b1⟩)
    go_roundw
    case rel => exact ⟨k + 1, by omega, by go_num, btrans hb b1, fun j hj => by
     by_cases e : j = k
     ·subst e; have := ho'.out; unfold outB at this; simpa using this
     ·exact hall j (by omega)⟩
    case measure => simp [intOf]; omega
   ·have ho' : Hid (outB (F k).n st = true) := ho
    clear ho
    go_wp2_with (go_at_call 218; refine (clo_lit _ _ _ _ _ _ true ho'.out _ hpr).mono ?_; rintro e w1 ⟨rfl, b1⟩)
    go_ret
    refine ⟨k, rfl, .inr ⟨?_, by omega⟩, btrans hb b1⟩
    unfold sitB
    refine decide_eq_false fun h => ?_
    have h1 := h k hlt
    have h2 := ho'.out
    unfold outB at h2
    simp [h1] at h2
  ·go_wp2
   go_ret
   refine ⟨-1, rfl, .inl ⟨?_, rfl⟩, hb⟩
   unfold sitB
   rw [decide_eq_true_iff]
   exact fun j hj => hall j (by omega)
theorem cont_any (a : Option Addr) (len cap : Nat) (F : Nat → Fc) (st : Int) (ps : Nat) (w : World) (h : FSl w a len F) (hl : len ≤ 1048576) (hp : w.cell? ⟨ps, 0, none⟩ = some (.int .i64 st)) :
  Calls Tryz.prog 217 #[.slice a len cap, .func (.func 218) #[] #[.pointer (some ⟨ps, 0, none⟩)]] w fun e w' => e = .returned (.bool (!sitB len F st)) ∧ Below w.heap.size w w' := by
 go_enter Tryz.func217, Tryz.ntmps217
 go_wp2_with fail
 refine (idx_any a len cap F st ps _ h hl hp).mono ?_
 rintro e w1 ⟨r, rfl, hr, b1⟩
 rcases hr with ⟨hs, rfl⟩ | ⟨hs, hr⟩
 ·have hs' : Hid (sitB len F st = true) := hs
  clear hs
  go_wp2
  go_ret
  exact ⟨ret_bool (by rw [hs'.out]; rfl), b1⟩
 ·have hs' : Hid (sitB len F st = false) := hs
  clear hs
  go_wp2
  go_ret
  exact ⟨ret_bool (by rw [hs'.out]; simp <;> omega), b1⟩
theorem allOf_any (a : Option Addr) (len cap : Nat) (F : Nat → Fc) (st : Int) (w : World) (h : FSl w a len F) (hl : len ≤ 1048576) :
  Calls Tryz.prog 155 #[.slice a len cap, .int .i64 st] w fun e w' => e = .returned (.bool (sitB len F st)) ∧ Below w.heap.size w w' := by
 go_enter Tryz.func155, Tryz.ntmps155
 go_wp2_with fail
 refine (cont_any a len cap F st _ _ (h.below (balloc _ (Below.refl _ _))) hl (by simp [go_sem])).mono ?_
 rintro e w1 ⟨rfl, b1⟩
 go_wp2
 go_ret
 exact ⟨ret_bool (by simp), btrans (balloc _ (Below.refl _ _)) b1⟩
end Go.Proofs.YtgcdcfjaeehnbaaGreat
