/- Nodes: all over numbers. -/
import Derived.Test.YtgcdcfjaeehnbaaGreatNd6
namespace Go.Proofs.YtgcdcfjaeehnbaaGreat
open Go.ChangeShapes Go.WideShapes Go.ChangeAt Go.RowKit
set_option maxRecDepth 20000
set_option maxHeartbeats 1000000
attribute [local go_sem ↓] Go.wp_at_zero Go.wp_at_succ
theorem obClo_any (n : Int) (me : Int) (up gone gate : Bool) (inc now sq turn : Int) (ta : Option Addr) (tl tc : Nat) (ca : Option Addr) (cl cc : Nat) (pn ps pq : Int) (pa : Bool) (da : Option Addr) (dl dc : Nat) (cx cy ch ce : Int) (pla : Option Addr) (pll plc : Nat) (oa : Option Addr) (ol oc : Nat) (pb : Nat) (w : World) (hp : w.cell? ⟨pb, 0, none⟩ = some (.func (.func 167) #[.agg #[.int .i64 me, .bool up, .bool gone, .bool gate, .int .i64 inc, .int .i64 now, .int .i64 sq, .int .i64 turn, .slice ta tl tc, .slice ca cl cc, .int .i64 pn, .int .i64 ps, .int .i64 pq, .bool pa, .slice da dl dc, .int .i64 cx, .int .i64 cy, .int .i64 ch, .int .i64 ce, .slice pla pll plc, .slice oa ol oc]] #[]))   (b : Bool) (hb : ofB me n = b) :
  Calls Tryz.prog 225 #[.int .i64 n, .pointer (some ⟨pb, 0, none⟩)] w fun r w' => r = .returned (.bool (!b)) ∧ Below w.heap.size w w' := by
 have hb' : Hid (ofB me n = b) := hb
 clear hb
 have b0 := Below.refl w.heap.size w
 have dp := hp
 go_enter Tryz.func225, Tryz.ntmps225
 go_wp2_with fail
 refine (ofs_any me up gone gate inc now sq turn ta tl tc ca cl cc pn ps pq pa da dl dc cx cy ch ce pla pll plc oa ol oc n _).mono ?_
 rintro r w2 ⟨rfl, k2⟩
 rw [hb'.out]
 clear dp hp 
 go_wp2
 go_ret
 exact ⟨rfl, btrans b0 k2⟩
def obA (me : Int) (len : Nat) (G : Nat → Int) : Bool := decide (∀ k, k < len → ofB me (G k) = true)
theorem obIdx_any (a : Option Addr) (len cap : Nat) (G : Nat → Int) (me : Int) (up gone gate : Bool) (inc now sq turn : Int) (ta : Option Addr) (tl tc : Nat) (ca : Option Addr) (cl cc : Nat) (pn ps pq : Int) (pa : Bool) (da : Option Addr) (dl dc : Nat) (cx cy ch ce : Int) (pla : Option Addr) (pll plc : Nat) (oa : Option Addr) (ol oc : Nat) (pb : Nat) (w : World) (hG : ISl w a len G) (hm : len ≤ 1048576)  (hp : w.cell? ⟨pb, 0, none⟩ = some (.func (.func 167) #[.agg #[.int .i64 me, .bool up, .bool gone, .bool gate, .int .i64 inc, .int .i64 now, .int .i64 sq, .int .i64 turn, .slice ta tl tc, .slice ca cl cc, .int .i64 pn, .int .i64 ps, .int .i64 pq, .bool pa, .slice da dl dc, .int .i64 cx, .int .i64 cy, .int .i64 ch, .int .i64 ce, .slice pla pll plc, .slice oa ol oc]] #[]))  :
  Calls Tryz.prog 230 #[.slice a len cap, .func (.func 225) #[] #[.pointer (some ⟨pb, 0, none⟩)]] w fun e w' => ∃ r : Int, e = .returned (.int .i64 r) ∧ ((obA me len G = true ∧ r = -1) ∨ (obA me len G = false ∧ 0 ≤ r)) ∧ Below w.heap.size w w' := by
 go_enter Tryz.func230, Tryz.ntmps230
 go_wp2
 go_loopw [5, 8] (fun _ i wr => ∃ k : Nat, k ≤ len ∧ i = .int .i64 k ∧ Below w.heap.size w wr ∧ (∀ j, j < k → ofB me (G j) = true)) (fun _ i _ => len - (intOf i).toNat)
 case atStart => exact ⟨0, by omega, rfl, Below.refl _ _, fun j h1 => by omega⟩
 case round =>
  obtain ⟨k, hk, rfl, hb, hall⟩ := hrel
  by_cases hlt : k < len
  ·obtain ⟨b, off, rfl, hbl, hf⟩ := hG (by omega)
   have c0 := (hf.below hb hbl) k hlt
   have i0 : (0 : Int) ≤ (k : Int) := by omega
   have i1 : (k : Int) < (len : Int) := by omega
   have hpr := keep_below hb hp
   cases ho : ofB me (G k)
   ·have ho' : Hid (ofB me (G k) = false) := ho
    clear ho
    go_wp2_with (go_at_call 225; refine (obClo_any _ me up gone gate inc now sq turn ta tl tc ca cl cc pn ps pq pa da dl dc cx cy ch ce pla pll plc oa ol oc pb _ hpr   false ho'.out).mono ?_; rintro e w1 ⟨rfl, b1⟩)
    go_ret
    refine ⟨k, rfl, .inr ⟨?_, by omega⟩, btrans hb b1⟩
    unfold obA
    refine decide_eq_false fun h => ?_
    have h1 := h k hlt
    rw [ho'.out] at h1
    cases h1
   ·have ho' : Hid (ofB me (G k) = true) := ho
    clear ho
    go_wp2_with (go_at_call 225; refine (obClo_any _ me up gone gate inc now sq turn ta tl tc ca cl cc pn ps pq pa da dl dc cx cy ch ce pla pll plc oa ol oc pb _ hpr   true ho'.out).mono ?_; rintro e w1 ⟨rfl, b1⟩)
    go_roundw
    case rel => exact ⟨k + 1, by omega, by go_num, btrans hb b1, fun j hj => by
     by_cases e : j = k
     ·subst e; exact ho'.out
     ·exact hall j (by omega)⟩
    case measure => simp [intOf]; omega
  ·go_wp2
   go_ret
   refine ⟨-1, rfl, .inl ⟨?_, rfl⟩, hb⟩
   unfold obA
   rw [decide_eq_true_iff]
   exact fun j hj => hall j (by omega)
theorem obCont_any (a : Option Addr) (len cap : Nat) (G : Nat → Int) (me : Int) (up gone gate : Bool) (inc now sq turn : Int) (ta : Option Addr) (tl tc : Nat) (ca : Option Addr) (cl cc : Nat) (pn ps pq : Int) (pa : Bool) (da : Option Addr) (dl dc : Nat) (cx cy ch ce : Int) (pla : Option Addr) (pll plc : Nat) (oa : Option Addr) (ol oc : Nat) (pb : Nat) (w : World) (hG : ISl w a len G) (hm : len ≤ 1048576)  (hp : w.cell? ⟨pb, 0, none⟩ = some (.func (.func 167) #[.agg #[.int .i64 me, .bool up, .bool gone, .bool gate, .int .i64 inc, .int .i64 now, .int .i64 sq, .int .i64 turn, .slice ta tl tc, .slice ca cl cc, .int .i64 pn, .int .i64 ps, .int .i64 pq, .bool pa, .slice da dl dc, .int .i64 cx, .int .i64 cy, .int .i64 ch, .int .i64 ce, .slice pla pll plc, .slice oa ol oc]] #[]))  :
  Calls Tryz.prog 224 #[.slice a len cap, .func (.func 225) #[] #[.pointer (some ⟨pb, 0, none⟩)]] w fun e w' => e = .returned (.bool (!obA me len G)) ∧ Below w.heap.size w w' := by
 go_enter Tryz.func224, Tryz.ntmps224
 go_wp2_with fail
 refine (obIdx_any a len cap G me up gone gate inc now sq turn ta tl tc ca cl cc pn ps pq pa da dl dc cx cy ch ce pla pll plc oa ol oc pb _ hG hm  hp ).mono ?_
 rintro e w1 ⟨r, rfl, hr, b1⟩
 rcases hr with ⟨hs, rfl⟩ | ⟨hs, hr⟩
 ·have hs' : Hid (obA me len G = true) := hs
  clear hs
  go_wp2
  go_ret
  exact ⟨ret_bool (by rw [hs'.out]; rfl), b1⟩
 ·have hs' : Hid (obA me len G = false) := hs
  clear hs
  go_wp2
  go_ret
  exact ⟨ret_bool (by rw [hs'.out]; simp <;> omega), b1⟩
theorem obAll_any (a : Option Addr) (len cap : Nat) (G : Nat → Int) (me : Int) (up gone gate : Bool) (inc now sq turn : Int) (ta : Option Addr) (tl tc : Nat) (ca : Option Addr) (cl cc : Nat) (pn ps pq : Int) (pa : Bool) (da : Option Addr) (dl dc : Nat) (cx cy ch ce : Int) (pla : Option Addr) (pll plc : Nat) (oa : Option Addr) (ol oc : Nat) (w : World) (hG : ISl w a len G) (hm : len ≤ 1048576)   :
  Calls Tryz.prog 166 #[.slice a len cap, (.func (.func 167) #[.agg #[.int .i64 me, .bool up, .bool gone, .bool gate, .int .i64 inc, .int .i64 now, .int .i64 sq, .int .i64 turn, .slice ta tl tc, .slice ca cl cc, .int .i64 pn, .int .i64 ps, .int .i64 pq, .bool pa, .slice da dl dc, .int .i64 cx, .int .i64 cy, .int .i64 ch, .int .i64 ce, .slice pla pll plc, .slice oa ol oc]] #[])] w fun e w' => e = .returned (.bool (obA me len G)) ∧ Below w.heap.size w w' := by
 go_enter Tryz.func166, Tryz.ntmps166
 go_upto_region 1 with fail
 generalize hu : w.alloc (.cells _ _) = u
 obtain ⟨X, b0⟩ := box1 hu
 clear hu
 have dp := X.c 0 (.func (.func 167) #[.agg #[.int .i64 me, .bool up, .bool gone, .bool gate, .int .i64 inc, .int .i64 now, .int .i64 sq, .int .i64 turn, .slice ta tl tc, .slice ca cl cc, .int .i64 pn, .int .i64 ps, .int .i64 pq, .bool pa, .slice da dl dc, .int .i64 cx, .int .i64 cy, .int .i64 ch, .int .i64 ce, .slice pla pll plc, .slice oa ol oc]] #[]) rfl
 clear X
 go_wp2_with fail
 refine (obCont_any a len cap G me up gone gate inc now sq turn ta tl tc ca cl cc pn ps pq pa da dl dc cx cy ch ce pla pll plc oa ol oc _ _ (hG.below b0) hm  dp ).mono ?_
 rintro e w1 ⟨rfl, b1⟩
 clear dp
 go_wp2
 go_ret
 exact ⟨ret_bool (by simp), btrans b0 b1⟩
theorem trip_any (n : Int) (w : World) : Calls Tryz.prog 172 #[.int .i64 n] w fun r w' => r = .returned (.bool (inb n 1 60000)) ∧ Below w.heap.size w w' := by
 go_enter Tryz.func172, Tryz.ntmps172
 go_wp2_with fail
 refine (within_any n 1 60000 _).mono ?_
 rintro r w2 ⟨rfl, rfl⟩
 go_wp2
 go_ret
 exact ⟨rfl, Below.refl _ _⟩
theorem trClo_any (n : Int)  (pb : Nat) (w : World) (hp : w.cell? ⟨pb, 0, none⟩ = some (.func (.func 172) #[] #[]))   (b : Bool) (hb : inb n 1 60000 = b) :
  Calls Tryz.prog 225 #[.int .i64 n, .pointer (some ⟨pb, 0, none⟩)] w fun r w' => r = .returned (.bool (!b)) ∧ Below w.heap.size w w' := by
 have hb' : Hid (inb n 1 60000 = b) := hb
 clear hb
 have b0 := Below.refl w.heap.size w
 have dp := hp
 go_enter Tryz.func225, Tryz.ntmps225
 go_wp2_with fail
 refine (trip_any n _).mono ?_
 rintro r w2 ⟨rfl, k2⟩
 rw [hb'.out]
 clear dp hp 
 go_wp2
 go_ret
 exact ⟨rfl, btrans b0 k2⟩
def trA  (len : Nat) (G : Nat → Int) : Bool := decide (∀ k, k < len → inb (G k) 1 60000 = true)
theorem trIdx_any (a : Option Addr) (len cap : Nat) (G : Nat → Int)  (pb : Nat) (w : World) (hG : ISl w a len G) (hm : len ≤ 1048576)  (hp : w.cell? ⟨pb, 0, none⟩ = some (.func (.func 172) #[] #[]))  :
  Calls Tryz.prog 230 #[.slice a len cap, .func (.func 225) #[] #[.pointer (some ⟨pb, 0, none⟩)]] w fun e w' => ∃ r : Int, e = .returned (.int .i64 r) ∧ ((trA  len G = true ∧ r = -1) ∨ (trA  len G = false ∧ 0 ≤ r)) ∧ Below w.heap.size w w' := by
 go_enter Tryz.func230, Tryz.ntmps230
 go_wp2
 go_loopw [5, 8] (fun _ i wr => ∃ k : Nat, k ≤ len ∧ i = .int .i64 k ∧ Below w.heap.size w wr ∧ (∀ j, j < k → inb (G j) 1 60000 = true)) (fun _ i _ => len - (intOf i).toNat)
 case atStart => exact ⟨0, by omega, rfl, Below.refl _ _, fun j h1 => by omega⟩
 case round =>
  obtain ⟨k, hk, rfl, hb, hall⟩ := hrel
  by_cases hlt : k < len
  ·obtain ⟨b, off, rfl, hbl, hf⟩ := hG (by omega)
   have c0 := (hf.below hb hbl) k hlt
   have i0 : (0 : Int) ≤ (k : Int) := by omega
   have i1 : (k : Int) < (len : Int) := by omega
   have hpr := keep_below hb hp
   cases ho : inb (G k) 1 60000
   ·have ho' : Hid (inb (G k) 1 60000 = false) := ho
    clear ho
    go_wp2_with (go_at_call 225; refine (trClo_any _  pb _ hpr   false ho'.out).mono ?_; rintro e w1 ⟨rfl, b1⟩)
    go_ret
    refine ⟨k, rfl, .inr ⟨?_, by omega⟩, btrans hb b1⟩
    unfold trA
    refine decide_eq_false fun h => ?_
    have h1 := h k hlt
    rw [ho'.out] at h1
    cases h1
   ·have ho' : Hid (inb (G k) 1 60000 = true) := ho
    clear ho
    go_wp2_with (go_at_call 225; refine (trClo_any _  pb _ hpr   true ho'.out).mono ?_; rintro e w1 ⟨rfl, b1⟩)
    go_roundw
    case rel => exact ⟨k + 1, by omega, by go_num, btrans hb b1, fun j hj => by
     by_cases e : j = k
     ·subst e; exact ho'.out
     ·exact hall j (by omega)⟩
    case measure => simp [intOf]; omega
  ·go_wp2
   go_ret
   refine ⟨-1, rfl, .inl ⟨?_, rfl⟩, hb⟩
   unfold trA
   rw [decide_eq_true_iff]
   exact fun j hj => hall j (by omega)
theorem trCont_any (a : Option Addr) (len cap : Nat) (G : Nat → Int)  (pb : Nat) (w : World) (hG : ISl w a len G) (hm : len ≤ 1048576)  (hp : w.cell? ⟨pb, 0, none⟩ = some (.func (.func 172) #[] #[]))  :
  Calls Tryz.prog 224 #[.slice a len cap, .func (.func 225) #[] #[.pointer (some ⟨pb, 0, none⟩)]] w fun e w' => e = .returned (.bool (!trA  len G)) ∧ Below w.heap.size w w' := by
 go_enter Tryz.func224, Tryz.ntmps224
 go_wp2_with fail
 refine (trIdx_any a len cap G  pb _ hG hm  hp ).mono ?_
 rintro e w1 ⟨r, rfl, hr, b1⟩
 rcases hr with ⟨hs, rfl⟩ | ⟨hs, hr⟩
 ·have hs' : Hid (trA  len G = true) := hs
  clear hs
  go_wp2
  go_ret
  exact ⟨ret_bool (by rw [hs'.out]; rfl), b1⟩
 ·have hs' : Hid (trA  len G = false) := hs
  clear hs
  go_wp2
  go_ret
  exact ⟨ret_bool (by rw [hs'.out]; simp <;> omega), b1⟩
theorem trAll_any (a : Option Addr) (len cap : Nat) (G : Nat → Int)  (w : World) (hG : ISl w a len G) (hm : len ≤ 1048576)   :
  Calls Tryz.prog 166 #[.slice a len cap, (.func (.func 172) #[] #[])] w fun e w' => e = .returned (.bool (trA  len G)) ∧ Below w.heap.size w w' := by
 go_enter Tryz.func166, Tryz.ntmps166
 go_upto_region 1 with fail
 generalize hu : w.alloc (.cells _ _) = u
 obtain ⟨X, b0⟩ := box1 hu
 clear hu
 have dp := X.c 0 (.func (.func 172) #[] #[]) rfl
 clear X
 go_wp2_with fail
 refine (trCont_any a len cap G  _ _ (hG.below b0) hm  dp ).mono ?_
 rintro e w1 ⟨rfl, b1⟩
 clear dp
 go_wp2
 go_ret
 exact ⟨ret_bool (by simp), btrans b0 b1⟩
end Go.Proofs.YtgcdcfjaeehnbaaGreat
