/- Words that are ok: the program's way and the model's. -/
import Derived.Test.YtgcdcfjaeehnbaaGreatSite
import Derived.Test.YtgcdcfjaeehnbaaGreatGatesF
import Derived.Test.YtgcdcfjaeehnbaaGreatCast
import Derived.Deep.Cut
namespace Go.Proofs.YtgcdcfjaeehnbaaGreat
open Go.ChangeShapes Go.WideShapes Go.ChangeAt Go.RowKit
attribute [local go_sem ↓] Go.wp_at_zero Go.wp_at_succ
theorem nodeOk_lit (n : Int) (b : Bool) (h : inb n 0 7 = b) (w : World) : Calls Tryz.prog 149 #[.int .i64 n] w fun e w' => e = .returned (.bool b) ∧ w' = w := h ▸ nodeOk_any n w
theorem fcok_lit (x y h e : Int) (b : Bool) (hb : cok x y h e = b) (w : World) :
  Calls Tryz.prog 100 #[.agg #[.int .i64 x, .int .i64 y, .int .i64 h, .int .i64 e]] w fun r w' => r = .returned (.bool b) ∧ Below w.heap.size w w' := hb ▸ fcok_any x y h e w
theorem scoord_lit (x y h e : Int) (b : Bool) (hb : cok x y h e = b) (w : World) :
  Calls Tryz.prog 86 #[.agg #[.int .i64 x, .int .i64 y, .int .i64 h, .int .i64 e]] w fun r w' => r = .returned (.bool b) ∧ Below w.heap.size w w' := hb ▸ scoord_any x y h e w
theorem cs_far {w : World} {b i c j : Nat} {u : Value} (v : Value) (hbc : b ≠ c) (h : w.cell? ⟨b, i, none⟩ = some u) : (w.setCell ⟨c, j, none⟩ v).cell? ⟨b, i, none⟩ = some u := (World.cell?_setCell_far _ _ _ _ (fun e => hbc e.symm)).trans h
theorem FSl.set {w : World} {b len : Nat} {F : Nat → Fc} (R o : Nat) (v : Value) (hne : b ≠ R) (h : FSl w (some ⟨b, 0, none⟩) len F) : FSl (w.setCell ⟨R, o, none⟩ v) (some ⟨b, 0, none⟩) len F := fun hl => by
 obtain ⟨b', off, e, hlt, hf⟩ := h hl
 simp only [Option.some.injEq, Addr.mk.injEq, and_true] at e
 obtain ⟨rfl, rfl⟩ := e
 refine ⟨b, 0, rfl, by simpa [World.setCell] using hlt, fun k hk => ?_⟩
 obtain ⟨h0, h1, h2, h3⟩ := hf k hk
 exact ⟨(World.cell?_setCell_far _ _ _ _ (fun e => hne e.symm)).trans h0, (World.cell?_setCell_far _ _ _ _ (fun e => hne e.symm)).trans h1, (World.cell?_setCell_far _ _ _ _ (fun e => hne e.symm)).trans h2, (World.cell?_setCell_far _ _ _ _ (fun e => hne e.symm)).trans h3⟩
end Go.Proofs.YtgcdcfjaeehnbaaGreat
namespace Go.Proofs.YtgcdcfjaeehnbaaGreat
open Go.ChangeShapes Go.WideShapes Go.ChangeAt Go.RowKit
set_option maxRecDepth 10000
set_option maxHeartbeats 1000000
attribute [local go_sem ↓] Go.wp_at_zero Go.wp_at_succ
def cntN (F : Nat → Fc) (x : Int) : Nat → Nat
 | 0 => 0
 | k + 1 => if (F k).s = x then cntN F x k + 1 else cntN F x k
theorem cnt_le (F : Nat → Fc) (x : Int) : ∀ k, cntN F x k ≤ k
 | 0 => Nat.le_refl _
 | k + 1 => by have := cnt_le F x k; unfold cntN; split <;> omega
def cntT (len : Nat) (F : Nat → Fc) (x : Int) : Int := if tokB len F = true then (cntN F x len : Int) else 0
theorem cnt_any (a : Option Addr) (len cap : Nat) (F : Nat → Fc) (x : Int) (w : World) (h : FSl w a len F) (hl : len ≤ 1048576) :
  Calls Tryz.prog 162 #[.slice a len cap, .int .i64 x] w fun e w' => e = .returned (.int .i64 (cntT len F x)) ∧ Below w.heap.size w w' := by
 cases hok : tokB len F
 ·have hok' : Hid (tokB len F = false) := hok
  clear hok
  go_enter Tryz.func162, Tryz.ntmps162
  go_wp2_with fail
  refine (tok_lit a len cap F false _ h hl hok'.out).mono ?_
  rintro r w1 ⟨rfl, b1⟩
  go_wp2
  go_ret
  exact ⟨ret_int (by unfold cntT; rw [hok'.out]; rfl), b1⟩
 ·have hok' : Hid (tokB len F = true) := hok
  clear hok
  go_enter Tryz.func162, Tryz.ntmps162
  go_wp2_with fail
  refine (tok_lit a len cap F true _ h hl hok'.out).mono ?_
  rintro r w1 ⟨rfl, b1⟩
  have h1 := h.below b1
  go_wp2_with fail
  go_loopw [5, 7, 13] (fun v _ i wr => ∃ k : Nat, k ≤ len ∧ i = .int .i64 k ∧ v = .int .i64 (cntN F x k : Int) ∧ Below w1.heap.size w1 wr) (fun _ _ i _ => len - (intOf i).toNat)
  case atStart => exact ⟨0, by omega, rfl, rfl, Below.refl _ _⟩
  case round =>
   obtain ⟨k, hk, rfl, rfl, hb⟩ := hrel
   have hc := cnt_le F x k
   by_cases hlt : k < len
   ·obtain ⟨b, off, rfl, hbl, hf⟩ := h1 (by omega)
    obtain ⟨c0, c1, c2, c3⟩ := (hf.below hb hbl) k hlt
    by_cases hs : (F k).s = x
    ·have g3 : Hid (cntN F x (k + 1) = cntN F x k + 1) := by unfold Hid; rw [cntN, if_pos hs]
     generalize cntN F x k = c at *
     go_wp2
     go_roundw
     case rel => exact ⟨k + 1, by omega, by go_num, by rw [g3.out]; go_num, balloc _ hb⟩
     case measure => simp [intOf]; omega
    ·have g3 : Hid (cntN F x (k + 1) = cntN F x k) := by unfold Hid; rw [cntN, if_neg hs]
     generalize cntN F x k = c at *
     go_wp2
     go_roundw
     case rel => exact ⟨k + 1, by omega, by go_num, by rw [g3.out], balloc _ hb⟩
     case measure => simp [intOf]; omega
   ·go_wp2
    go_ret
    have e : k = len := by omega
    subst e
    exact ⟨ret_int (by unfold cntT; rw [hok'.out]; rfl), btrans b1 hb⟩
end Go.Proofs.YtgcdcfjaeehnbaaGreat
namespace Go.Proofs.YtgcdcfjaeehnbaaGreat
open Go.ChangeShapes Go.WideShapes Go.ChangeAt Go.RowKit
set_option maxRecDepth 20000
set_option maxHeartbeats 4000000
attribute [local go_sem ↓] Go.wp_at_zero Go.wp_at_succ
theorem cell_block {w : World} {b o : Nat} {cs : Array Value} {t : TypeId} {v : Value} (h : w.heap[b]? = some (.cells cs t (0, 0))) (hc : cs[o]? = some v) : w.cell? ⟨b, o, none⟩ = some v := by
 simp [World.cell?, h, hc]
structure Ws (w : World) (b : Nat) (xs : List Value) : Prop where
 lt : b < w.heap.size
 c : ∀ i v, xs[i]? = some v → w.cell? ⟨b, i, none⟩ = some v
 z : ∀ o, w.frozen? ⟨b, o, none⟩ = false
theorem Ws.new {w : World} {b : Nat} {cs : Array Value} {t : TypeId} (h : w.heap[b]? = some (.cells cs t (0, 0))) : Ws w b cs.toList :=
 ⟨lt_of_block h, fun i v hv => cell_block h (by simpa using hv), fun o => by simp [World.frozen?, h]⟩
theorem Ws.box {w : World} (cs : Array Value) (t : TypeId) : Ws (w.alloc (.cells cs t)) w.heap.size cs.toList := Ws.new (heap_alloc_new _ _)
theorem box1 {w u : World} {c : Array Value} {t : TypeId} (h : w.alloc (.cells c t) = u) : Ws u w.heap.size c.toList ∧ Below w.heap.size w u := by subst h; exact ⟨Ws.box c t, balloc _ (Below.refl _ _)⟩
theorem Ws.below {w w' : World} {b : Nat} {xs : List Value} (h : Ws w b xs) (k : Below w.heap.size w w') : Ws w' b xs :=
 ⟨Nat.lt_of_lt_of_le h.lt k.size, fun i v hv => keep_below k (h.c i v hv), fun o => (k.frozen (p := ⟨b, o, none⟩) h.lt).trans (h.z o)⟩
def numB (me now sq turn inc : Int) : Bool := inb me 0 7 && inb now 0 999999 && inb sq 0 999999 && inb turn 0 8 && inb inc 0 999
theorem nums_any (me : Int) (up gone gate : Bool) (inc now sq turn : Int) (ta : Option Addr) (tl tc : Nat) (ca : Option Addr) (cl cc : Nat) (pn ps pq : Int) (pa : Bool) (da : Option Addr) (dl dc : Nat) (cx cy ch ce : Int) (pla : Option Addr) (pll plc : Nat) (oa : Option Addr) (ol oc : Nat) (w : World) :
  Calls Tryz.prog 98 #[.agg #[.int .i64 me, .bool up, .bool gone, .bool gate, .int .i64 inc, .int .i64 now, .int .i64 sq, .int .i64 turn, .slice ta tl tc, .slice ca cl cc, .int .i64 pn, .int .i64 ps, .int .i64 pq, .bool pa, .slice da dl dc, .int .i64 cx, .int .i64 cy, .int .i64 ch, .int .i64 ce, .slice pla pll plc, .slice oa ol oc]] w fun r w' => r = .returned (.bool (numB me now sq turn inc)) ∧ Below w.heap.size w w' := by
 go_enter Tryz.func98, Tryz.ntmps98
 go_upto_region 1 with fail
 generalize hu : w.alloc (.cells _ _) = u
 obtain ⟨X, b0⟩ := box1 hu
 clear hu
 have d0 := X.c 0 (.int .i64 me) rfl
 have d4 := X.c 4 (.int .i64 inc) rfl
 have d5 := X.c 5 (.int .i64 now) rfl
 have d6 := X.c 6 (.int .i64 sq) rfl
 have d7 := X.c 7 (.int .i64 turn) rfl
 go_wp2_with fail
 cases z0 : inb me 0 7
 ·have y0 : Hid (inb me 0 7 = false) := z0
  clear z0
  refine (nodeOk_lit me false y0.out _).mono ?_
  rintro r wf ⟨rfl, rfl⟩
  clear d0 d4 d5 d6 d7
  go_wp2
  go_ret
  exact ⟨ret_bool (by unfold numB; rw [y0.out]; simp), b0⟩
 ·have y0 : Hid (inb me 0 7 = true) := z0
  clear z0
  refine (nodeOk_lit me true y0.out _).mono ?_
  rintro r wt0 ⟨rfl, hw0⟩
  obtain rfl := hw0.symm
  clear hw0
  go_wp2_with fail
  cases z1 : inb now 0 999999
  ·have y1 : Hid (inb now 0 999999 = false) := z1
   clear z1
   refine (within_lit now 0 999999 false y1.out _).mono ?_
   rintro r wf ⟨rfl, rfl⟩
   clear d0 d4 d5 d6 d7
   go_wp2
   go_ret
   exact ⟨ret_bool (by unfold numB; rw [y1.out]; simp), b0⟩
  ·have y1 : Hid (inb now 0 999999 = true) := z1
   clear z1
   refine (within_lit now 0 999999 true y1.out _).mono ?_
   rintro r wt1 ⟨rfl, hw1⟩
   obtain rfl := hw1.symm
   clear hw1
   go_wp2_with fail
   cases z2 : inb sq 0 999999
   ·have y2 : Hid (inb sq 0 999999 = false) := z2
    clear z2
    refine (within_lit sq 0 999999 false y2.out _).mono ?_
    rintro r wf ⟨rfl, rfl⟩
    clear d0 d4 d5 d6 d7
    go_wp2
    go_ret
    exact ⟨ret_bool (by unfold numB; rw [y2.out]; simp), b0⟩
   ·have y2 : Hid (inb sq 0 999999 = true) := z2
    clear z2
    refine (within_lit sq 0 999999 true y2.out _).mono ?_
    rintro r wt2 ⟨rfl, hw2⟩
    obtain rfl := hw2.symm
    clear hw2
    go_wp2_with fail
    cases z3 : inb turn 0 8
    ·have y3 : Hid (inb turn 0 8 = false) := z3
     clear z3
     refine (within_lit turn 0 8 false y3.out _).mono ?_
     rintro r wf ⟨rfl, rfl⟩
     clear d0 d4 d5 d6 d7
     go_wp2
     go_ret
     exact ⟨ret_bool (by unfold numB; rw [y3.out]; simp), b0⟩
    ·have y3 : Hid (inb turn 0 8 = true) := z3
     clear z3
     refine (within_lit turn 0 8 true y3.out _).mono ?_
     rintro r wt3 ⟨rfl, hw3⟩
     obtain rfl := hw3.symm
     clear hw3
     go_wp2_with fail
     cases z4 : inb inc 0 999
     ·have y4 : Hid (inb inc 0 999 = false) := z4
      clear z4
      refine (within_lit inc 0 999 false y4.out _).mono ?_
      rintro r wf ⟨rfl, rfl⟩
      clear d0 d4 d5 d6 d7
      go_wp2
      go_ret
      exact ⟨ret_bool (by unfold numB; rw [y4.out]; simp), b0⟩
     ·have y4 : Hid (inb inc 0 999 = true) := z4
      clear z4
      refine (within_lit inc 0 999 true y4.out _).mono ?_
      rintro r wt4 ⟨rfl, hw4⟩
      obtain rfl := hw4.symm
      clear hw4
      clear d0 d4 d5 d6 d7
      go_wp2
      go_ret
      exact ⟨ret_bool (by unfold numB; rw [y0.out, y1.out, y2.out, y3.out, y4.out]; rfl), b0⟩
theorem site_any (me : Int) (up gone gate : Bool) (inc now sq turn : Int) (ta : Option Addr) (tl tc : Nat) (ca : Option Addr) (cl cc : Nat) (pn ps pq : Int) (pa : Bool) (da : Option Addr) (dl dc : Nat) (cx cy ch ce : Int) (pla : Option Addr) (pll plc : Nat) (oa : Option Addr) (ol oc : Nat) (w : World) :
  Calls Tryz.prog 156 #[.agg #[.int .i64 me, .bool up, .bool gone, .bool gate, .int .i64 inc, .int .i64 now, .int .i64 sq, .int .i64 turn, .slice ta tl tc, .slice ca cl cc, .int .i64 pn, .int .i64 ps, .int .i64 pq, .bool pa, .slice da dl dc, .int .i64 cx, .int .i64 cy, .int .i64 ch, .int .i64 ce, .slice pla pll plc, .slice oa ol oc]] w fun r w' => r = .returned (.int .i64 (ste me)) ∧ Below w.heap.size w w' := by
 go_enter Tryz.func156, Tryz.ntmps156
 go_upto_region 1 with fail
 generalize hu : w.alloc (.cells _ _) = u
 obtain ⟨X, b0⟩ := box1 hu
 clear hu
 have d0 := X.c 0 (.int .i64 me) rfl
 go_wp2_with fail
 refine (siteOf_any me _).mono ?_
 rintro r w1 ⟨rfl, rfl⟩
 clear d0
 go_wp2
 go_ret
 exact ⟨rfl, b0⟩
def fst (F : Nat → Fc) (key : Int) : Nat → Nat → Option Nat
 | _, 0 => none
 | k, m + 1 => if (F k).n = key then some k else fst F key (k + 1) m
def fnd (len : Nat) (F : Nat → Fc) (key : Int) : Option Nat := fst F key 0 len
theorem fst_none {F : Nat → Fc} {key : Int} : ∀ (m k : Nat), (∀ j, k ≤ j → j < k + m → (F j).n ≠ key) → fst F key k m = none
 | 0, _, _ => rfl
 | m + 1, k, h => by
  rw [fst, if_neg (h k (Nat.le_refl _) (by omega))]
  exact fst_none m (k + 1) (fun j h1 h2 => h j (by omega) (by omega))
theorem fst_some {F : Nat → Fc} {key : Int} : ∀ (m k i : Nat), (∀ j, k ≤ j → j < i → (F j).n ≠ key) → k ≤ i → i < k + m → (F i).n = key → fst F key k m = some i
 | 0, k, i, _, h1, h2, _ => by omega
 | m + 1, k, i, h, h1, h2, h3 => by
  rw [fst]
  by_cases e : (F k).n = key
  ·rw [if_pos e]
   by_cases e2 : k = i
   ·rw [e2]
   ·exact absurd e (h k (Nat.le_refl _) (by omega))
  ·rw [if_neg e]
   exact fst_some m (k + 1) i (fun j a b => h j (by omega) b) (by
    rcases Nat.lt_or_ge k i with q | q
    ·omega
    ·have : k = i := by omega
     subst this
     exact absurd h3 e) (by omega) h3
def hasB (n key : Int) : Bool := n == key
theorem fclo_any (n i s : Int) (g : Bool) (key : Int) (pk : Nat) (w : World) (hp : w.cell? ⟨pk, 0, none⟩ = some (.int .i64 key)) :
  Calls Tryz.prog 195 #[.agg #[.int .i64 n, .int .i64 i, .int .i64 s, .bool g], .pointer (some ⟨pk, 0, none⟩)] w fun r w' => r = .returned (.bool (hasB n key)) ∧ Below w.heap.size w w' := by
 have hm : ∀ (n i s : Int) (g : Bool) (w : World), (method 402 96 (.agg #[.int .i64 n, .int .i64 i, .int .i64 s, .bool g]) "loop.example/lightship/impl.key").run Tryz.prog w = .ok (310, .agg #[.int .i64 n, .int .i64 i, .int .i64 s, .bool g]) w := fun _ _ _ _ _ => by kernel_rfl
 have hq : (n == key) = hasB n key := rfl
 go_enter Tryz.func195, Tryz.ntmps195
 go_upto_region 1 with fail
 generalize hu : w.alloc (.cells _ _) = u
 obtain ⟨X, b0⟩ := box1 hu
 clear hu
 have c4 := keep_below b0 hp
 have c0 := X.c 0 (.int .i64 n) rfl
 have c1 := X.c 1 (.int .i64 i) rfl
 have c2 := X.c 2 (.int .i64 s) rfl
 have c3 := X.c 3 (.bool g) rfl
 generalize hasB n key = qq at *
 refine wp_region_held_drew (S := fun w' => w'.cell? ⟨w.heap.size, 0, none⟩ = some (.int .i64 n) ∧ w'.cell? ⟨w.heap.size, 1, none⟩ = some (.int .i64 i) ∧ w'.cell? ⟨w.heap.size, 2, none⟩ = some (.int .i64 s) ∧ w'.cell? ⟨w.heap.size, 3, none⟩ = some (.bool g) ∧ w'.cell? ⟨pk, 0, none⟩ = some (.int .i64 key)) (by kernel_rfl) ?_ (fun hHeld => ?_)
 ·(try dsimp only); (refine ⟨?_, ?_, ?_, ?_, ?_⟩ <;> (repeat (first | with_reducible assumption | with_reducible refine keep_drew ?_ | with_reducible refine keep_below (by assumption) ?_)))
 refine tlT (i := 0) rfl ?_; refine tlT (i := 1) rfl ?_; refine tlT (i := 3) rfl ?_
 refine wpAnyH_ready (rs := [2]) (by kernel_rfl) (by simp) ?_
 refine AllReadyH.cons (o := _) rfl (fun K hK => ?_) AllReadyH.nil
 go_simp
 refine (key_any _ _ _ _ _).mono ?_; rintro r w1 ⟨rfl, b1⟩
 go_wp2_with fail
 refine hK.out _ _ ?_ (fun hHeld => ?_)
 ·(try dsimp only); (refine ⟨?_, ?_, ?_, ?_, ?_⟩ <;> (repeat (first | with_reducible assumption | with_reducible refine keep_drew ?_ | with_reducible refine keep_below (by assumption) ?_)))
 clear hK K
 (try simp only [putP]); refine tlT (i := 4) rfl ?_; refine tlT (i := 5) rfl ?_
 refine wpAnyH_done (by kernel_rfl) ?_ _
 clear hHeld
 have B1 := btrans b0.drew b1
 go_wp2
 go_ret
 exact ⟨ret_bool hq.symm, B1⟩
theorem fclo_lit (n i s : Int) (g : Bool) (key : Int) (pk : Nat) (b : Bool) (hb : hasB n key = b) (w : World) (hp : w.cell? ⟨pk, 0, none⟩ = some (.int .i64 key)) :
  Calls Tryz.prog 195 #[.agg #[.int .i64 n, .int .i64 i, .int .i64 s, .bool g], .pointer (some ⟨pk, 0, none⟩)] w fun r w' => r = .returned (.bool b) ∧ Below w.heap.size w w' := hb ▸ fclo_any n i s g key pk w hp
def fndI : Option Nat → Int
 | none => -1
 | some k => k
theorem fidx_any (a : Option Addr) (len cap : Nat) (F : Nat → Fc) (key : Int) (pk : Nat) (w : World) (h : FSl w a len F) (hl : len ≤ 1048576) (hp : w.cell? ⟨pk, 0, none⟩ = some (.int .i64 key)) :
  Calls Tryz.prog 194 #[.slice a len cap, .func (.func 195) #[] #[.pointer (some ⟨pk, 0, none⟩)]] w fun e w' => e = .returned (.int .i64 (fndI (fnd len F key))) ∧ Below w.heap.size w w' := by
 go_enter Tryz.func194, Tryz.ntmps194
 go_wp2
 go_loopw [5, 8] (fun _ i wr => ∃ k : Nat, k ≤ len ∧ i = .int .i64 k ∧ Below w.heap.size w wr ∧ (∀ j, j < k → (F j).n ≠ key)) (fun _ i _ => len - (intOf i).toNat)
 case atStart => exact ⟨0, by omega, rfl, Below.refl _ _, fun j h1 => by omega⟩
 case round =>
  obtain ⟨k, hk, rfl, hb, hall⟩ := hrel
  by_cases hlt : k < len
  ·obtain ⟨b, off, rfl, hbl, hf⟩ := h (by omega)
   obtain ⟨c0, c1, c2, c3⟩ := (hf.below hb hbl) k hlt
   have i0 : (0 : Int) ≤ (k : Int) := by omega
   have i1 : (k : Int) < (len : Int) := by omega
   have hpr := keep_below hb hp
   cases ho : hasB (F k).n key
   ·have ho' : Hid (hasB (F k).n key = false) := ho
    clear ho
    go_wp2_with (go_at_call 195; refine (fclo_lit _ _ _ _ _ _ false ho'.out _ hpr).mono ?_; rintro e w1 ⟨rfl, b1⟩)
    go_roundw
    case rel => exact ⟨k + 1, by omega, by go_num, btrans hb b1, fun j hj => by
     by_cases e : j = k
     ·subst e; have := ho'.out; unfold hasB at this; simpa using this
     ·exact hall j (by omega)⟩
    case measure => simp [intOf]; omega
   ·have ho' : Hid (hasB (F k).n key = true) := ho
    clear ho
    go_wp2_with (go_at_call 195; refine (fclo_lit _ _ _ _ _ _ true ho'.out _ hpr).mono ?_; rintro e w1 ⟨rfl, b1⟩)
    go_ret
    have e2 : fnd len F key = some k := fst_some len 0 k (fun j _ hj => hall j hj) (by omega) (by omega) (by have := ho'.out; unfold hasB at this; simpa using this)
    exact ⟨by rw [e2]; rfl, btrans hb b1⟩
  ·go_wp2
   go_ret
   have e2 : fnd len F key = none := fst_none len 0 (fun j _ hj => hall j (by omega))
   exact ⟨by rw [e2]; rfl, hb⟩
theorem fnd_lt {len : Nat} {F : Nat → Fc} {key : Int} {k : Nat} (h : fnd len F key = some k) : k < len := by
 have : ∀ m j, fst F key j m = some k → k < j + m := by
  intro m
  induction m with
  | zero => intro j h; simp [fst] at h
  | succ m ih =>
   intro j h
   rw [fst] at h
   by_cases e : (F j).n = key
   ·rw [if_pos e] at h; injection h with h; omega
   ·rw [if_neg e] at h; have := ih _ h; omega
 have := this len 0 h
 omega
def fo (F : Nat → Fc) : Option Nat → Fc
 | none => ⟨0, 0, 0, false⟩
 | some k => F k
theorem bstore4 {w w' : World} {b : Nat} {x y z e : Value} (hb : w.heap.size ≤ b) (h : Below w.heap.size w w') :
  Below w.heap.size w ((((w'.setCell ⟨b, 0, none⟩ x).setCell ⟨b, 1, none⟩ y).setCell ⟨b, 2, none⟩ z).setCell ⟨b, 3, none⟩ e) :=
 (((h.setCell (p := ⟨b, 0, none⟩) hb x).setCell (p := ⟨b, 1, none⟩) hb y).setCell (p := ⟨b, 2, none⟩) hb z).setCell (p := ⟨b, 3, none⟩) hb e
def fcV (f : Fc) : Value := .agg #[.int .i64 f.n, .int .i64 f.i, .int .i64 f.s, .bool f.g]
theorem find_any (a : Option Addr) (len cap : Nat) (F : Nat → Fc) (key : Int) (w : World) (h : FSl w a len F) (hl : len ≤ 1048576) :
  Calls Tryz.prog 127 #[.slice a len cap, .int .i64 key] w fun e w' => e = .returned (.tuple #[fcV (fo F (fnd len F key)), .bool (fnd len F key).isSome]) ∧ Below w.heap.size w w' := by
 have b0 := balloc (.cells #[.int .i64 key] 3) (Below.refl w.heap.size w)
 have c0 := (Ws.box (w := w) #[.int .i64 key] 3).c 0 (.int .i64 key) rfl
 have b1 := balloc (.cells #[.int .i64 0, .int .i64 0, .int .i64 0, .bool false] 96) b0
 have c1 := keep_alloc (.cells #[.int .i64 0, .int .i64 0, .int .i64 0, .bool false] 96) c0
 have X := Ws.box (w := w.alloc (.cells #[.int .i64 key] 3)) #[.int .i64 0, .int .i64 0, .int .i64 0, .bool false] 96
 have hs : (w.alloc (.cells #[.int .i64 key] 3)).heap.size = w.heap.size + 1 := by simp [go_sem]
 rw [hs] at X
 clear hs c0 b0
 go_enter Tryz.func127, Tryz.ntmps127
 go_upto_region 1 with fail
 generalize (w.alloc (.cells #[.int .i64 key] 3)).alloc (.cells #[.int .i64 0, .int .i64 0, .int .i64 0, .bool false] 96) = u at *
 have hR : w.heap.size ≤ w.heap.size + 1 := by omega
 generalize w.heap.size + 1 = R at *
 go_upto_region 2 with (go_at_call 194; refine (fidx_any a len cap F key _ _ (h.below b1) hl c1).mono ?_; rintro e w1 ⟨rfl, k1⟩)
 have B1 := btrans b1 k1
 have X1 := X.below k1
 have d0 := X1.c 0 (.int .i64 0) rfl
 have d1 := X1.c 1 (.int .i64 0) rfl
 have d2 := X1.c 2 (.int .i64 0) rfl
 have d3 := X1.c 3 (.bool false) rfl
 have z0 := X1.z 0
 have z1 := X1.z 1
 have z2 := X1.z 2
 have z3 := X1.z 3
 have h1 := (h.below b1).below k1
 cases e : fnd len F key with
 | none =>
  clear X1 X c1
  go_wp2
  try simp only [Exit.inBlock, Exit.then]
  exact bodyPost_ret (v := .tuple #[fcV ⟨0, 0, 0, false⟩, .bool false]) (by simp [results, Tryz.results127, go_sem, d0, d1, d2, d3, fcV]) rfl ⟨by rw [e]; rfl, bstore4 hR B1⟩
 | some k =>
  have hk := fnd_lt e
  obtain ⟨b, off, rfl, hbl, hf⟩ := h1 (by omega)
  obtain ⟨f0, f1, f2, f3⟩ := hf k hk
  have i0 : (0 : Int) ≤ (k : Int) := by omega
  have i1 : (k : Int) < (len : Int) := by omega
  clear X1 X c1
  simp only [fndI]
  go_wp2
  try simp only [Exit.inBlock, Exit.then]
  exact bodyPost_ret (v := .tuple #[fcV (F k), .bool true]) (by simp [results, Tryz.results127, go_sem, d0, d1, d2, d3, fcV]) rfl ⟨by rw [e]; rfl, bstore4 hR B1⟩
end Go.Proofs.YtgcdcfjaeehnbaaGreat
