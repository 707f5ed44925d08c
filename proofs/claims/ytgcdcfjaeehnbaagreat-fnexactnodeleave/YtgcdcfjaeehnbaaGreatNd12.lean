/- Nodes, the model's way: who is found, what one says of itself, probes. -/
import Derived.Test.YtgcdcfjaeehnbaaGreatNd4
namespace Go.Proofs.YtgcdcfjaeehnbaaGreat
open Go.ChangeShapes Go.WideShapes Go.ChangeAt Go.RowKit
set_option maxRecDepth 20000
set_option maxHeartbeats 4000000
attribute [local go_sem ↓] Go.wp_at_zero Go.wp_at_succ
theorem sfind_any (a : Option Addr) (len cap : Nat) (F : Nat → Fc) (key : Int) (w : World) (h : FSl w a len F) (hl : len ≤ 1048576) :
  Calls Tryz.prog 71 #[.slice a len cap, .int .i64 key] w fun e w' => e = .returned (.int .i64 (fndI (fnd len F key))) ∧ Below w.heap.size w w' := by
 go_enter Tryz.func71, Tryz.ntmps71
 go_wp2
 go_loopw [5] (fun i wr => ∃ k : Nat, k ≤ len ∧ i = .int .i64 k ∧ Below w.heap.size w wr ∧ (∀ j, j < k → (F j).n ≠ key)) (fun i _ => len - (intOf i).toNat)
 case atStart => exact ⟨0, by omega, rfl, Below.refl _ _, fun j h1 => by omega⟩
 case round =>
  obtain ⟨k, hk, rfl, hb, hall⟩ := hrel
  by_cases hlt : k < len
  ·obtain ⟨b, off, rfl, hbl, hf⟩ := h (by omega)
   obtain ⟨c0, c1, c2, c3⟩ := (hf.below hb hbl) k hlt
   have i0 : (0 : Int) ≤ (k : Int) := by omega
   have i1 : (k : Int) < (len : Int) := by omega
   by_cases e : (F k).n = key
   ·go_wp2
    go_ret
    have e2 : fnd len F key = some k := fst_some len 0 k (fun j _ hj => hall j hj) (by omega) (by omega) e
    exact ⟨by rw [e2]; rfl, hb⟩
   ·have e' : ((F k).n == key) = false := by simpa using e
    go_wp2
    go_roundw
    case rel => exact ⟨k + 1, by omega, by go_num, hb, fun j hj => by
     by_cases e3 : j = k
     ·subst e3; exact e
     ·exact hall j (by omega)⟩
    case measure => simp [intOf]; omega
  ·go_wp2
   go_ret
   have e2 : fnd len F key = none := fst_none len 0 (fun j _ hj => hall j (by omega))
   exact ⟨by rw [e2]; rfl, hb⟩
theorem lsite_any (n : Int) (w : World) :
  Calls Tryz.prog 81 #[.int .i64 n] w fun r w' => r = .returned (.int .i64 (ste n)) ∧ w' = w := by
 go_enter Tryz.func81, Tryz.ntmps81
 go_wp2
 go_ret
 exact ⟨rfl, rfl⟩
theorem fnd_n {len : Nat} {F : Nat → Fc} {key : Int} {k : Nat} (h : fnd len F key = some k) : (F k).n = key := by
 have : ∀ m j, fst F key j m = some k → (F k).n = key := by
  intro m
  induction m with
  | zero => intro j h; simp [fst] at h
  | succ m ih =>
   intro j h
   rw [fst] at h
   by_cases e : (F j).n = key
   ·rw [if_pos e] at h; injection h with h; subst h; exact e
   ·rw [if_neg e] at h; exact ih _ h
 exact this len 0 h
theorem ssite_lit (a : Option Addr) (len cap : Nat) (F : Nat → Fc) (st : Int) (b : Bool) (hb : sitB len F st = b) (w : World) (h : FSl w a len F) (hl : len ≤ 1048576) :
  Calls Tryz.prog 80 #[.slice a len cap, .int .i64 st] w fun e w' => e = .returned (.bool b) ∧ Below w.heap.size w w' := hb ▸ ssite_any a len cap F st w h hl
def sslfB (me : Int) (gone gate : Bool) (inc : Int) (tl : Nat) (F : Nat → Fc) : Bool := feqB (fo F (fnd tl F me)) (slf me gone gate inc)
theorem sself_any (me : Int) (up gone gate : Bool) (inc now sq turn : Int) (ta : Option Addr) (tl tc : Nat) (ca : Option Addr) (cl cc : Nat) (pn ps pq : Int) (pa : Bool) (da : Option Addr) (dl dc : Nat) (cx cy ch ce : Int) (pla : Option Addr) (pll plc : Nat) (oa : Option Addr) (ol oc : Nat) (F : Nat → Fc) (w : World) (h : FSl w ta tl F) (hl : tl ≤ 1048576) :
  Calls Tryz.prog 82 #[.agg #[.int .i64 me, .bool up, .bool gone, .bool gate, .int .i64 inc, .int .i64 now, .int .i64 sq, .int .i64 turn, .slice ta tl tc, .slice ca cl cc, .int .i64 pn, .int .i64 ps, .int .i64 pq, .bool pa, .slice da dl dc, .int .i64 cx, .int .i64 cy, .int .i64 ch, .int .i64 ce, .slice pla pll plc, .slice oa ol oc]] w fun r w' => r = .returned (.bool (sslfB me gone gate inc tl F)) ∧ Below w.heap.size w w' := by
 go_enter Tryz.func82, Tryz.ntmps82
 go_upto_region 1 with fail
 generalize hu : w.alloc (.cells _ _) = u
 obtain ⟨X, b0⟩ := box1 hu
 clear hu
 have h' := h.below b0
 have d0 := X.c 0 (.int .i64 me) rfl
 have d8 := X.c 8 (.slice ta tl tc) rfl
 go_wp2_with fail
 refine (sfind_any ta tl tc F me _ h' hl).mono ?_
 rintro r w1 ⟨rfl, k1⟩
 have b1 := btrans b0 k1
 have X1 := X.below k1
 have h1 := h'.below k1
 clear X b0 k1 h h' d0 d8
 have d2 := X1.c 2 (.bool gone) rfl
 have d3 := X1.c 3 (.bool gate) rfl
 have d4 := X1.c 4 (.int .i64 inc) rfl
 have d8 := X1.c 8 (.slice ta tl tc) rfl
 clear X1
 have hst : Hid (sslfB me gone gate inc tl F = feqB (fo F (fnd tl F me)) (slf me gone gate inc)) := rfl
 cases ef : fnd tl F me with
 | none =>
  rw [ef] at hst
  simp only [fndI]
  go_wp2
  go_ret
  exact ⟨ret_bool (by rw [hst.out]; cases gone <;> simp [feqB, fo, slf]), b1⟩
 | some k =>
  rw [ef] at hst
  have en : Hid ((F k).n = me) := fnd_n ef
  have hk := fnd_lt ef
  clear ef
  obtain ⟨b, off, rfl, hbl, hf⟩ := h1 (by omega)
  obtain ⟨c0, c1, c2, c3⟩ := hf k hk
  clear hf
  have i0 : (0 : Int) ≤ (k : Int) := by omega
  have i1 : (k : Int) < (tl : Int) := by omega
  have i2 : ¬ (k : Int) < 0 := by omega
  simp only [fndI]
  simp only [fo] at hst
  generalize F k = f at *
  obtain ⟨fn, fi, fs, fg⟩ := f
  dsimp only at hst c0 c1 c2 c3 en
  have b2 := balloc (.cells #[.int .i64 fn, .int .i64 fi, .int .i64 fs, .bool fg] 96) b1
  have Y := Ws.box (w := w1) #[.int .i64 fn, .int .i64 fi, .int .i64 fs, .bool fg] 96
  have f2 := keep_alloc (.cells #[.int .i64 fn, .int .i64 fi, .int .i64 fs, .bool fg] 96) d2
  have f3 := keep_alloc (.cells #[.int .i64 fn, .int .i64 fi, .int .i64 fs, .bool fg] 96) d3
  have f4 := keep_alloc (.cells #[.int .i64 fn, .int .i64 fi, .int .i64 fs, .bool fg] 96) d4
  go_upto_region 5 with fail
  generalize w1.alloc (.cells #[.int .i64 fn, .int .i64 fi, .int .i64 fs, .bool fg] 96) = v at *
  generalize w1.heap.size = KF at *
  have g1 := Y.c 1 (.int .i64 fi) rfl
  have g2 := Y.c 2 (.int .i64 fs) rfl
  have g3 := Y.c 3 (.bool fg) rfl
  clear Y c0 c1 c2 c3 d2 d3 d4 d8
  by_cases e1 : fi = inc
  ·subst e1
   cases gone
   ·by_cases e2 : fs = 1
    ·subst e2
     go_wp2
     go_ret
     exact ⟨ret_bool (by rw [hst.out]; simp [feqB, slf, en.out]), b2⟩
    ·go_wp2
     go_ret
     exact ⟨ret_bool (by rw [hst.out]; simp [feqB, slf, en.out, e2]), b2⟩
   ·by_cases e2 : fs = 4
    ·subst e2
     go_wp2
     go_ret
     exact ⟨ret_bool (by rw [hst.out]; simp [feqB, slf, en.out]), b2⟩
    ·go_wp2
     go_ret
     exact ⟨ret_bool (by rw [hst.out]; simp [feqB, slf, en.out, e2]), b2⟩
  ·cases gone
   ·go_wp2
    go_ret
    exact ⟨ret_bool (by rw [hst.out]; simp [feqB, slf, en.out, e1]), b2⟩
   ·go_wp2
    go_ret
    exact ⟨ret_bool (by rw [hst.out]; simp [feqB, slf, en.out, e1]), b2⟩
def sprbB (me now sq : Int) (tl : Nat) (F : Nat → Fc) (pn ps pq : Int) (pa : Bool) : Bool :=
 if pn = -1 then decide (ps = 0) && decide (pq = 0) && !pa else decide (pn ≠ me) && (fnd tl F pn).isSome && inb ps 0 now && inb pq 1 sq
theorem sprobe_any (me : Int) (up gone gate : Bool) (inc now sq turn : Int) (ta : Option Addr) (tl tc : Nat) (ca : Option Addr) (cl cc : Nat) (pn ps pq : Int) (pa : Bool) (da : Option Addr) (dl dc : Nat) (cx cy ch ce : Int) (pla : Option Addr) (pll plc : Nat) (oa : Option Addr) (ol oc : Nat) (F : Nat → Fc) (w : World) (h : FSl w ta tl F) (hl : tl ≤ 1048576) :
  Calls Tryz.prog 84 #[.agg #[.int .i64 me, .bool up, .bool gone, .bool gate, .int .i64 inc, .int .i64 now, .int .i64 sq, .int .i64 turn, .slice ta tl tc, .slice ca cl cc, .int .i64 pn, .int .i64 ps, .int .i64 pq, .bool pa, .slice da dl dc, .int .i64 cx, .int .i64 cy, .int .i64 ch, .int .i64 ce, .slice pla pll plc, .slice oa ol oc]] w fun r w' => r = .returned (.bool (sprbB me now sq tl F pn ps pq pa)) ∧ Below w.heap.size w w' := by
 go_enter Tryz.func84, Tryz.ntmps84
 go_upto_region 1 with fail
 generalize hu : w.alloc (.cells _ _) = u
 obtain ⟨X, b0⟩ := box1 hu
 clear hu
 have d10 := X.c 10 (.int .i64 pn) rfl
 have d11 := X.c 11 (.int .i64 ps) rfl
 have d12 := X.c 12 (.int .i64 pq) rfl
 have d13 := X.c 13 (.bool pa) rfl
 have hst : Hid (sprbB me now sq tl F pn ps pq pa = if pn = -1 then decide (ps = 0) && decide (pq = 0) && !pa else decide (pn ≠ me) && (fnd tl F pn).isSome && inb ps 0 now && inb pq 1 sq) := rfl
 have b1 := balloc (.cells #[.int .i64 pn, .int .i64 ps, .int .i64 pq, .bool pa] 36) b0
 have Y := Ws.box (w := u) #[.int .i64 pn, .int .i64 ps, .int .i64 pq, .bool pa] 36
 have X1 := X.alloc (.cells #[.int .i64 pn, .int .i64 ps, .int .i64 pq, .bool pa] 36)
 go_upto_region 2 with fail
 generalize u.alloc (.cells #[.int .i64 pn, .int .i64 ps, .int .i64 pq, .bool pa] 36) = v at *
 generalize u.heap.size = KP at *
 have h1 := h.below b1
 have g0 := Y.c 0 (.int .i64 pn) rfl
 have g1 := Y.c 1 (.int .i64 ps) rfl
 have g2 := Y.c 2 (.int .i64 pq) rfl
 have g3 := Y.c 3 (.bool pa) rfl
 have f0 := X1.c 0 (.int .i64 me) rfl
 have f8 := X1.c 8 (.slice ta tl tc) rfl
 clear d10 d11 d12 d13 X h b0
 by_cases e0 : pn = -1
 ·subst e0
  by_cases e1 : ps = 0
  ·subst e1
   by_cases e2 : pq = 0
   ·subst e2
    go_wp2
    go_ret
    exact ⟨ret_bool (by rw [hst.out]; simp), b1⟩
   ·go_wp2
    go_ret
    exact ⟨ret_bool (by rw [hst.out]; simp [e2]), b1⟩
  ·go_wp2
   go_ret
   exact ⟨ret_bool (by rw [hst.out]; simp [e1]), b1⟩
 ·have hst' : Hid (sprbB me now sq tl F pn ps pq pa = (decide (pn ≠ me) && (fnd tl F pn).isSome && inb ps 0 now && inb pq 1 sq)) := by
   rw [Hid, hst.out, if_neg e0]
  clear hst
  by_cases e1 : pn = me
  ·subst e1
   go_wp2
   go_ret
   exact ⟨ret_bool (by rw [hst'.out]; simp), b1⟩
  ·have e1' : (pn == me) = false := by simpa using e1
   go_wp2_with fail
   refine (sfind_any ta tl tc F pn _ h1 hl).mono ?_
   rintro r w1 ⟨rfl, k1⟩
   have b2 := btrans b1 k1
   have X2 := X1.below k1
   have Y2 := Y.below k1
   clear X1 Y g0 g1 g2 g3 f0 f8 k1 b1 h1
   have g1 := Y2.c 1 (.int .i64 ps) rfl
   have g2 := Y2.c 2 (.int .i64 pq) rfl
   have f5 := X2.c 5 (.int .i64 now) rfl
   have f6 := X2.c 6 (.int .i64 sq) rfl
   clear X2 Y2
   cases ef : fnd tl F pn with
   | none =>
    rw [ef] at hst'
    simp only [fndI]
    go_wp2
    go_ret
    exact ⟨ret_bool (by rw [hst'.out]; simp), b2⟩
   | some k =>
    rw [ef] at hst'
    have i2 : (0 : Int) ≤ (k : Int) := by omega
    simp only [fndI]
    go_wp2_with fail
    cases z0 : inb ps 0 now
    ·have y0 : Hid (inb ps 0 now = false) := z0
     clear z0
     refine (lin_lit ps 0 now false y0.out _).mono ?_
     rintro r w3 ⟨rfl, hw⟩
     obtain rfl := hw.symm
     clear hw
     go_wp2
     go_ret
     exact ⟨ret_bool (by rw [hst'.out, y0.out]; simp), b2⟩
    ·have y0 : Hid (inb ps 0 now = true) := z0
     clear z0
     refine (lin_lit ps 0 now true y0.out _).mono ?_
     rintro r w3 ⟨rfl, hw⟩
     obtain rfl := hw.symm
     clear hw
     go_wp2_with fail
     refine (lin_any pq 1 sq _).mono ?_
     rintro r w4 ⟨rfl, hw⟩
     obtain rfl := hw.symm
     clear hw
     go_wp2
     go_ret
     exact ⟨ret_bool (by rw [hst'.out, y0.out]; simp [e1]), b2⟩
end Go.Proofs.YtgcdcfjaeehnbaaGreat
