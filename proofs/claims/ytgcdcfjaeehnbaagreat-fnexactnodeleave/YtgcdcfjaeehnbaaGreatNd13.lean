/- Nodes, the model's way: what is known of other sites. -/
import Derived.Test.YtgcdcfjaeehnbaaGreatNd11
import Derived.Test.YtgcdcfjaeehnbaaGreatNd12
import Derived.Test.YtgcdcfjaeehnbaaGreatInts
namespace Go.Proofs.YtgcdcfjaeehnbaaGreat
open Go.ChangeShapes Go.WideShapes Go.ChangeAt Go.RowKit
set_option maxRecDepth 20000
set_option maxHeartbeats 8000000
attribute [local go_sem ↓] Go.wp_at_zero Go.wp_at_succ
def s43_5 : List Stp := [⟨some 17, .fieldAddr 123 (.tmp 4) 0, 0, none, 0⟩, ⟨some 18, .load 3 (.tmp 17), 3, none, 0⟩, ⟨some 19, .call { callee := .value (.func 78), args := #[.tmp 18, .const (.int .i64 0), .const (.int .i64 1)], argTypes := #[3, 3, 3] }, 4, none, 1⟩, ⟨some 20, .unOp .not 4 (.tmp 19), 4, none, 0⟩, ⟨some 21, .move (.tmp 20), 4, none, 0⟩, ⟨some 22, .fieldAddr 123 (.tmp 4) 0, 0, some (21, false), 0⟩, ⟨some 23, .load 3 (.tmp 22), 3, some (21, false), 0⟩, ⟨some 24, .fieldAddr 42 (.tmp 1) 0, 0, some (21, false), 0⟩, ⟨some 25, .load 3 (.tmp 24), 3, some (21, false), 0⟩, ⟨some 26, .call { callee := .value (.func 81), args := #[.tmp 25], argTypes := #[3] }, 3, some (21, false), 1⟩, ⟨some 27, .binOp .eql 3 (.tmp 23) (.tmp 26) 3, 4, some (21, false), 2⟩, ⟨some 28, .pick (.tmp 21) (.const (.bool true)) (.tmp 27), 4, none, 0⟩, ⟨some 29, .move (.tmp 28), 4, none, 0⟩, ⟨some 30, .move (.tmp 3), 3, some (29, false), 0⟩, ⟨some 31, .binOp .gtr 3 (.tmp 30) (.const (.int .i64 0)) 3, 4, some (29, false), 2⟩, ⟨some 32, .move (.tmp 31), 4, some (29, false), 0⟩, ⟨some 33, .fieldAddr 42 (.tmp 1) 14, 0, some (32, true), 0⟩, ⟨some 34, .load 40 (.tmp 33), 40, some (32, true), 0⟩, ⟨some 35, .move (.tmp 3), 3, some (32, true), 0⟩, ⟨some 36, .binOp .sub 3 (.tmp 35) (.const (.int .i64 1)) 3, 3, some (32, true), 0⟩, ⟨some 37, .indexAddr 40 (.tmp 34) (.tmp 36), 0, some (32, true), 0⟩, ⟨some 38, .fieldAddr 123 (.tmp 37) 0, 0, some (32, true), 0⟩, ⟨some 39, .load 3 (.tmp 38), 3, some (32, true), 0⟩, ⟨some 40, .fieldAddr 123 (.tmp 4) 0, 0, some (32, true), 0⟩, ⟨some 41, .load 3 (.tmp 40), 3, some (32, true), 0⟩, ⟨some 42, .binOp .geq 3 (.tmp 39) (.tmp 41) 3, 4, some (32, true), 2⟩, ⟨some 43, .pick (.tmp 32) (.tmp 42) (.const (.bool false)), 4, some (29, false), 0⟩, ⟨some 44, .pick (.tmp 29) (.const (.bool true)) (.tmp 43), 4, none, 0⟩, ⟨some 45, .move (.tmp 44), 4, none, 0⟩, ⟨some 46, .fieldAddr 123 (.tmp 4) 1, 0, some (45, false), 0⟩, ⟨some 47, .load 34 (.tmp 46), 34, some (45, false), 0⟩, ⟨some 48, .call { callee := .builtin .len, args := #[.tmp 47], argTypes := #[34] }, 3, some (45, false), 0⟩, ⟨some 49, .binOp .eql 3 (.tmp 48) (.const (.int .i64 0)) 3, 4, some (45, false), 2⟩, ⟨some 50, .pick (.tmp 45) (.const (.bool true)) (.tmp 49), 4, none, 0⟩, ⟨some 51, .move (.tmp 50), 4, none, 0⟩, ⟨some 52, .fieldAddr 123 (.tmp 4) 1, 0, some (51, false), 0⟩, ⟨some 53, .load 34 (.tmp 52), 34, some (51, false), 0⟩, ⟨some 54, .call { callee := .value (.func 79), args := #[.tmp 53], argTypes := #[34] }, 4, some (51, false), 1⟩, ⟨some 55, .unOp .not 4 (.tmp 54), 4, some (51, false), 0⟩, ⟨some 56, .pick (.tmp 51) (.const (.bool true)) (.tmp 55), 4, none, 0⟩, ⟨some 57, .move (.tmp 56), 4, none, 0⟩, ⟨some 58, .fieldAddr 123 (.tmp 4) 1, 0, some (57, false), 0⟩, ⟨some 59, .load 34 (.tmp 58), 34, some (57, false), 0⟩, ⟨some 60, .fieldAddr 123 (.tmp 4) 0, 0, some (57, false), 0⟩, ⟨some 61, .load 3 (.tmp 60), 3, some (57, false), 0⟩, ⟨some 62, .call { callee := .value (.func 80), args := #[.tmp 59, .tmp 61], argTypes := #[34, 3] }, 4, some (57, false), 1⟩, ⟨some 63, .unOp .not 4 (.tmp 62), 4, some (57, false), 0⟩, ⟨some 64, .pick (.tmp 57) (.const (.bool true)) (.tmp 63), 4, none, 0⟩]
def t43_5 : List (Nat × Nat) := [(0, 0), (1, 0), (2, 1), (3, 0), (4, 0), (5, 0), (6, 0), (7, 0), (8, 0), (9, 1), (10, 2), (11, 0), (12, 0), (13, 0), (14, 2), (15, 0), (16, 0), (17, 0), (18, 0), (19, 0), (20, 0), (21, 0), (22, 0), (23, 0), (24, 0), (25, 2), (26, 0), (27, 0), (28, 0), (29, 0), (30, 0), (31, 0), (32, 2), (33, 0), (34, 0), (35, 0), (36, 0), (37, 1), (38, 0), (39, 0), (40, 0), (41, 0), (42, 0), (43, 0), (44, 0), (45, 1), (46, 0), (47, 0)]
theorem oths_no {me : Int} {len : Nat} {G : Nat → Fg} {k : Nat} (hk : k < len) (h : othB me (G k).n (G k).bl (G k).bf = false ∨ (0 < k ∧ ¬ (G (k - 1)).n < (G k).n)) : othsB me len G = false := by
 unfold othsB Fgasc risB otA
 rw [Bool.and_eq_false_iff]
 rcases h with h | ⟨h0, h⟩
 ·exact .inr (decide_eq_false fun q => by have := q k hk; rw [h] at this; cases this)
 ·exact .inl (decide_eq_false fun q => h (q k hk h0))
theorem soths_any (me : Int) (up gone gate : Bool) (inc now sq turn : Int) (ta : Option Addr) (tl tc : Nat) (ca : Option Addr) (cl cc : Nat) (pn ps pq : Int) (pa : Bool) (da : Option Addr) (dl dc : Nat) (cx cy ch ce : Int) (pla : Option Addr) (pll plc : Nat) (oa : Option Addr) (ol oc : Nat) (G : Nat → Fg) (w : World) (hG : FgSl w oa ol G) (hm : ol ≤ 1048576) (hB : FgB w ol G) :
  Calls Tryz.prog 88 #[.agg #[.int .i64 me, .bool up, .bool gone, .bool gate, .int .i64 inc, .int .i64 now, .int .i64 sq, .int .i64 turn, .slice ta tl tc, .slice ca cl cc, .int .i64 pn, .int .i64 ps, .int .i64 pq, .bool pa, .slice da dl dc, .int .i64 cx, .int .i64 cy, .int .i64 ch, .int .i64 ce, .slice pla pll plc, .slice oa ol oc]] w fun r w' => r = .returned (.bool (othsB me ol G)) ∧ Below w.heap.size w w' := by
 go_enter Tryz.func88, Tryz.ntmps88
 go_upto_region 1 with fail
 generalize hu : w.alloc (.cells _ _) = u
 obtain ⟨X, b0⟩ := box1 hu
 clear hu
 have hG' := hG.below b0
 have hB' := hB.below b0
 have d0 := X.c 0 (.int .i64 me) rfl
 have d20 := X.c 20 (.slice oa ol oc) rfl
 clear X hG hB
 obtain ⟨sm, hsm⟩ : ∃ sm, Hid (ste me = sm) := ⟨_, rfl⟩
 go_wp2
 go_loopw [3] (fun i wr => ∃ k : Nat, k ≤ ol ∧ i = .int .i64 k ∧ Below u.heap.size u wr ∧ (∀ j, j < k → othB me (G j).n (G j).bl (G j).bf = true) ∧ (∀ j, j < k → 0 < j → (G (j - 1)).n < (G j).n)) (fun i _ => ol - (intOf i).toNat)
 case atStart => exact ⟨0, by omega, rfl, Below.refl _ _, fun j h1 => by omega, fun j h1 => by omega⟩
 case round =>
  obtain ⟨k, hk, rfl, hb, hall, hasc⟩ := hrel
  have f0 := keep_below hb d0
  have f20 := keep_below hb d20
  by_cases hlt : k < ol
  ·obtain ⟨b, off, rfl, hbl, hf⟩ := hG' (by omega)
   obtain ⟨c0, c1⟩ := (hf.below hb hbl) k hlt
   have hS := (hB' k hlt).1.below hb
   have hbl' := (hB' k hlt).2
   have hso : Hid (othB me (G k).n (G k).bl (G k).bf = (inb (G k).n 0 1 && decide ((G k).n ≠ ste me) && decide (0 < (G k).bl) && tokB (G k).bl (G k).bf && sitB (G k).bl (G k).bf (G k).n)) := rfl
   obtain ⟨n, hn⟩ : ∃ n, Hid ((G k).n = n) := ⟨_, rfl⟩
   obtain ⟨ba, hba⟩ : ∃ n, Hid ((G k).ba = n) := ⟨_, rfl⟩
   obtain ⟨bl, hbl2⟩ : ∃ n, Hid ((G k).bl = n) := ⟨_, rfl⟩
   obtain ⟨bc, hbc⟩ : ∃ n, Hid ((G k).bc = n) := ⟨_, rfl⟩
   obtain ⟨bf, hbf⟩ : ∃ n, Hid ((G k).bf = n) := ⟨_, rfl⟩
   rw [hn.out, hbl2.out, hbf.out] at hso
   rw [hn.out] at c0
   rw [hba.out, hbl2.out, hbc.out] at c1
   rw [hba.out, hbl2.out, hbf.out] at hS
   rw [hbl2.out] at hbl'
   have i0 : (0 : Int) ≤ (k : Int) := by omega
   have i1 : (k : Int) < (ol : Int) := by omega
   have b2 := balloc (.cells #[.int .i64 n, .slice ba bl bc] 123) hb
   have Y := Ws.box (w := wr) #[.int .i64 n, .slice ba bl bc] 123
   have g0 := keep_alloc (.cells #[.int .i64 n, .slice ba bl bc] 123) f0
   have g20 := keep_alloc (.cells #[.int .i64 n, .slice ba bl bc] 123) f20
   have q3 := hS.below (balloc (.cells #[.int .i64 n, .slice ba bl bc] 123) (Below.refl wr.heap.size wr))
   rcases Nat.eq_zero_or_pos k with h0 | h0
   ·subst h0
    simp only [Nat.zero_mul, Nat.add_zero] at c0 c1
    go_upto_region 5 with fail
    generalize wr.alloc (.cells #[.int .i64 n, .slice ba bl bc] 123) = v at *
    generalize wr.heap.size = K2 at *
    have q1 := Y.c 0 (.int .i64 n) rfl
    have q2 := Y.c 1 (.slice ba bl bc) rfl
    clear Y c0 c1 f0 f20 hS
    cases z1 : inb n 0 1
    ·have y1 : Hid (inb n 0 1 = false) := z1
     clear z1
     refine wp_region_q s43_5 t43_5 (fun hbq => ?_)
     refine qY ?_
     refine qL ?_
     refine qJ (lin_lit n 0 1 false y1.out _) hbq ?_
     iterate 2 refine qY ?_
     iterate 6 refine qN ?_
     iterate 2 refine qY ?_
     iterate 14 refine qN ?_
     iterate 2 refine qY ?_
     iterate 4 refine qN ?_
     iterate 2 refine qY ?_
     iterate 4 refine qN ?_
     iterate 2 refine qY ?_
     iterate 6 refine qN ?_
     refine qY ?_
     refine qE ?_
     go_wp2
     go_ret
     exact ⟨ret_bool (oths_no hlt (.inl (by rw [hn.out, hbl2.out, hbf.out, hso.out, y1.out]; rfl))).symm, btrans b0 (btrans b2 hbq)⟩
    ·have y1 : Hid (inb n 0 1 = true) := z1
     clear z1
     by_cases e0 : n = sm
     ·subst e0
      refine wp_region_q s43_5 t43_5 (fun hbq => ?_)
      refine qY ?_
      refine qL ?_
      refine qJ (lin_lit n 0 1 true y1.out _) hbq ?_
      iterate 3 refine qY ?_
      refine qL ?_
      refine qY ?_
      refine qL ?_
      refine qJ (lsite_any me _) hbq ?_; rw [hsm.out]
      refine qV (.bool true) ?_
      iterate 2 refine qY ?_
      iterate 14 refine qN ?_
      iterate 2 refine qY ?_
      iterate 4 refine qN ?_
      iterate 2 refine qY ?_
      iterate 4 refine qN ?_
      iterate 2 refine qY ?_
      iterate 6 refine qN ?_
      refine qY ?_
      refine qE ?_
      go_wp2
      go_ret
      exact ⟨ret_bool (oths_no hlt (.inl (by rw [hn.out, hbl2.out, hbf.out, hso.out, hsm.out]; simp))).symm, btrans b0 (btrans b2 hbq)⟩
     ·have e0' : (n == sm) = false := by simpa using e0
      by_cases e3 : bl = 0
      ·have y3 : Hid (bl = 0) := e3
       clear e3
       refine wp_region_q s43_5 t43_5 (fun hbq => ?_)
       refine qY ?_
       refine qL ?_
       refine qJ (lin_lit n 0 1 true y1.out _) hbq ?_
       iterate 3 refine qY ?_
       refine qL ?_
       refine qY ?_
       refine qL ?_
       refine qJ (lsite_any me _) hbq ?_; rw [hsm.out]
       refine qV (.bool false) ?_
       iterate 3 refine qY ?_
       refine qV (.bool false) ?_
       refine qY ?_
       iterate 10 refine qN ?_
       iterate 4 refine qY ?_
       refine qL ?_
       refine qY ?_
       refine qV (.bool true) ?_ (by (intro w; go_simp; all_goals (first | with_reducible rfl | (simp [y3.out]; done) | assumption | (simp; done) | (simp; omega))))
       iterate 2 refine qY ?_
       iterate 4 refine qN ?_
       iterate 2 refine qY ?_
       iterate 6 refine qN ?_
       refine qY ?_
       refine qE ?_
       go_wp2
       go_ret
       exact ⟨ret_bool (oths_no hlt (.inl (by rw [hn.out, hbl2.out, hbf.out, hso.out, y3.out]; simp))).symm, btrans b0 (btrans b2 hbq)⟩
      ·skip
       cases z4 : tokB bl bf
       ·have y4 : Hid (tokB bl bf = false) := z4
        clear z4
        refine wp_region_q s43_5 t43_5 (fun hbq => ?_)
        refine qY ?_
        refine qL ?_
        refine qJ (lin_lit n 0 1 true y1.out _) hbq ?_
        iterate 3 refine qY ?_
        refine qL ?_
        refine qY ?_
        refine qL ?_
        refine qJ (lsite_any me _) hbq ?_; rw [hsm.out]
        refine qV (.bool false) ?_
        iterate 3 refine qY ?_
        refine qV (.bool false) ?_
        refine qY ?_
        iterate 10 refine qN ?_
        iterate 4 refine qY ?_
        refine qL ?_
        refine qY ?_
        refine qV (.bool false) ?_
        iterate 3 refine qY ?_
        refine qL ?_
        refine qK (stok_lit ba bl bc bf false _ (q3.below hbq) hbl' y4.out) hbq (fun w4 hbq => ?_)
        iterate 3 refine qY ?_
        iterate 6 refine qN ?_
        refine qY ?_
        refine qE ?_
        go_wp2
        go_ret
        exact ⟨ret_bool (oths_no hlt (.inl (by rw [hn.out, hbl2.out, hbf.out, hso.out, y4.out]; simp))).symm, btrans b0 (btrans b2 hbq)⟩
       ·have y4 : Hid (tokB bl bf = true) := z4
        clear z4
        cases z5 : sitB bl bf n
        ·have y5 : Hid (sitB bl bf n = false) := z5
         clear z5
         refine wp_region_q s43_5 t43_5 (fun hbq => ?_)
         refine qY ?_
         refine qL ?_
         refine qJ (lin_lit n 0 1 true y1.out _) hbq ?_
         iterate 3 refine qY ?_
         refine qL ?_
         refine qY ?_
         refine qL ?_
         refine qJ (lsite_any me _) hbq ?_; rw [hsm.out]
         refine qV (.bool false) ?_
         iterate 3 refine qY ?_
         refine qV (.bool false) ?_
         refine qY ?_
         iterate 10 refine qN ?_
         iterate 4 refine qY ?_
         refine qL ?_
         refine qY ?_
         refine qV (.bool false) ?_
         iterate 3 refine qY ?_
         refine qL ?_
         refine qK (stok_lit ba bl bc bf true _ (q3.below hbq) hbl' y4.out) hbq (fun w4 hbq => ?_)
         iterate 4 refine qY ?_
         refine qL ?_
         refine qY ?_
         refine qL ?_
         refine qK (ssite_lit ba bl bc bf n false y5.out _ (q3.below hbq) hbl') hbq (fun w5 hbq => ?_)
         iterate 2 refine qY ?_
         refine qE ?_
         go_wp2
         go_ret
         exact ⟨ret_bool (oths_no hlt (.inl (by rw [hn.out, hbl2.out, hbf.out, hso.out, y5.out]; simp))).symm, btrans b0 (btrans b2 hbq)⟩
        ·have y5 : Hid (sitB bl bf n = true) := z5
         clear z5
         refine wp_region_q s43_5 t43_5 (fun hbq => ?_)
         refine qY ?_
         refine qL ?_
         refine qJ (lin_lit n 0 1 true y1.out _) hbq ?_
         iterate 3 refine qY ?_
         refine qL ?_
         refine qY ?_
         refine qL ?_
         refine qJ (lsite_any me _) hbq ?_; rw [hsm.out]
         refine qV (.bool false) ?_
         iterate 3 refine qY ?_
         refine qV (.bool false) ?_
         refine qY ?_
         iterate 10 refine qN ?_
         iterate 4 refine qY ?_
         refine qL ?_
         refine qY ?_
         refine qV (.bool false) ?_
         iterate 3 refine qY ?_
         refine qL ?_
         refine qK (stok_lit ba bl bc bf true _ (q3.below hbq) hbl' y4.out) hbq (fun w4 hbq => ?_)
         iterate 4 refine qY ?_
         refine qL ?_
         refine qY ?_
         refine qL ?_
         refine qK (ssite_lit ba bl bc bf n true y5.out _ (q3.below hbq) hbl') hbq (fun w5 hbq => ?_)
         iterate 2 refine qY ?_
         refine qE ?_
         go_wp2
         go_roundw
         case rel => exact ⟨0 + 1, by omega, by go_num, (btrans b2 hbq), fun j hj => by
           by_cases e : j = 0
           ·subst e; rw [hn.out, hbl2.out, hbf.out, hso.out, y1.out, y4.out, y5.out, hsm.out]; simp [e0]; omega
           ·exact hall j (by omega), fun j hj h0 => by
           by_cases e : j = 0
           ·omega
           ·exact hasc j (by omega) h0⟩
         case measure => simp [intOf]; omega
   ·obtain ⟨m, rfl⟩ : ∃ m, k = m + 1 := ⟨k - 1, by omega⟩
    obtain ⟨p0, _⟩ := (hf.below b2 hbl) m (by omega)
    obtain ⟨n0, hn0⟩ : ∃ n0, Hid ((G m).n = n0) := ⟨_, rfl⟩
    rw [hn0.out] at p0
    have i2 : (0 : Int) ≤ (m : Int) := by omega
    have i3 : (m : Int) + 1 < (ol : Int) := by omega
    have i4 : (m : Int) < (ol : Int) := by omega
    have i5 : (0 : Int) ≤ (m : Int) + 1 := by omega
    have i6 : (0 : Int) < (m : Int) + 1 := by omega
    have i7 : IntKind.i64.wrap (m : Int) = (m : Int) := by rw [IntKind.wrap_i64]; omega
    have i8 : IntKind.i64.wrap ((m : Int) + 1 - 1) = (m : Int) := by rw [IntKind.wrap_i64]; omega
    have e1 : ((m + 1 : Nat) : Int) = (m : Int) + 1 := by omega
    clear i0 i1
    rw [e1]
    go_upto_region 5 with fail
    generalize wr.alloc (.cells #[.int .i64 n, .slice ba bl bc] 123) = v at *
    generalize wr.heap.size = K2 at *
    have q1 := Y.c 0 (.int .i64 n) rfl
    have q2 := Y.c 1 (.slice ba bl bc) rfl
    clear Y c0 c1 f0 f20 hS
    cases z1 : inb n 0 1
    ·have y1 : Hid (inb n 0 1 = false) := z1
     clear z1
     refine wp_region_q s43_5 t43_5 (fun hbq => ?_)
     refine qY ?_
     refine qL ?_
     refine qJ (lin_lit n 0 1 false y1.out _) hbq ?_
     iterate 2 refine qY ?_
     iterate 6 refine qN ?_
     iterate 2 refine qY ?_
     iterate 14 refine qN ?_
     iterate 2 refine qY ?_
     iterate 4 refine qN ?_
     iterate 2 refine qY ?_
     iterate 4 refine qN ?_
     iterate 2 refine qY ?_
     iterate 6 refine qN ?_
     refine qY ?_
     refine qE ?_
     go_wp2
     go_ret
     exact ⟨ret_bool (oths_no hlt (.inl (by rw [hn.out, hbl2.out, hbf.out, hso.out, y1.out]; rfl))).symm, btrans b0 (btrans b2 hbq)⟩
    ·have y1 : Hid (inb n 0 1 = true) := z1
     clear z1
     by_cases e0 : n = sm
     ·subst e0
      refine wp_region_q s43_5 t43_5 (fun hbq => ?_)
      refine qY ?_
      refine qL ?_
      refine qJ (lin_lit n 0 1 true y1.out _) hbq ?_
      iterate 3 refine qY ?_
      refine qL ?_
      refine qY ?_
      refine qL ?_
      refine qJ (lsite_any me _) hbq ?_; rw [hsm.out]
      refine qV (.bool true) ?_
      iterate 2 refine qY ?_
      iterate 14 refine qN ?_
      iterate 2 refine qY ?_
      iterate 4 refine qN ?_
      iterate 2 refine qY ?_
      iterate 4 refine qN ?_
      iterate 2 refine qY ?_
      iterate 6 refine qN ?_
      refine qY ?_
      refine qE ?_
      go_wp2
      go_ret
      exact ⟨ret_bool (oths_no hlt (.inl (by rw [hn.out, hbl2.out, hbf.out, hso.out, hsm.out]; simp))).symm, btrans b0 (btrans b2 hbq)⟩
     ·have e0' : (n == sm) = false := by simpa using e0
      by_cases e2 : n ≤ n0
      ·skip
       refine wp_region_q s43_5 t43_5 (fun hbq => ?_)
       refine qY ?_
       refine qL ?_
       refine qJ (lin_lit n 0 1 true y1.out _) hbq ?_
       iterate 3 refine qY ?_
       refine qL ?_
       refine qY ?_
       refine qL ?_
       refine qJ (lsite_any me _) hbq ?_; rw [hsm.out]
       refine qV (.bool false) ?_
       iterate 3 refine qY ?_
       refine qV (.bool true) ?_
       iterate 2 refine qY ?_
       refine qL ?_
       iterate 4 refine qY ?_
       refine qL ?_
       refine qY ?_
       refine qL ?_
       refine qV (.bool true) ?_
       iterate 3 refine qY ?_
       iterate 4 refine qN ?_
       iterate 2 refine qY ?_
       iterate 4 refine qN ?_
       iterate 2 refine qY ?_
       iterate 6 refine qN ?_
       refine qY ?_
       refine qE ?_
       go_wp2
       go_ret
       exact ⟨ret_bool (oths_no hlt (.inr ⟨by omega, by rw [hn.out, Nat.add_sub_cancel, hn0.out]; omega⟩)).symm, btrans b0 (btrans b2 hbq)⟩
      ·skip
       by_cases e3 : bl = 0
       ·have y3 : Hid (bl = 0) := e3
        clear e3
        refine wp_region_q s43_5 t43_5 (fun hbq => ?_)
        refine qY ?_
        refine qL ?_
        refine qJ (lin_lit n 0 1 true y1.out _) hbq ?_
        iterate 3 refine qY ?_
        refine qL ?_
        refine qY ?_
        refine qL ?_
        refine qJ (lsite_any me _) hbq ?_; rw [hsm.out]
        refine qV (.bool false) ?_
        iterate 3 refine qY ?_
        refine qV (.bool true) ?_
        iterate 2 refine qY ?_
        refine qL ?_
        iterate 4 refine qY ?_
        refine qL ?_
        refine qY ?_
        refine qL ?_
        refine qV (.bool false) ?_
        iterate 4 refine qY ?_
        refine qL ?_
        refine qY ?_
        refine qV (.bool true) ?_ (by (intro w; go_simp; all_goals (first | with_reducible rfl | (simp [y3.out]; done) | assumption | (simp; done) | (simp; omega))))
        iterate 2 refine qY ?_
        iterate 4 refine qN ?_
        iterate 2 refine qY ?_
        iterate 6 refine qN ?_
        refine qY ?_
        refine qE ?_
        go_wp2
        go_ret
        exact ⟨ret_bool (oths_no hlt (.inl (by rw [hn.out, hbl2.out, hbf.out, hso.out, y3.out]; simp))).symm, btrans b0 (btrans b2 hbq)⟩
       ·skip
        cases z4 : tokB bl bf
        ·have y4 : Hid (tokB bl bf = false) := z4
         clear z4
         refine wp_region_q s43_5 t43_5 (fun hbq => ?_)
         refine qY ?_
         refine qL ?_
         refine qJ (lin_lit n 0 1 true y1.out _) hbq ?_
         iterate 3 refine qY ?_
         refine qL ?_
         refine qY ?_
         refine qL ?_
         refine qJ (lsite_any me _) hbq ?_; rw [hsm.out]
         refine qV (.bool false) ?_
         iterate 3 refine qY ?_
         refine qV (.bool true) ?_
         iterate 2 refine qY ?_
         refine qL ?_
         iterate 4 refine qY ?_
         refine qL ?_
         refine qY ?_
         refine qL ?_
         refine qV (.bool false) ?_
         iterate 4 refine qY ?_
         refine qL ?_
         refine qY ?_
         refine qV (.bool false) ?_
         iterate 3 refine qY ?_
         refine qL ?_
         refine qK (stok_lit ba bl bc bf false _ (q3.below hbq) hbl' y4.out) hbq (fun w4 hbq => ?_)
         iterate 3 refine qY ?_
         iterate 6 refine qN ?_
         refine qY ?_
         refine qE ?_
         go_wp2
         go_ret
         exact ⟨ret_bool (oths_no hlt (.inl (by rw [hn.out, hbl2.out, hbf.out, hso.out, y4.out]; simp))).symm, btrans b0 (btrans b2 hbq)⟩
        ·have y4 : Hid (tokB bl bf = true) := z4
         clear z4
         cases z5 : sitB bl bf n
         ·have y5 : Hid (sitB bl bf n = false) := z5
          clear z5
          refine wp_region_q s43_5 t43_5 (fun hbq => ?_)
          refine qY ?_
          refine qL ?_
          refine qJ (lin_lit n 0 1 true y1.out _) hbq ?_
          iterate 3 refine qY ?_
          refine qL ?_
          refine qY ?_
          refine qL ?_
          refine qJ (lsite_any me _) hbq ?_; rw [hsm.out]
          refine qV (.bool false) ?_
          iterate 3 refine qY ?_
          refine qV (.bool true) ?_
          iterate 2 refine qY ?_
          refine qL ?_
          iterate 4 refine qY ?_
          refine qL ?_
          refine qY ?_
          refine qL ?_
          refine qV (.bool false) ?_
          iterate 4 refine qY ?_
          refine qL ?_
          refine qY ?_
          refine qV (.bool false) ?_
          iterate 3 refine qY ?_
          refine qL ?_
          refine qK (stok_lit ba bl bc bf true _ (q3.below hbq) hbl' y4.out) hbq (fun w4 hbq => ?_)
          iterate 4 refine qY ?_
          refine qL ?_
          refine qY ?_
          refine qL ?_
          refine qK (ssite_lit ba bl bc bf n false y5.out _ (q3.below hbq) hbl') hbq (fun w5 hbq => ?_)
          iterate 2 refine qY ?_
          refine qE ?_
          go_wp2
          go_ret
          exact ⟨ret_bool (oths_no hlt (.inl (by rw [hn.out, hbl2.out, hbf.out, hso.out, y5.out]; simp))).symm, btrans b0 (btrans b2 hbq)⟩
         ·have y5 : Hid (sitB bl bf n = true) := z5
          clear z5
          refine wp_region_q s43_5 t43_5 (fun hbq => ?_)
          refine qY ?_
          refine qL ?_
          refine qJ (lin_lit n 0 1 true y1.out _) hbq ?_
          iterate 3 refine qY ?_
          refine qL ?_
          refine qY ?_
          refine qL ?_
          refine qJ (lsite_any me _) hbq ?_; rw [hsm.out]
          refine qV (.bool false) ?_
          iterate 3 refine qY ?_
          refine qV (.bool true) ?_
          iterate 2 refine qY ?_
          refine qL ?_
          iterate 4 refine qY ?_
          refine qL ?_
          refine qY ?_
          refine qL ?_
          refine qV (.bool false) ?_
          iterate 4 refine qY ?_
          refine qL ?_
          refine qY ?_
          refine qV (.bool false) ?_
          iterate 3 refine qY ?_
          refine qL ?_
          refine qK (stok_lit ba bl bc bf true _ (q3.below hbq) hbl' y4.out) hbq (fun w4 hbq => ?_)
          iterate 4 refine qY ?_
          refine qL ?_
          refine qY ?_
          refine qL ?_
          refine qK (ssite_lit ba bl bc bf n true y5.out _ (q3.below hbq) hbl') hbq (fun w5 hbq => ?_)
          iterate 2 refine qY ?_
          refine qE ?_
          go_wp2
          go_roundw
          case rel => exact ⟨(m + 1) + 1, by omega, by go_num, (btrans b2 hbq), fun j hj => by
            by_cases e : j = (m + 1)
            ·subst e; rw [hn.out, hbl2.out, hbf.out, hso.out, y1.out, y4.out, y5.out, hsm.out]; simp [e0]; omega
            ·exact hall j (by omega), fun j hj h0 => by
            by_cases e : j = (m + 1)
            ·subst e; rw [Nat.add_sub_cancel, hn.out, hn0.out]; omega
            ·exact hasc j (by omega) h0⟩
          case measure => simp [intOf]; omega
  ·go_wp2
   go_ret
   refine ⟨ret_bool ?_, btrans b0 hb⟩
   unfold othsB Fgasc risB otA
   rw [decide_eq_true fun j hj => hall j (by omega), decide_eq_true fun j hj h0 => hasc j (by omega) h0]
   rfl
end Go.Proofs.YtgcdcfjaeehnbaaGreat
