/- Nodes, the model's way: places. -/
import Derived.Test.YtgcdcfjaeehnbaaGreatNd9
import Derived.Test.YtgcdcfjaeehnbaaGreatNd12
import Derived.Test.YtgcdcfjaeehnbaaGreatInts
namespace Go.Proofs.YtgcdcfjaeehnbaaGreat
open Go.ChangeShapes Go.WideShapes Go.ChangeAt Go.RowKit
set_option maxRecDepth 20000
set_option maxHeartbeats 8000000
attribute [local go_sem ↓] Go.wp_at_zero Go.wp_at_succ
def s42_5 : List Stp := [⟨some 18, .fieldAddr 103 (.tmp 4) 0, 0, none, 0⟩, ⟨some 19, .load 3 (.tmp 18), 3, none, 0⟩, ⟨some 20, .call { callee := .value (.func 78), args := #[.tmp 19, .const (.int .i64 0), .const (.int .i64 7)], argTypes := #[3, 3, 3] }, 4, none, 1⟩, ⟨some 21, .unOp .not 4 (.tmp 20), 4, none, 0⟩, ⟨some 22, .move (.tmp 21), 4, none, 0⟩, ⟨some 23, .fieldAddr 103 (.tmp 4) 0, 0, some (22, false), 0⟩, ⟨some 24, .load 3 (.tmp 23), 3, some (22, false), 0⟩, ⟨some 26, .fieldAddr 42 (.tmp 1) 0, 0, some (22, false), 0⟩, ⟨some 27, .load 3 (.tmp 26), 3, some (22, false), 0⟩, ⟨some 25, .call { callee := .value (.func 81), args := #[.tmp 24], argTypes := #[3] }, 3, some (22, false), 1⟩, ⟨some 28, .call { callee := .value (.func 81), args := #[.tmp 27], argTypes := #[3] }, 3, some (22, false), 1⟩, ⟨some 29, .binOp .neq 3 (.tmp 25) (.tmp 28) 3, 4, some (22, false), 2⟩, ⟨some 30, .pick (.tmp 22) (.const (.bool true)) (.tmp 29), 4, none, 0⟩, ⟨some 31, .move (.tmp 30), 4, none, 0⟩, ⟨some 32, .fieldAddr 103 (.tmp 4) 0, 0, some (31, false), 0⟩, ⟨some 33, .load 3 (.tmp 32), 3, some (31, false), 0⟩, ⟨some 34, .fieldAddr 42 (.tmp 1) 0, 0, some (31, false), 0⟩, ⟨some 35, .load 3 (.tmp 34), 3, some (31, false), 0⟩, ⟨some 36, .binOp .eql 3 (.tmp 33) (.tmp 35) 3, 4, some (31, false), 2⟩, ⟨some 37, .pick (.tmp 31) (.const (.bool true)) (.tmp 36), 4, none, 0⟩, ⟨some 38, .move (.tmp 37), 4, none, 0⟩, ⟨some 39, .move (.tmp 3), 3, some (38, false), 0⟩, ⟨some 40, .binOp .gtr 3 (.tmp 39) (.const (.int .i64 0)) 3, 4, some (38, false), 2⟩, ⟨some 41, .move (.tmp 40), 4, some (38, false), 0⟩, ⟨some 42, .fieldAddr 42 (.tmp 1) 13, 0, some (41, true), 0⟩, ⟨some 43, .load 39 (.tmp 42), 39, some (41, true), 0⟩, ⟨some 44, .move (.tmp 3), 3, some (41, true), 0⟩, ⟨some 45, .binOp .sub 3 (.tmp 44) (.const (.int .i64 1)) 3, 3, some (41, true), 0⟩, ⟨some 46, .indexAddr 39 (.tmp 43) (.tmp 45), 0, some (41, true), 0⟩, ⟨some 47, .fieldAddr 103 (.tmp 46) 0, 0, some (41, true), 0⟩, ⟨some 48, .load 3 (.tmp 47), 3, some (41, true), 0⟩, ⟨some 49, .fieldAddr 103 (.tmp 4) 0, 0, some (41, true), 0⟩, ⟨some 50, .load 3 (.tmp 49), 3, some (41, true), 0⟩, ⟨some 51, .binOp .geq 3 (.tmp 48) (.tmp 50) 3, 4, some (41, true), 2⟩, ⟨some 52, .pick (.tmp 41) (.tmp 51) (.const (.bool false)), 4, some (38, false), 0⟩, ⟨some 53, .pick (.tmp 38) (.const (.bool true)) (.tmp 52), 4, none, 0⟩, ⟨some 54, .move (.tmp 53), 4, none, 0⟩, ⟨some 55, .fieldAddr 103 (.tmp 4) 1, 0, some (54, false), 0⟩, ⟨some 56, .load 38 (.tmp 55), 38, some (54, false), 0⟩, ⟨some 57, .call { callee := .value (.func 86), args := #[.tmp 56], argTypes := #[38] }, 4, some (54, false), 1⟩, ⟨some 58, .unOp .not 4 (.tmp 57), 4, some (54, false), 0⟩, ⟨some 59, .pick (.tmp 54) (.const (.bool true)) (.tmp 58), 4, none, 0⟩, ⟨some 60, .move (.tmp 59), 4, none, 0⟩, ⟨some 61, .fieldAddr 103 (.tmp 4) 2, 0, some (60, false), 0⟩, ⟨some 62, .load 54 (.tmp 61), 54, some (60, false), 0⟩, ⟨some 63, .call { callee := .builtin .len, args := #[.tmp 62], argTypes := #[54] }, 3, some (60, false), 0⟩, ⟨some 64, .call { callee := .value (.func 78), args := #[.tmp 63, .const (.int .i64 1), .const (.int .i64 3)], argTypes := #[3, 3, 3] }, 4, some (60, false), 1⟩, ⟨some 65, .unOp .not 4 (.tmp 64), 4, some (60, false), 0⟩, ⟨some 66, .pick (.tmp 60) (.const (.bool true)) (.tmp 65), 4, none, 0⟩]
def t42_5 : List (Nat × Nat) := [(0, 0), (1, 0), (2, 1), (3, 0), (4, 0), (5, 0), (6, 0), (8, 0), (9, 0), (7, 1), (10, 1), (11, 2), (12, 0), (13, 0), (14, 0), (15, 0), (16, 0), (17, 0), (18, 2), (19, 0), (20, 0), (21, 0), (22, 2), (23, 0), (24, 0), (25, 0), (26, 0), (27, 0), (28, 0), (29, 0), (30, 0), (31, 0), (32, 0), (33, 2), (34, 0), (35, 0), (36, 0), (37, 0), (38, 0), (39, 1), (40, 0), (41, 0), (42, 0), (43, 0), (44, 0), (45, 0), (46, 1), (47, 0), (48, 0)]
theorem plcs_no {me : Int} {len : Nat} {G : Nat → Pl} {k : Nat} (hk : k < len) (h : plcB me (G k).n (G k).x (G k).y (G k).h (G k).e (G k).bl (G k).bf = false ∨ (0 < k ∧ ¬ (G (k - 1)).n < (G k).n)) : plsB me len G = false := by
 unfold plsB Plasc risB plA
 rw [Bool.and_eq_false_iff]
 rcases h with h | ⟨h0, h⟩
 ·exact .inr (decide_eq_false fun q => by have := q k hk; rw [h] at this; cases this)
 ·exact .inl (decide_eq_false fun q => h (q k hk h0))
theorem tr_no {len : Nat} {f : Nat → Int} {k : Nat} (hk : k < len) (h : inb (f k) 1 60000 = false) : trA len f = false := by
 unfold trA
 exact decide_eq_false fun q => by have := q k hk; rw [h] at this; cases this
theorem splcs_any (me : Int) (up gone gate : Bool) (inc now sq turn : Int) (ta : Option Addr) (tl tc : Nat) (ca : Option Addr) (cl cc : Nat) (pn ps pq : Int) (pa : Bool) (da : Option Addr) (dl dc : Nat) (cx cy ch ce : Int) (pla : Option Addr) (pll plc : Nat) (oa : Option Addr) (ol oc : Nat) (G : Nat → Pl) (w : World) (hG : PlSl w pla pll G) (hm : pll ≤ 1048576) (hB : PlB w pll G) :
  Calls Tryz.prog 87 #[.agg #[.int .i64 me, .bool up, .bool gone, .bool gate, .int .i64 inc, .int .i64 now, .int .i64 sq, .int .i64 turn, .slice ta tl tc, .slice ca cl cc, .int .i64 pn, .int .i64 ps, .int .i64 pq, .bool pa, .slice da dl dc, .int .i64 cx, .int .i64 cy, .int .i64 ch, .int .i64 ce, .slice pla pll plc, .slice oa ol oc]] w fun r w' => r = .returned (.bool (plsB me pll G)) ∧ Below w.heap.size w w' := by
 go_enter Tryz.func87, Tryz.ntmps87
 go_upto_region 1 with fail
 generalize hu : w.alloc (.cells _ _) = u
 obtain ⟨X, b0⟩ := box1 hu
 clear hu
 have hG' := hG.below b0
 have hB' := hB.below b0
 have d0 := X.c 0 (.int .i64 me) rfl
 have d19 := X.c 19 (.slice pla pll plc) rfl
 clear X hG hB
 obtain ⟨sm, hsm⟩ : ∃ sm, Hid (ste me = sm) := ⟨_, rfl⟩
 go_wp2
 go_loopw [3, 5] (fun i _ wr => ∃ k : Nat, k ≤ pll ∧ i = .int .i64 k ∧ Below u.heap.size u wr ∧ (∀ j, j < k → plcB me (G j).n (G j).x (G j).y (G j).h (G j).e (G j).bl (G j).bf = true) ∧ (∀ j, j < k → 0 < j → (G (j - 1)).n < (G j).n)) (fun i _ _ => pll - (intOf i).toNat)
 case atStart => exact ⟨0, by omega, rfl, Below.refl _ _, fun j h1 => by omega, fun j h1 => by omega⟩
 case round =>
  obtain ⟨k, hk, rfl, hb, hall, hasc⟩ := hrel
  have f0 := keep_below hb d0
  have f19 := keep_below hb d19
  by_cases hlt : k < pll
  ·obtain ⟨b, off, rfl, hbl, hf⟩ := hG' (by omega)
   obtain ⟨c0, c1, c2, c3, c4, c5⟩ := (hf.below hb hbl) k hlt
   have hS := (hB' k hlt).1.below hb
   have hbl' := (hB' k hlt).2
   have i0 : (0 : Int) ≤ (k : Int) := by omega
   have i1 : (k : Int) < (pll : Int) := by omega
   rcases Nat.eq_zero_or_pos k with h0 | h0
   ·subst h0
    simp only [Nat.zero_mul, Nat.add_zero] at c0 c1 c2 c3 c4 c5
    have hso : Hid (plcB me (G 0).n (G 0).x (G 0).y (G 0).h (G 0).e (G 0).bl (G 0).bf = (mateB me (G 0).n && cok (G 0).x (G 0).y (G 0).h (G 0).e && inb (G 0).bl 1 3 && trA (G 0).bl (G 0).bf)) := rfl
    have hno : Hid (plcB me (G 0).n (G 0).x (G 0).y (G 0).h (G 0).e (G 0).bl (G 0).bf = false ∨ (0 < 0 ∧ ¬ (G (0 - 1)).n < (G 0).n) → plsB me pll G = false) := plcs_no hlt
    have hyes : Hid (plcB me (G 0).n (G 0).x (G 0).y (G 0).h (G 0).e (G 0).bl (G 0).bf = true → ∀ j, j < 0 + 1 → plcB me (G j).n (G j).x (G j).y (G j).h (G j).e (G j).bl (G j).bf = true) := fun e j hj => by
     by_cases ej : j = 0
     ·subst ej; exact e
     ·exact hall j (by omega)
    have hyes2 : Hid ((0 < 0 → (G (0 - 1)).n < (G 0).n) → ∀ j, j < 0 + 1 → 0 < j → (G (j - 1)).n < (G j).n) := fun e j hj h0 => by
     by_cases ej : j = 0
     ·subst ej; exact e h0
     ·exact hasc j (by omega) h0
    clear hall hasc
    generalize G 0 = gx at *
    obtain ⟨n, x, y, h, e, ba, bl, bc, bf⟩ := gx
    dsimp only at c0 c1 c2 c3 c4 c5 hS hbl' hso hno hyes hyes2
    have b2 := balloc (.cells #[.int .i64 n, .int .i64 x, .int .i64 y, .int .i64 h, .int .i64 e, .slice ba bl bc] 103) hb
    have Y := Ws.box (w := wr) #[.int .i64 n, .int .i64 x, .int .i64 y, .int .i64 h, .int .i64 e, .slice ba bl bc] 103
    have g0 := keep_alloc (.cells #[.int .i64 n, .int .i64 x, .int .i64 y, .int .i64 h, .int .i64 e, .slice ba bl bc] 103) f0
    have g19 := keep_alloc (.cells #[.int .i64 n, .int .i64 x, .int .i64 y, .int .i64 h, .int .i64 e, .slice ba bl bc] 103) f19
    have q3 := hS.below (balloc (.cells #[.int .i64 n, .int .i64 x, .int .i64 y, .int .i64 h, .int .i64 e, .slice ba bl bc] 103) (Below.refl wr.heap.size wr))
    go_upto_region 5 with fail
    generalize wr.alloc (.cells #[.int .i64 n, .int .i64 x, .int .i64 y, .int .i64 h, .int .i64 e, .slice ba bl bc] 103) = v at *
    generalize wr.heap.size = K2 at *
    have q10 := Y.c 0 (.int .i64 n) rfl
    have q11 := Y.c 1 (.int .i64 x) rfl
    have q12 := Y.c 2 (.int .i64 y) rfl
    have q13 := Y.c 3 (.int .i64 h) rfl
    have q14 := Y.c 4 (.int .i64 e) rfl
    have q15 := Y.c 5 (.slice ba bl bc) rfl
    have r11 := range4 q11 q12 q13 q14
    clear Y c0 c1 c2 c3 c4 c5 f0 f19 hS
    obtain ⟨sn, hsn⟩ : ∃ sn, Hid (ste n = sn) := ⟨_, rfl⟩
    cases z1 : inb n 0 7
    ·have y1 : Hid (inb n 0 7 = false) := z1
     clear z1
     refine wp_region_q s42_5 t42_5 (fun hbq => ?_)
     refine qY ?_
     refine qL ?_
     refine qJ (lin_lit n 0 7 false y1.out _) hbq ?_
     iterate 2 refine qY ?_
     iterate 7 refine qN ?_
     iterate 2 refine qY ?_
     iterate 5 refine qN ?_
     iterate 2 refine qY ?_
     iterate 14 refine qN ?_
     iterate 2 refine qY ?_
     iterate 4 refine qN ?_
     iterate 2 refine qY ?_
     iterate 5 refine qN ?_
     refine qY ?_
     refine qE ?_
     go_wp2
     go_ret
     exact ⟨ret_bool (hno.out (.inl (by rw [hso.out]; simp [mateB, ofB, y1.out]))).symm, btrans b0 (btrans b2 hbq)⟩
    ·have y1 : Hid (inb n 0 7 = true) := z1
     clear z1
     by_cases e0 : sn = sm
     ·subst e0
      by_cases e2 : n = me
      ·subst e2
       refine wp_region_q s42_5 t42_5 (fun hbq => ?_)
       refine qY ?_
       refine qL ?_
       refine qJ (lin_lit n 0 7 true y1.out _) hbq ?_
       iterate 3 refine qY ?_
       refine qL ?_
       refine qY ?_
       refine qL ?_
       refine qJ (lsite_any n _) hbq ?_; rw [hsn.out]
       refine qJ (lsite_any n _) hbq ?_; rw [hsm.out]
       refine qV (.bool false) ?_
       iterate 3 refine qY ?_
       refine qL ?_
       refine qY ?_
       refine qL ?_
       refine qV (.bool true) ?_
       iterate 2 refine qY ?_
       iterate 14 refine qN ?_
       iterate 2 refine qY ?_
       iterate 4 refine qN ?_
       iterate 2 refine qY ?_
       iterate 5 refine qN ?_
       refine qY ?_
       refine qE ?_
       go_wp2
       go_ret
       exact ⟨ret_bool (hno.out (.inl (by rw [hso.out]; simp [mateB, ofB]))).symm, btrans b0 (btrans b2 hbq)⟩
      ·have e2' : (n == me) = false := by simpa using e2
       cases z4 : cok x y h e
       ·have y4 : Hid (cok x y h e = false) := z4
        clear z4
        refine wp_region_q s42_5 t42_5 (fun hbq => ?_)
        refine qY ?_
        refine qL ?_
        refine qJ (lin_lit n 0 7 true y1.out _) hbq ?_
        iterate 3 refine qY ?_
        refine qL ?_
        refine qY ?_
        refine qL ?_
        refine qJ (lsite_any n _) hbq ?_; rw [hsn.out]
        refine qJ (lsite_any me _) hbq ?_; rw [hsm.out]
        refine qV (.bool false) ?_
        iterate 3 refine qY ?_
        refine qL ?_
        refine qY ?_
        refine qL ?_
        refine qV (.bool false) ?_
        iterate 3 refine qY ?_
        refine qV (.bool false) ?_
        refine qY ?_
        iterate 10 refine qN ?_
        iterate 4 refine qY ?_
        refine qR ?_
        refine qK (scoord_lit x y h e false y4.out _) hbq (fun w4 hbq => ?_)
        iterate 3 refine qY ?_
        iterate 5 refine qN ?_
        refine qY ?_
        refine qE ?_
        go_wp2
        go_ret
        exact ⟨ret_bool (hno.out (.inl (by rw [hso.out, y4.out]; simp))).symm, btrans b0 (btrans b2 hbq)⟩
       ·have y4 : Hid (cok x y h e = true) := z4
        clear z4
        cases z5 : inb bl 1 3
        ·have y5 : Hid (inb bl 1 3 = false) := z5
         clear z5
         refine wp_region_q s42_5 t42_5 (fun hbq => ?_)
         refine qY ?_
         refine qL ?_
         refine qJ (lin_lit n 0 7 true y1.out _) hbq ?_
         iterate 3 refine qY ?_
         refine qL ?_
         refine qY ?_
         refine qL ?_
         refine qJ (lsite_any n _) hbq ?_; rw [hsn.out]
         refine qJ (lsite_any me _) hbq ?_; rw [hsm.out]
         refine qV (.bool false) ?_
         iterate 3 refine qY ?_
         refine qL ?_
         refine qY ?_
         refine qL ?_
         refine qV (.bool false) ?_
         iterate 3 refine qY ?_
         refine qV (.bool false) ?_
         refine qY ?_
         iterate 10 refine qN ?_
         iterate 4 refine qY ?_
         refine qR ?_
         refine qK (scoord_lit x y h e true y4.out _) hbq (fun w4 hbq => ?_)
         iterate 4 refine qY ?_
         refine qL ?_
         refine qY ?_
         refine qJ (lin_lit bl 1 3 false y5.out _) hbq ?_
         iterate 2 refine qY ?_
         refine qE ?_
         go_wp2
         go_ret
         exact ⟨ret_bool (hno.out (.inl (by rw [hso.out, y5.out]; simp))).symm, btrans b0 (btrans b2 hbq)⟩
        ·have y5 : Hid (inb bl 1 3 = true) := z5
         clear z5
         refine wp_region_q s42_5 t42_5 (fun hbq => ?_)
         refine qY ?_
         refine qL ?_
         refine qJ (lin_lit n 0 7 true y1.out _) hbq ?_
         iterate 3 refine qY ?_
         refine qL ?_
         refine qY ?_
         refine qL ?_
         refine qJ (lsite_any n _) hbq ?_; rw [hsn.out]
         refine qJ (lsite_any me _) hbq ?_; rw [hsm.out]
         refine qV (.bool false) ?_
         iterate 3 refine qY ?_
         refine qL ?_
         refine qY ?_
         refine qL ?_
         refine qV (.bool false) ?_
         iterate 3 refine qY ?_
         refine qV (.bool false) ?_
         refine qY ?_
         iterate 10 refine qN ?_
         iterate 4 refine qY ?_
         refine qR ?_
         refine qK (scoord_lit x y h e true y4.out _) hbq (fun w4 hbq => ?_)
         iterate 4 refine qY ?_
         refine qL ?_
         refine qY ?_
         refine qJ (lin_lit bl 1 3 true y5.out _) hbq ?_
         iterate 2 refine qY ?_
         refine qE ?_
         have hso2 : Hid (plcB me n x y h e bl bf = trA bl bf) := by
          rw [Hid, hso.out, y4.out, y5.out]; simp [mateB, ofB, y1.out, hsn.out, hsm.out, e2]
         have hB5 := (keep_below hbq q15)
         have hI := (q3.below hbq)
         have hBe := (btrans b2 hbq)
         clear hso
         go_wp2_with fail
         go_loopw [5] (fun i wt => ∃ t : Nat, t ≤ bl ∧ i = .int .i64 t ∧ Below w4.heap.size w4 wt ∧ (∀ j, j < t → inb (bf j) 1 60000 = true)) (fun i _ => bl - (intOf i).toNat)
         case atStart => exact ⟨0, by omega, rfl, Below.refl _ _, fun j h1 => by omega⟩
         case round =>
          obtain ⟨t, ht, rfl, hbt, hallt⟩ := hrel
          have hc5 := keep_below hbt hB5
          by_cases hlt2 : t < bl
          ·obtain ⟨bb, ob, rfl, hbb, hff⟩ := hI (by omega)
           have ct := (hff.below hbt hbb) t hlt2
           have j0 : (0 : Int) ≤ (t : Int) := by omega
           have j1 : (t : Int) < (bl : Int) := by omega
           have hnt : Hid (inb (bf t) 1 60000 = false → trA bl bf = false) := tr_no hlt2
           have hyt : Hid (inb (bf t) 1 60000 = true → ∀ j, j < t + 1 → inb (bf j) 1 60000 = true) := fun e j hj => by
            by_cases ej : j = t
            ·subst ej; exact e
            ·exact hallt j (by omega)
           clear hallt
           generalize bf t = z at *
           go_wp2_with fail
           cases z6 : inb z 1 60000
           ·have y6 : Hid (inb z 1 60000 = false) := z6
            clear z6
            refine (lin_lit z 1 60000 false y6.out _).mono ?_
            rintro r w3 ⟨rfl, hw⟩
            obtain rfl := hw.symm
            clear hw
            go_wp2
            go_ret
            exact ⟨ret_bool (hno.out (.inl (by rw [hso2.out]; exact hnt.out y6.out))).symm, btrans b0 (btrans hBe hbt)⟩
           ·have y6 : Hid (inb z 1 60000 = true) := z6
            clear z6
            refine (lin_lit z 1 60000 true y6.out _).mono ?_
            rintro r w3 ⟨rfl, hw⟩
            obtain rfl := hw.symm
            clear hw
            go_wp2
            go_roundw
            case rel => exact ⟨t + 1, by omega, by go_num, hbt, hyt.out y6.out⟩
            case measure => simp [intOf]; omega
          ·have hy : Hid (trA bl bf = true) := by
            rw [Hid]; unfold trA; exact decide_eq_true fun j hj => hallt j (by omega)
           clear hallt
           go_wp2
           go_roundw
           case rel => exact ⟨0 + 1, by omega, by go_num, btrans hBe hbt, hyes.out (by rw [hso2.out]; exact hy.out), hyes2.out (fun h => by omega)⟩
           case measure => simp [intOf]; omega
     ·have e0' : (sn != sm) = true := by simpa using e0
      refine wp_region_q s42_5 t42_5 (fun hbq => ?_)
      refine qY ?_
      refine qL ?_
      refine qJ (lin_lit n 0 7 true y1.out _) hbq ?_
      iterate 3 refine qY ?_
      refine qL ?_
      refine qY ?_
      refine qL ?_
      refine qJ (lsite_any n _) hbq ?_; rw [hsn.out]
      refine qJ (lsite_any me _) hbq ?_; rw [hsm.out]
      refine qV (.bool true) ?_
      iterate 2 refine qY ?_
      iterate 5 refine qN ?_
      iterate 2 refine qY ?_
      iterate 14 refine qN ?_
      iterate 2 refine qY ?_
      iterate 4 refine qN ?_
      iterate 2 refine qY ?_
      iterate 5 refine qN ?_
      refine qY ?_
      refine qE ?_
      go_wp2
      go_ret
      exact ⟨ret_bool (hno.out (.inl (by rw [hso.out]; simp [mateB, ofB, hsn.out, hsm.out, e0]))).symm, btrans b0 (btrans b2 hbq)⟩
   ·obtain ⟨m, rfl⟩ : ∃ m, k = m + 1 := ⟨k - 1, by omega⟩
    have hso : Hid (plcB me (G (m + 1)).n (G (m + 1)).x (G (m + 1)).y (G (m + 1)).h (G (m + 1)).e (G (m + 1)).bl (G (m + 1)).bf = (mateB me (G (m + 1)).n && cok (G (m + 1)).x (G (m + 1)).y (G (m + 1)).h (G (m + 1)).e && inb (G (m + 1)).bl 1 3 && trA (G (m + 1)).bl (G (m + 1)).bf)) := rfl
    have hno : Hid (plcB me (G (m + 1)).n (G (m + 1)).x (G (m + 1)).y (G (m + 1)).h (G (m + 1)).e (G (m + 1)).bl (G (m + 1)).bf = false ∨ (0 < (m + 1) ∧ ¬ (G ((m + 1) - 1)).n < (G (m + 1)).n) → plsB me pll G = false) := plcs_no hlt
    have hyes : Hid (plcB me (G (m + 1)).n (G (m + 1)).x (G (m + 1)).y (G (m + 1)).h (G (m + 1)).e (G (m + 1)).bl (G (m + 1)).bf = true → ∀ j, j < (m + 1) + 1 → plcB me (G j).n (G j).x (G j).y (G j).h (G j).e (G j).bl (G j).bf = true) := fun e j hj => by
     by_cases ej : j = (m + 1)
     ·subst ej; exact e
     ·exact hall j (by omega)
    have hyes2 : Hid ((0 < (m + 1) → (G ((m + 1) - 1)).n < (G (m + 1)).n) → ∀ j, j < (m + 1) + 1 → 0 < j → (G (j - 1)).n < (G j).n) := fun e j hj h0 => by
     by_cases ej : j = (m + 1)
     ·subst ej; exact e h0
     ·exact hasc j (by omega) h0
    clear hall hasc
    generalize G (m + 1) = gx at *
    obtain ⟨n, x, y, h, e, ba, bl, bc, bf⟩ := gx
    dsimp only at c0 c1 c2 c3 c4 c5 hS hbl' hso hno hyes hyes2
    have b2 := balloc (.cells #[.int .i64 n, .int .i64 x, .int .i64 y, .int .i64 h, .int .i64 e, .slice ba bl bc] 103) hb
    have Y := Ws.box (w := wr) #[.int .i64 n, .int .i64 x, .int .i64 y, .int .i64 h, .int .i64 e, .slice ba bl bc] 103
    have g0 := keep_alloc (.cells #[.int .i64 n, .int .i64 x, .int .i64 y, .int .i64 h, .int .i64 e, .slice ba bl bc] 103) f0
    have g19 := keep_alloc (.cells #[.int .i64 n, .int .i64 x, .int .i64 y, .int .i64 h, .int .i64 e, .slice ba bl bc] 103) f19
    have q3 := hS.below (balloc (.cells #[.int .i64 n, .int .i64 x, .int .i64 y, .int .i64 h, .int .i64 e, .slice ba bl bc] 103) (Below.refl wr.heap.size wr))
    obtain ⟨p0, _⟩ := (hf.below b2 hbl) m (by omega)
    obtain ⟨n0, hn0⟩ : ∃ n0, Hid ((G m).n = n0) := ⟨_, rfl⟩
    rw [hn0.out] at p0
    have i2 : (0 : Int) ≤ (m : Int) := by omega
    have i3 : (m : Int) + 1 < (pll : Int) := by omega
    have i4 : (m : Int) < (pll : Int) := by omega
    have i5 : (0 : Int) ≤ (m : Int) + 1 := by omega
    have i6 : (0 : Int) < (m : Int) + 1 := by omega
    have i7 : IntKind.i64.wrap (m : Int) = (m : Int) := by rw [IntKind.wrap_i64]; omega
    have i8 : IntKind.i64.wrap ((m : Int) + 1 - 1) = (m : Int) := by rw [IntKind.wrap_i64]; omega
    have e1 : ((m + 1 : Nat) : Int) = (m : Int) + 1 := by omega
    clear i0 i1
    rw [e1]
    go_upto_region 5 with fail
    generalize wr.alloc (.cells #[.int .i64 n, .int .i64 x, .int .i64 y, .int .i64 h, .int .i64 e, .slice ba bl bc] 103) = v at *
    generalize wr.heap.size = K2 at *
    have q10 := Y.c 0 (.int .i64 n) rfl
    have q11 := Y.c 1 (.int .i64 x) rfl
    have q12 := Y.c 2 (.int .i64 y) rfl
    have q13 := Y.c 3 (.int .i64 h) rfl
    have q14 := Y.c 4 (.int .i64 e) rfl
    have q15 := Y.c 5 (.slice ba bl bc) rfl
    have r11 := range4 q11 q12 q13 q14
    clear Y c0 c1 c2 c3 c4 c5 f0 f19 hS
    obtain ⟨sn, hsn⟩ : ∃ sn, Hid (ste n = sn) := ⟨_, rfl⟩
    cases z1 : inb n 0 7
    ·have y1 : Hid (inb n 0 7 = false) := z1
     clear z1
     refine wp_region_q s42_5 t42_5 (fun hbq => ?_)
     refine qY ?_
     refine qL ?_
     refine qJ (lin_lit n 0 7 false y1.out _) hbq ?_
     iterate 2 refine qY ?_
     iterate 7 refine qN ?_
     iterate 2 refine qY ?_
     iterate 5 refine qN ?_
     iterate 2 refine qY ?_
     iterate 14 refine qN ?_
     iterate 2 refine qY ?_
     iterate 4 refine qN ?_
     iterate 2 refine qY ?_
     iterate 5 refine qN ?_
     refine qY ?_
     refine qE ?_
     go_wp2
     go_ret
     exact ⟨ret_bool (hno.out (.inl (by rw [hso.out]; simp [mateB, ofB, y1.out]))).symm, btrans b0 (btrans b2 hbq)⟩
    ·have y1 : Hid (inb n 0 7 = true) := z1
     clear z1
     by_cases e0 : sn = sm
     ·subst e0
      by_cases e2 : n = me
      ·subst e2
       refine wp_region_q s42_5 t42_5 (fun hbq => ?_)
       refine qY ?_
       refine qL ?_
       refine qJ (lin_lit n 0 7 true y1.out _) hbq ?_
       iterate 3 refine qY ?_
       refine qL ?_
       refine qY ?_
       refine qL ?_
       refine qJ (lsite_any n _) hbq ?_; rw [hsn.out]
       refine qJ (lsite_any n _) hbq ?_; rw [hsm.out]
       refine qV (.bool false) ?_
       iterate 3 refine qY ?_
       refine qL ?_
       refine qY ?_
       refine qL ?_
       refine qV (.bool true) ?_
       iterate 2 refine qY ?_
       iterate 14 refine qN ?_
       iterate 2 refine qY ?_
       iterate 4 refine qN ?_
       iterate 2 refine qY ?_
       iterate 5 refine qN ?_
       refine qY ?_
       refine qE ?_
       go_wp2
       go_ret
       exact ⟨ret_bool (hno.out (.inl (by rw [hso.out]; simp [mateB, ofB]))).symm, btrans b0 (btrans b2 hbq)⟩
      ·have e2' : (n == me) = false := by simpa using e2
       by_cases e3 : n ≤ n0
       ·skip
        refine wp_region_q s42_5 t42_5 (fun hbq => ?_)
        refine qY ?_
        refine qL ?_
        refine qJ (lin_lit n 0 7 true y1.out _) hbq ?_
        iterate 3 refine qY ?_
        refine qL ?_
        refine qY ?_
        refine qL ?_
        refine qJ (lsite_any n _) hbq ?_; rw [hsn.out]
        refine qJ (lsite_any me _) hbq ?_; rw [hsm.out]
        refine qV (.bool false) ?_
        iterate 3 refine qY ?_
        refine qL ?_
        refine qY ?_
        refine qL ?_
        refine qV (.bool false) ?_
        iterate 3 refine qY ?_
        refine qV (.bool true) ?_
        iterate 2 refine qY ?_
        refine qL ?_
        iterate 4 refine qY ?_
        refine qL ?_
        refine qY ?_
        refine qL ?_
        refine qV (.bool true) ?_
        iterate 3 refine qY ?_
        iterate 4 refine qN ?_
        iterate 2 refine qY ?_
        iterate 5 refine qN ?_
        refine qY ?_
        refine qE ?_
        go_wp2
        go_ret
        exact ⟨ret_bool (hno.out (.inr ⟨by omega, by rw [Nat.add_sub_cancel, hn0.out]; omega⟩)).symm, btrans b0 (btrans b2 hbq)⟩
       ·skip
        cases z4 : cok x y h e
        ·have y4 : Hid (cok x y h e = false) := z4
         clear z4
         refine wp_region_q s42_5 t42_5 (fun hbq => ?_)
         refine qY ?_
         refine qL ?_
         refine qJ (lin_lit n 0 7 true y1.out _) hbq ?_
         iterate 3 refine qY ?_
         refine qL ?_
         refine qY ?_
         refine qL ?_
         refine qJ (lsite_any n _) hbq ?_; rw [hsn.out]
         refine qJ (lsite_any me _) hbq ?_; rw [hsm.out]
         refine qV (.bool false) ?_
         iterate 3 refine qY ?_
         refine qL ?_
         refine qY ?_
         refine qL ?_
         refine qV (.bool false) ?_
         iterate 3 refine qY ?_
         refine qV (.bool true) ?_
         iterate 2 refine qY ?_
         refine qL ?_
         iterate 4 refine qY ?_
         refine qL ?_
         refine qY ?_
         refine qL ?_
         refine qV (.bool false) ?_
         iterate 4 refine qY ?_
         refine qR ?_
         refine qK (scoord_lit x y h e false y4.out _) hbq (fun w4 hbq => ?_)
         iterate 3 refine qY ?_
         iterate 5 refine qN ?_
         refine qY ?_
         refine qE ?_
         go_wp2
         go_ret
         exact ⟨ret_bool (hno.out (.inl (by rw [hso.out, y4.out]; simp))).symm, btrans b0 (btrans b2 hbq)⟩
        ·have y4 : Hid (cok x y h e = true) := z4
         clear z4
         cases z5 : inb bl 1 3
         ·have y5 : Hid (inb bl 1 3 = false) := z5
          clear z5
          refine wp_region_q s42_5 t42_5 (fun hbq => ?_)
          refine qY ?_
          refine qL ?_
          refine qJ (lin_lit n 0 7 true y1.out _) hbq ?_
          iterate 3 refine qY ?_
          refine qL ?_
          refine qY ?_
          refine qL ?_
          refine qJ (lsite_any n _) hbq ?_; rw [hsn.out]
          refine qJ (lsite_any me _) hbq ?_; rw [hsm.out]
          refine qV (.bool false) ?_
          iterate 3 refine qY ?_
          refine qL ?_
          refine qY ?_
          refine qL ?_
          refine qV (.bool false) ?_
          iterate 3 refine qY ?_
          refine qV (.bool true) ?_
          iterate 2 refine qY ?_
          refine qL ?_
          iterate 4 refine qY ?_
          refine qL ?_
          refine qY ?_
          refine qL ?_
          refine qV (.bool false) ?_
          iterate 4 refine qY ?_
          refine qR ?_
          refine qK (scoord_lit x y h e true y4.out _) hbq (fun w4 hbq => ?_)
          iterate 4 refine qY ?_
          refine qL ?_
          refine qY ?_
          refine qJ (lin_lit bl 1 3 false y5.out _) hbq ?_
          iterate 2 refine qY ?_
          refine qE ?_
          go_wp2
          go_ret
          exact ⟨ret_bool (hno.out (.inl (by rw [hso.out, y5.out]; simp))).symm, btrans b0 (btrans b2 hbq)⟩
         ·have y5 : Hid (inb bl 1 3 = true) := z5
          clear z5
          refine wp_region_q s42_5 t42_5 (fun hbq => ?_)
          refine qY ?_
          refine qL ?_
          refine qJ (lin_lit n 0 7 true y1.out _) hbq ?_
          iterate 3 refine qY ?_
          refine qL ?_
          refine qY ?_
          refine qL ?_
          refine qJ (lsite_any n _) hbq ?_; rw [hsn.out]
          refine qJ (lsite_any me _) hbq ?_; rw [hsm.out]
          refine qV (.bool false) ?_
          iterate 3 refine qY ?_
          refine qL ?_
          refine qY ?_
          refine qL ?_
          refine qV (.bool false) ?_
          iterate 3 refine qY ?_
          refine qV (.bool true) ?_
          iterate 2 refine qY ?_
          refine qL ?_
          iterate 4 refine qY ?_
          refine qL ?_
          refine qY ?_
          refine qL ?_
          refine qV (.bool false) ?_
          iterate 4 refine qY ?_
          refine qR ?_
          refine qK (scoord_lit x y h e true y4.out _) hbq (fun w4 hbq => ?_)
          iterate 4 refine qY ?_
          refine qL ?_
          refine qY ?_
          refine qJ (lin_lit bl 1 3 true y5.out _) hbq ?_
          iterate 2 refine qY ?_
          refine qE ?_
          have hso2 : Hid (plcB me n x y h e bl bf = trA bl bf) := by
           rw [Hid, hso.out, y4.out, y5.out]; simp [mateB, ofB, y1.out, hsn.out, hsm.out, e2]
          have hB5 := (keep_below hbq q15)
          have hI := (q3.below hbq)
          have hBe := (btrans b2 hbq)
          clear hso
          go_wp2_with fail
          go_loopw [5] (fun i wt => ∃ t : Nat, t ≤ bl ∧ i = .int .i64 t ∧ Below w4.heap.size w4 wt ∧ (∀ j, j < t → inb (bf j) 1 60000 = true)) (fun i _ => bl - (intOf i).toNat)
          case atStart => exact ⟨0, by omega, rfl, Below.refl _ _, fun j h1 => by omega⟩
          case round =>
           obtain ⟨t, ht, rfl, hbt, hallt⟩ := hrel
           have hc5 := keep_below hbt hB5
           by_cases hlt2 : t < bl
           ·obtain ⟨bb, ob, rfl, hbb, hff⟩ := hI (by omega)
            have ct := (hff.below hbt hbb) t hlt2
            have j0 : (0 : Int) ≤ (t : Int) := by omega
            have j1 : (t : Int) < (bl : Int) := by omega
            have hnt : Hid (inb (bf t) 1 60000 = false → trA bl bf = false) := tr_no hlt2
            have hyt : Hid (inb (bf t) 1 60000 = true → ∀ j, j < t + 1 → inb (bf j) 1 60000 = true) := fun e j hj => by
             by_cases ej : j = t
             ·subst ej; exact e
             ·exact hallt j (by omega)
            clear hallt
            generalize bf t = z at *
            go_wp2_with fail
            cases z6 : inb z 1 60000
            ·have y6 : Hid (inb z 1 60000 = false) := z6
             clear z6
             refine (lin_lit z 1 60000 false y6.out _).mono ?_
             rintro r w3 ⟨rfl, hw⟩
             obtain rfl := hw.symm
             clear hw
             go_wp2
             go_ret
             exact ⟨ret_bool (hno.out (.inl (by rw [hso2.out]; exact hnt.out y6.out))).symm, btrans b0 (btrans hBe hbt)⟩
            ·have y6 : Hid (inb z 1 60000 = true) := z6
             clear z6
             refine (lin_lit z 1 60000 true y6.out _).mono ?_
             rintro r w3 ⟨rfl, hw⟩
             obtain rfl := hw.symm
             clear hw
             go_wp2
             go_roundw
             case rel => exact ⟨t + 1, by omega, by go_num, hbt, hyt.out y6.out⟩
             case measure => simp [intOf]; omega
           ·have hy : Hid (trA bl bf = true) := by
             rw [Hid]; unfold trA; exact decide_eq_true fun j hj => hallt j (by omega)
            clear hallt
            go_wp2
            go_roundw
            case rel => exact ⟨(m + 1) + 1, by omega, by go_num, btrans hBe hbt, hyes.out (by rw [hso2.out]; exact hy.out), hyes2.out (fun _ => by rw [Nat.add_sub_cancel, hn0.out]; omega)⟩
            case measure => simp [intOf]; omega
     ·have e0' : (sn != sm) = true := by simpa using e0
      refine wp_region_q s42_5 t42_5 (fun hbq => ?_)
      refine qY ?_
      refine qL ?_
      refine qJ (lin_lit n 0 7 true y1.out _) hbq ?_
      iterate 3 refine qY ?_
      refine qL ?_
      refine qY ?_
      refine qL ?_
      refine qJ (lsite_any n _) hbq ?_; rw [hsn.out]
      refine qJ (lsite_any me _) hbq ?_; rw [hsm.out]
      refine qV (.bool true) ?_
      iterate 2 refine qY ?_
      iterate 5 refine qN ?_
      iterate 2 refine qY ?_
      iterate 14 refine qN ?_
      iterate 2 refine qY ?_
      iterate 4 refine qN ?_
      iterate 2 refine qY ?_
      iterate 5 refine qN ?_
      refine qY ?_
      refine qE ?_
      go_wp2
      go_ret
      exact ⟨ret_bool (hno.out (.inl (by rw [hso.out]; simp [mateB, ofB, hsn.out, hsm.out, e0]))).symm, btrans b0 (btrans b2 hbq)⟩
  ·go_wp2
   go_ret
   refine ⟨ret_bool ?_, btrans b0 hb⟩
   unfold plsB Plasc risB plA
   rw [decide_eq_true fun j hj => hall j (by omega), decide_eq_true fun j hj h0 => hasc j (by omega) h0]
   rfl
end Go.Proofs.YtgcdcfjaeehnbaaGreat
