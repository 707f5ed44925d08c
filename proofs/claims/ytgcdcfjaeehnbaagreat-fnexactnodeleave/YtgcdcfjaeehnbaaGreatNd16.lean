/- Nodes, the model's way: doubts. -/
import Derived.Test.YtgcdcfjaeehnbaaGreatNd10
import Derived.Test.YtgcdcfjaeehnbaaGreatNd14
import Derived.Test.YtgcdcfjaeehnbaaGreatInts
namespace Go.Proofs.YtgcdcfjaeehnbaaGreat
open Go.ChangeShapes Go.WideShapes Go.ChangeAt Go.RowKit
set_option maxRecDepth 20000
set_option maxHeartbeats 16000000
attribute [local go_sem ↓] Go.wp_at_zero Go.wp_at_succ
def s40_6 : List Stp := [⟨some 26, .move (.tmp 3), 3, none, 0⟩, ⟨some 27, .binOp .gtr 3 (.tmp 26) (.const (.int .i64 0)) 3, 4, none, 2⟩, ⟨some 28, .move (.tmp 27), 4, none, 0⟩, ⟨some 29, .fieldAddr 42 (.tmp 1) 11, 0, some (28, true), 0⟩, ⟨some 30, .load 37 (.tmp 29), 37, some (28, true), 0⟩, ⟨some 31, .move (.tmp 3), 3, some (28, true), 0⟩, ⟨some 32, .binOp .sub 3 (.tmp 31) (.const (.int .i64 1)) 3, 3, some (28, true), 0⟩, ⟨some 33, .indexAddr 37 (.tmp 30) (.tmp 32), 0, some (28, true), 0⟩, ⟨some 34, .fieldAddr 121 (.tmp 33) 0, 0, some (28, true), 0⟩, ⟨some 35, .load 3 (.tmp 34), 3, some (28, true), 0⟩, ⟨some 36, .fieldAddr 121 (.tmp 4) 0, 0, some (28, true), 0⟩, ⟨some 37, .load 3 (.tmp 36), 3, some (28, true), 0⟩, ⟨some 38, .binOp .geq 3 (.tmp 35) (.tmp 37) 3, 4, some (28, true), 2⟩, ⟨some 39, .pick (.tmp 28) (.tmp 38) (.const (.bool false)), 4, none, 0⟩, ⟨some 40, .move (.tmp 39), 4, none, 0⟩, ⟨some 41, .move (.tmp 5), 3, some (40, false), 0⟩, ⟨some 42, .binOp .lss 3 (.tmp 41) (.const (.int .i64 0)) 3, 4, some (40, false), 2⟩, ⟨some 43, .pick (.tmp 40) (.const (.bool true)) (.tmp 42), 4, none, 0⟩, ⟨some 44, .move (.tmp 43), 4, none, 0⟩, ⟨some 45, .fieldAddr 42 (.tmp 1) 8, 0, some (44, false), 0⟩, ⟨some 46, .load 34 (.tmp 45), 34, some (44, false), 0⟩, ⟨some 47, .move (.tmp 5), 3, some (44, false), 0⟩, ⟨some 48, .indexAddr 34 (.tmp 46) (.tmp 47), 0, some (44, false), 0⟩, ⟨some 49, .fieldAddr 96 (.tmp 48) 2, 0, some (44, false), 0⟩, ⟨some 50, .load 3 (.tmp 49), 3, some (44, false), 0⟩, ⟨some 51, .binOp .neq 3 (.tmp 50) (.const (.int .i64 2)) 3, 4, some (44, false), 2⟩, ⟨some 52, .pick (.tmp 44) (.const (.bool true)) (.tmp 51), 4, none, 0⟩, ⟨some 53, .move (.tmp 52), 4, none, 0⟩, ⟨some 54, .fieldAddr 42 (.tmp 1) 8, 0, some (53, false), 0⟩, ⟨some 55, .load 34 (.tmp 54), 34, some (53, false), 0⟩, ⟨some 56, .move (.tmp 5), 3, some (53, false), 0⟩, ⟨some 57, .indexAddr 34 (.tmp 55) (.tmp 56), 0, some (53, false), 0⟩, ⟨some 58, .fieldAddr 96 (.tmp 57) 1, 0, some (53, false), 0⟩, ⟨some 59, .load 3 (.tmp 58), 3, some (53, false), 0⟩, ⟨some 60, .fieldAddr 121 (.tmp 4) 1, 0, some (53, false), 0⟩, ⟨some 61, .load 3 (.tmp 60), 3, some (53, false), 0⟩, ⟨some 62, .binOp .neq 3 (.tmp 59) (.tmp 61) 3, 4, some (53, false), 2⟩, ⟨some 63, .pick (.tmp 53) (.const (.bool true)) (.tmp 62), 4, none, 0⟩, ⟨some 64, .move (.tmp 63), 4, none, 0⟩, ⟨some 65, .fieldAddr 121 (.tmp 4) 2, 0, some (64, false), 0⟩, ⟨some 66, .load 3 (.tmp 65), 3, some (64, false), 0⟩, ⟨some 67, .fieldAddr 42 (.tmp 1) 5, 0, some (64, false), 0⟩, ⟨some 68, .load 3 (.tmp 67), 3, some (64, false), 0⟩, ⟨some 69, .call { callee := .value (.func 78), args := #[.tmp 66, .const (.int .i64 0), .tmp 68], argTypes := #[3, 3, 3] }, 4, some (64, false), 1⟩, ⟨some 70, .unOp .not 4 (.tmp 69), 4, some (64, false), 0⟩, ⟨some 71, .pick (.tmp 64) (.const (.bool true)) (.tmp 70), 4, none, 0⟩, ⟨some 72, .move (.tmp 71), 4, none, 0⟩, ⟨some 73, .fieldAddr 121 (.tmp 4) 3, 0, some (72, false), 0⟩, ⟨some 74, .load 54 (.tmp 73), 54, some (72, false), 0⟩, ⟨some 75, .call { callee := .builtin .len, args := #[.tmp 74], argTypes := #[54] }, 3, some (72, false), 0⟩, ⟨some 76, .binOp .eql 3 (.tmp 75) (.const (.int .i64 0)) 3, 4, some (72, false), 2⟩, ⟨some 77, .pick (.tmp 72) (.const (.bool true)) (.tmp 76), 4, none, 0⟩]
def t40_6 : List (Nat × Nat) := [(0, 0), (1, 2), (2, 0), (3, 0), (4, 0), (5, 0), (6, 0), (7, 0), (8, 0), (9, 0), (10, 0), (11, 0), (12, 2), (13, 0), (14, 0), (15, 0), (16, 2), (17, 0), (18, 0), (19, 0), (20, 0), (21, 0), (22, 0), (23, 0), (24, 0), (25, 2), (26, 0), (27, 0), (28, 0), (29, 0), (30, 0), (31, 0), (32, 0), (33, 0), (34, 0), (35, 0), (36, 2), (37, 0), (38, 0), (39, 0), (40, 0), (41, 0), (42, 0), (43, 1), (44, 0), (45, 0), (46, 0), (47, 0), (48, 0), (49, 0), (50, 2), (51, 0)]
def s40_11 : List Stp := [⟨some 85, .fieldAddr 121 (.tmp 4) 3, 0, none, 0⟩, ⟨some 86, .load 54 (.tmp 85), 54, none, 0⟩, ⟨some 87, .move (.tmp 6), 3, none, 0⟩, ⟨some 88, .indexAddr 54 (.tmp 86) (.tmp 87), 0, none, 0⟩, ⟨some 89, .load 3 (.tmp 88), 3, none, 0⟩, ⟨some 90, .call { callee := .value (.func 78), args := #[.tmp 89, .const (.int .i64 0), .const (.int .i64 7)], argTypes := #[3, 3, 3] }, 4, none, 1⟩, ⟨some 91, .unOp .not 4 (.tmp 90), 4, none, 0⟩, ⟨some 92, .move (.tmp 91), 4, none, 0⟩, ⟨some 93, .fieldAddr 121 (.tmp 4) 3, 0, some (92, false), 0⟩, ⟨some 94, .load 54 (.tmp 93), 54, some (92, false), 0⟩, ⟨some 95, .move (.tmp 6), 3, some (92, false), 0⟩, ⟨some 96, .indexAddr 54 (.tmp 94) (.tmp 95), 0, some (92, false), 0⟩, ⟨some 97, .load 3 (.tmp 96), 3, some (92, false), 0⟩, ⟨some 99, .fieldAddr 42 (.tmp 1) 0, 0, some (92, false), 0⟩, ⟨some 100, .load 3 (.tmp 99), 3, some (92, false), 0⟩, ⟨some 98, .call { callee := .value (.func 81), args := #[.tmp 97], argTypes := #[3] }, 3, some (92, false), 1⟩, ⟨some 101, .call { callee := .value (.func 81), args := #[.tmp 100], argTypes := #[3] }, 3, some (92, false), 1⟩, ⟨some 102, .binOp .neq 3 (.tmp 98) (.tmp 101) 3, 4, some (92, false), 2⟩, ⟨some 103, .pick (.tmp 92) (.const (.bool true)) (.tmp 102), 4, none, 0⟩, ⟨some 104, .move (.tmp 103), 4, none, 0⟩, ⟨some 105, .move (.tmp 6), 3, some (104, false), 0⟩, ⟨some 106, .binOp .gtr 3 (.tmp 105) (.const (.int .i64 0)) 3, 4, some (104, false), 2⟩, ⟨some 107, .move (.tmp 106), 4, some (104, false), 0⟩, ⟨some 108, .fieldAddr 121 (.tmp 4) 3, 0, some (107, true), 0⟩, ⟨some 109, .load 54 (.tmp 108), 54, some (107, true), 0⟩, ⟨some 110, .move (.tmp 6), 3, some (107, true), 0⟩, ⟨some 111, .binOp .sub 3 (.tmp 110) (.const (.int .i64 1)) 3, 3, some (107, true), 0⟩, ⟨some 112, .indexAddr 54 (.tmp 109) (.tmp 111), 0, some (107, true), 0⟩, ⟨some 113, .load 3 (.tmp 112), 3, some (107, true), 0⟩, ⟨some 114, .fieldAddr 121 (.tmp 4) 3, 0, some (107, true), 0⟩, ⟨some 115, .load 54 (.tmp 114), 54, some (107, true), 0⟩, ⟨some 116, .move (.tmp 6), 3, some (107, true), 0⟩, ⟨some 117, .indexAddr 54 (.tmp 115) (.tmp 116), 0, some (107, true), 0⟩, ⟨some 118, .load 3 (.tmp 117), 3, some (107, true), 0⟩, ⟨some 119, .binOp .geq 3 (.tmp 113) (.tmp 118) 3, 4, some (107, true), 2⟩, ⟨some 120, .pick (.tmp 107) (.tmp 119) (.const (.bool false)), 4, some (104, false), 0⟩, ⟨some 121, .pick (.tmp 104) (.const (.bool true)) (.tmp 120), 4, none, 0⟩]
def t40_11 : List (Nat × Nat) := [(0, 0), (1, 0), (2, 0), (3, 0), (4, 0), (5, 1), (6, 0), (7, 0), (8, 0), (9, 0), (10, 0), (11, 0), (12, 0), (14, 0), (15, 0), (13, 1), (16, 1), (17, 2), (18, 0), (19, 0), (20, 0), (21, 2), (22, 0), (23, 0), (24, 0), (25, 0), (26, 0), (27, 0), (28, 0), (29, 0), (30, 0), (31, 0), (32, 0), (33, 0), (34, 2), (35, 0), (36, 0)]
def sdbsB (me now : Int) (tl : Nat) (F : Nat → Fc) (len : Nat) (G : Nat → Dt) : Bool := Dtasc len G && dbA me now tl F len G && ((cntN F 2 tl : Int) == (len : Int))
theorem dbs_no {me now : Int} {tl : Nat} {F : Nat → Fc} {len : Nat} {G : Nat → Dt} {k : Nat} (hk : k < len) (h : dbtB me now tl F (G k).n (G k).i (G k).s (G k).bl (G k).bf = false ∨ (0 < k ∧ ¬ (G (k - 1)).n < (G k).n)) : sdbsB me now tl F len G = false := by
 unfold sdbsB Dtasc risB dbA
 rw [Bool.and_eq_false_iff, Bool.and_eq_false_iff]
 rcases h with h | ⟨h0, h⟩
 ·exact .inl (.inr (decide_eq_false fun q => by have := q k hk; rw [h] at this; cases this))
 ·exact .inl (.inl (decide_eq_false fun q => h (q k hk h0)))
theorem by_no {me : Int} {len : Nat} {f : Nat → Int} {k : Nat} (hk : k < len) (h : ofB me (f k) = false ∨ (0 < k ∧ ¬ f (k - 1) < f k)) : (risB len f && obA me len f) = false := by
 unfold risB obA
 rw [Bool.and_eq_false_iff]
 rcases h with h | ⟨h0, h⟩
 ·exact .inr (decide_eq_false fun q => by have := q k hk; rw [h] at this; cases this)
 ·exact .inl (decide_eq_false fun q => h (q k hk h0))
set_option linter.unusedSimpArgs false in
theorem sdbs_any (me : Int) (up gone gate : Bool) (inc now sq turn : Int) (ta : Option Addr) (tl tc : Nat) (ca : Option Addr) (cl cc : Nat) (pn ps pq : Int) (pa : Bool) (da : Option Addr) (dl dc : Nat) (cx cy ch ce : Int) (pla : Option Addr) (pll plc : Nat) (oa : Option Addr) (ol oc : Nat) (F : Nat → Fc) (G : Nat → Dt) (w : World) (h : FSl w ta tl F) (hl : tl ≤ 1048576) (hG : DtSl w da dl G) (hm : dl ≤ 1048576) (hB : DtB w dl G) :
  Calls Tryz.prog 85 #[.agg #[.int .i64 me, .bool up, .bool gone, .bool gate, .int .i64 inc, .int .i64 now, .int .i64 sq, .int .i64 turn, .slice ta tl tc, .slice ca cl cc, .int .i64 pn, .int .i64 ps, .int .i64 pq, .bool pa, .slice da dl dc, .int .i64 cx, .int .i64 cy, .int .i64 ch, .int .i64 ce, .slice pla pll plc, .slice oa ol oc]] w fun r w' => r = .returned (.bool (sdbsB me now tl F dl G)) ∧ Below w.heap.size w w' := by
 go_enter Tryz.func85, Tryz.ntmps85
 go_upto_region 1 with fail
 generalize hu : w.alloc (.cells _ _) = u
 obtain ⟨X, b0⟩ := box1 hu
 clear hu
 have hG' := hG.below b0
 have hB' := hB.below b0
 have hF' := h.below b0
 have d0 := X.c 0 (.int .i64 me) rfl
 have d5 := X.c 5 (.int .i64 now) rfl
 have d8 := X.c 8 (.slice ta tl tc) rfl
 have d14 := X.c 14 (.slice da dl dc) rfl
 clear X hG hB h
 obtain ⟨sm, hsm⟩ : ∃ sm, Hid (ste me = sm) := ⟨_, rfl⟩
 go_wp2
 go_loopw [3, 5, 6] (fun i _ _ wr => ∃ k : Nat, k ≤ dl ∧ i = .int .i64 k ∧ Below u.heap.size u wr ∧ (∀ j, j < k → dbtB me now tl F (G j).n (G j).i (G j).s (G j).bl (G j).bf = true) ∧ (∀ j, j < k → 0 < j → (G (j - 1)).n < (G j).n)) (fun i _ _ _ => dl - (intOf i).toNat)
 case atStart => exact ⟨0, by omega, rfl, Below.refl _ _, fun j h1 => by omega, fun j h1 => by omega⟩
 case round =>
  obtain ⟨k, hk, rfl, hb, hall, hasc⟩ := hrel
  have f0 := keep_below hb d0
  have f5 := keep_below hb d5
  have f8 := keep_below hb d8
  have f14 := keep_below hb d14
  have hF := hF'.below hb
  by_cases hlt : k < dl
  ·obtain ⟨b, off, rfl, hbl, hf⟩ := hG' (by omega)
   obtain ⟨c0, c1, c2, c3⟩ := (hf.below hb hbl) k hlt
   have hS := (hB' k hlt).1.below hb
   have hbl' := (hB' k hlt).2
   have i0 : (0 : Int) ≤ (k : Int) := by omega
   have i1 : (k : Int) < (dl : Int) := by omega
   rcases Nat.eq_zero_or_pos k with h0 | h0
   ·subst h0
    simp only [Nat.zero_mul, Nat.add_zero] at c0 c1 c2 c3
    have hso : Hid (dbtB me now tl F (G 0).n (G 0).i (G 0).s (G 0).bl (G 0).bf = (decide ((fo F (fnd tl F (G 0).n)).s = 2) && decide ((fo F (fnd tl F (G 0).n)).i = (G 0).i) && inb (G 0).s 0 now && decide (0 < (G 0).bl) && risB (G 0).bl (G 0).bf && obA me (G 0).bl (G 0).bf)) := rfl
    have hno : Hid (dbtB me now tl F (G 0).n (G 0).i (G 0).s (G 0).bl (G 0).bf = false ∨ (0 < 0 ∧ ¬ (G (0 - 1)).n < (G 0).n) → sdbsB me now tl F dl G = false) := dbs_no hlt
    have hyes : Hid (dbtB me now tl F (G 0).n (G 0).i (G 0).s (G 0).bl (G 0).bf = true → ∀ j, j < 0 + 1 → dbtB me now tl F (G j).n (G j).i (G j).s (G j).bl (G j).bf = true) := fun e j hj => by
     by_cases ej : j = 0
     ·subst ej; exact e
     ·exact hall j (by omega)
    have hyes2 : Hid ((0 < 0 → (G (0 - 1)).n < (G 0).n) → ∀ j, j < 0 + 1 → 0 < j → (G (j - 1)).n < (G j).n) := fun e j hj h0 => by
     by_cases ej : j = 0
     ·subst ej; exact e h0
     ·exact hasc j (by omega) h0
    clear hall hasc
    generalize G 0 = gx at *
    obtain ⟨n, i, s, ba, bl, bc, bf⟩ := gx
    dsimp only at c0 c1 c2 c3 hS hbl' hso hno hyes hyes2
    have b2 := balloc (.cells #[.int .i64 n, .int .i64 i, .int .i64 s, .slice ba bl bc] 121) hb
    have Y := Ws.box (w := wr) #[.int .i64 n, .int .i64 i, .int .i64 s, .slice ba bl bc] 121
    have l0 := keep_alloc (.cells #[.int .i64 n, .int .i64 i, .int .i64 s, .slice ba bl bc] 121) f0
    have l5 := keep_alloc (.cells #[.int .i64 n, .int .i64 i, .int .i64 s, .slice ba bl bc] 121) f5
    have l8 := keep_alloc (.cells #[.int .i64 n, .int .i64 i, .int .i64 s, .slice ba bl bc] 121) f8
    have l14 := keep_alloc (.cells #[.int .i64 n, .int .i64 i, .int .i64 s, .slice ba bl bc] 121) f14
    have l3 := hS.below (balloc (.cells #[.int .i64 n, .int .i64 i, .int .i64 s, .slice ba bl bc] 121) (Below.refl wr.heap.size wr))
    have lF := hF.below (balloc (.cells #[.int .i64 n, .int .i64 i, .int .i64 s, .slice ba bl bc] 121) (Below.refl wr.heap.size wr))
    go_upto_region 5 with fail
    generalize wr.alloc (.cells #[.int .i64 n, .int .i64 i, .int .i64 s, .slice ba bl bc] 121) = v at *
    generalize wr.heap.size = K2 at *
    have q10 := Y.c 0 (.int .i64 n) rfl
    go_wp2_with fail
    cases ef : fnd tl F n with
    | none =>
     have y0 : Hid (fnd tl F n = none) := ef
     clear ef
     refine (sfind_none ta tl tc F n y0.out _ lF hl).mono ?_
     rintro r w2 ⟨rfl, k3⟩
     have g0 := keep_below k3 l0
     have g5 := keep_below k3 l5
     have g8 := keep_below k3 l8
     have g14 := keep_below k3 l14
     have q3 := l3.below k3
     have qF := lF.below k3
     have b3 := btrans b2 k3
     have r10 := (Y.below k3).c 0 (.int .i64 n) rfl
     have r11 := (Y.below k3).c 1 (.int .i64 i) rfl
     have r12 := (Y.below k3).c 2 (.int .i64 s) rfl
     have r13 := (Y.below k3).c 3 (.slice ba bl bc) rfl
     clear Y c0 c1 c2 c3 f0 f5 f8 f14 hS l0 l5 l8 l14 l3 lF k3 q10 hF
     go_upto_region 6 with fail
     as_aux_lemma =>
      refine wp_region_q s40_6 t40_6 (fun hbq => ?_)
      refine qY ?_
      refine qV (.bool false) ?_
      refine qY ?_
      iterate 10 refine qN ?_
      iterate 3 refine qY ?_
      refine qV (.bool true) ?_
      iterate 2 refine qY ?_
      iterate 7 refine qN ?_
      iterate 2 refine qY ?_
      iterate 9 refine qN ?_
      iterate 2 refine qY ?_
      iterate 6 refine qN ?_
      iterate 2 refine qY ?_
      iterate 4 refine qN ?_
      refine qY ?_
      refine qE ?_
      go_wp2
      go_ret
      exact ⟨ret_bool (hno.out (.inl (by rw [hso.out, y0.out]; simp [fo]))).symm, btrans b0 (btrans b3 hbq)⟩
    | some k2 =>
     have y0 : Hid (fnd tl F n = some k2) := ef
     have hk2 := fnd_lt ef
     clear ef
     refine (sfind_some ta tl tc F n k2 y0.out _ lF hl).mono ?_
     rintro r w2 ⟨rfl, k3⟩
     have g0 := keep_below k3 l0
     have g5 := keep_below k3 l5
     have g8 := keep_below k3 l8
     have g14 := keep_below k3 l14
     have q3 := l3.below k3
     have qF := lF.below k3
     have b3 := btrans b2 k3
     have r10 := (Y.below k3).c 0 (.int .i64 n) rfl
     have r11 := (Y.below k3).c 1 (.int .i64 i) rfl
     have r12 := (Y.below k3).c 2 (.int .i64 s) rfl
     have r13 := (Y.below k3).c 3 (.slice ba bl bc) rfl
     clear Y c0 c1 c2 c3 f0 f5 f8 f14 hS l0 l5 l8 l14 l3 lF k3 q10 hF
     go_upto_region 6 with fail
     obtain ⟨bt, ot, rfl, hbt, hft⟩ := qF (by omega)
     obtain ⟨t0, t1, t2, t3⟩ := hft k2 hk2
     have j0 : (0 : Int) ≤ (k2 : Int) := by omega
     have j1 : (k2 : Int) < (tl : Int) := by omega
     have j2 : ¬ (k2 : Int) < 0 := by omega
     have hso2 : Hid (dbtB me now tl F n i s bl bf = (decide ((F k2).s = 2) && decide ((F k2).i = i) && inb s 0 now && decide (0 < bl) && risB bl bf && obA me bl bf)) := by
      rw [Hid, hso.out, y0.out]; rfl
     clear hso hft qF
     generalize F k2 = f at *
     obtain ⟨fn, fi, fs, fg⟩ := f
     dsimp only at t0 t1 t2 t3 hso2
     by_cases e4 : fs = 2
     ·have y2 : Hid (fs = 2) := e4
      clear e4
      by_cases e5 : fi = i
      ·have y3 : Hid (fi = i) := e5
       clear e5
       cases z4 : inb s 0 now
       ·have y4 : Hid (inb s 0 now = false) := z4
        clear z4
        as_aux_lemma =>
         refine wp_region_q s40_6 t40_6 (fun hbq => ?_)
         refine qY ?_
         refine qV (.bool false) ?_
         refine qY ?_
         iterate 10 refine qN ?_
         iterate 3 refine qY ?_
         refine qV (.bool false) ?_
         iterate 3 refine qY ?_
         refine qL ?_
         iterate 3 refine qY ?_
         refine qL ?_
         refine qV (.bool false) ?_ (by (intro w; go_simp; all_goals (first | with_reducible rfl | (simp [y2.out]; done) | assumption | (simp; done) | (simp; omega))))
         iterate 3 refine qY ?_
         refine qL ?_
         iterate 3 refine qY ?_
         refine qL ?_
         refine qY ?_
         refine qL ?_
         refine qV (.bool false) ?_ (by (intro w; go_simp; all_goals (first | with_reducible rfl | (simp [y3.out]; done) | assumption | (simp; done) | (simp; omega))))
         iterate 3 refine qY ?_
         refine qL ?_
         refine qY ?_
         refine qL ?_
         refine qJ (lin_lit s 0 now false y4.out _) hbq ?_
         iterate 3 refine qY ?_
         iterate 4 refine qN ?_
         refine qY ?_
         refine qE ?_
         go_wp2
         go_ret
         exact ⟨ret_bool (hno.out (.inl (by rw [hso2.out, y4.out]; simp))).symm, btrans b0 (btrans b3 hbq)⟩
       ·have y4 : Hid (inb s 0 now = true) := z4
        clear z4
        by_cases e6 : bl = 0
        ·have y5 : Hid (bl = 0) := e6
         clear e6
         as_aux_lemma =>
          refine wp_region_q s40_6 t40_6 (fun hbq => ?_)
          refine qY ?_
          refine qV (.bool false) ?_
          refine qY ?_
          iterate 10 refine qN ?_
          iterate 3 refine qY ?_
          refine qV (.bool false) ?_
          iterate 3 refine qY ?_
          refine qL ?_
          iterate 3 refine qY ?_
          refine qL ?_
          refine qV (.bool false) ?_ (by (intro w; go_simp; all_goals (first | with_reducible rfl | (simp [y2.out]; done) | assumption | (simp; done) | (simp; omega))))
          iterate 3 refine qY ?_
          refine qL ?_
          iterate 3 refine qY ?_
          refine qL ?_
          refine qY ?_
          refine qL ?_
          refine qV (.bool false) ?_ (by (intro w; go_simp; all_goals (first | with_reducible rfl | (simp [y3.out]; done) | assumption | (simp; done) | (simp; omega))))
          iterate 3 refine qY ?_
          refine qL ?_
          refine qY ?_
          refine qL ?_
          refine qJ (lin_lit s 0 now true y4.out _) hbq ?_
          iterate 4 refine qY ?_
          refine qL ?_
          refine qY ?_
          refine qV (.bool true) ?_ (by (intro w; go_simp; all_goals (first | with_reducible rfl | (simp [y5.out]; done) | assumption | (simp; done) | (simp; omega))))
          refine qY ?_
          refine qE ?_
          go_wp2
          go_ret
          exact ⟨ret_bool (hno.out (.inl (by rw [hso2.out, y5.out]; simp))).symm, btrans b0 (btrans b3 hbq)⟩
        ·skip
         refine wp_region_q s40_6 t40_6 (fun hbq => ?_)
         refine qY ?_
         refine qV (.bool false) ?_
         refine qY ?_
         iterate 10 refine qN ?_
         iterate 3 refine qY ?_
         refine qV (.bool false) ?_
         iterate 3 refine qY ?_
         refine qL ?_
         iterate 3 refine qY ?_
         refine qL ?_
         refine qV (.bool false) ?_ (by (intro w; go_simp; all_goals (first | with_reducible rfl | (simp [y2.out]; done) | assumption | (simp; done) | (simp; omega))))
         iterate 3 refine qY ?_
         refine qL ?_
         iterate 3 refine qY ?_
         refine qL ?_
         refine qY ?_
         refine qL ?_
         refine qV (.bool false) ?_ (by (intro w; go_simp; all_goals (first | with_reducible rfl | (simp [y3.out]; done) | assumption | (simp; done) | (simp; omega))))
         iterate 3 refine qY ?_
         refine qL ?_
         refine qY ?_
         refine qL ?_
         refine qJ (lin_lit s 0 now true y4.out _) hbq ?_
         iterate 4 refine qY ?_
         refine qL ?_
         refine qY ?_
         refine qV (.bool false) ?_
         refine qY ?_
         refine qE ?_
         have hso3 : Hid (dbtB me now tl F n i s bl bf = (risB bl bf && obA me bl bf)) := by
          have e6' : 0 < bl := by omega
          rw [Hid, hso2.out, y2.out, y3.out, y4.out]; simp [e6']
         have hc3 := (keep_below hbq r13)
         have hme := (keep_below hbq g0)
         have hI := (q3.below hbq)
         have hBe := (btrans b3 hbq)
         clear hso2 y2 y3 y4 t0 t1 t2 t3
         go_wp2_with fail
         go_loopw [6] (fun i wt => ∃ t : Nat, t ≤ bl ∧ i = .int .i64 t ∧ Below w2.drew.heap.size w2.drew wt ∧ (∀ j, j < t → ofB me (bf j) = true) ∧ (∀ j, j < t → 0 < j → bf (j - 1) < bf j)) (fun i _ => bl - (intOf i).toNat)
         case atStart => exact ⟨0, by omega, rfl, Below.refl _ _, fun j h1 => by omega, fun j h1 => by omega⟩
         case round =>
          obtain ⟨t, ht, rfl, hbt2, hallt, hasct⟩ := hrel
          have m3 := keep_below hbt2 hc3
          have m0 := keep_below hbt2 hme
          have hBf := btrans hBe hbt2
          by_cases hlt2 : t < bl
          ·obtain ⟨bb, ob, rfl, hbb, hff⟩ := hI (by omega)
           have hff2 := hff.below hbt2 hbb
           have ct := hff2 t hlt2
           have j3 : (0 : Int) ≤ (t : Int) := by omega
           have j4 : (t : Int) < (bl : Int) := by omega
           rcases Nat.eq_zero_or_pos t with g | g
           ·subst g
            simp only [Nat.add_zero] at ct
            have hnt : Hid (ofB me (bf 0) = false ∨ (0 < 0 ∧ ¬ bf (0 - 1) < bf 0) → (risB bl bf && obA me bl bf) = false) := by_no hlt2
            have hyt : Hid (ofB me (bf 0) = true → ∀ j, j < 0 + 1 → ofB me (bf j) = true) := fun e j hj => by
             by_cases ej : j = 0
             ·subst ej; exact e
             ·exact hallt j (by omega)
            have hyt2 : Hid ((0 < 0 → bf (0 - 1) < bf 0) → ∀ j, j < 0 + 1 → 0 < j → bf (j - 1) < bf j) := fun e j hj h0 => by
             by_cases ej : j = 0
             ·subst ej; exact e h0
             ·exact hasct j (by omega) h0
            clear hallt hasct
            generalize bf 0 = z at *
            obtain ⟨sz, hsz⟩ : ∃ sz, Hid (ste z = sz) := ⟨_, rfl⟩
            go_upto_region 11 with fail
            cases z6 : inb z 0 7
            ·have y6 : Hid (inb z 0 7 = false) := z6
             clear z6
             as_aux_lemma =>
              refine wp_region_q s40_11 t40_11 (fun hbq => ?_)
              refine qY ?_
              refine qL ?_
              iterate 2 refine qY ?_
              refine qL ?_
              refine qJ (lin_lit z 0 7 false y6.out _) hbq ?_
              iterate 2 refine qY ?_
              iterate 10 refine qN ?_
              iterate 2 refine qY ?_
              iterate 16 refine qN ?_
              refine qY ?_
              refine qE ?_
              go_wp2
              go_ret
              exact ⟨ret_bool (hno.out (.inl (by rw [hso3.out]; exact hnt.out (.inl (by simp [ofB, y6.out]))))).symm, btrans b0 (btrans hBf hbq)⟩
            ·have y6 : Hid (inb z 0 7 = true) := z6
             clear z6
             by_cases e7 : sz = sm
             ·have y7 : Hid (sz = sm) := e7
              clear e7
              refine wp_region_q s40_11 t40_11 (fun hbq => ?_)
              refine qY ?_
              refine qL ?_
              iterate 2 refine qY ?_
              refine qL ?_
              refine qJ (lin_lit z 0 7 true y6.out _) hbq ?_
              iterate 3 refine qY ?_
              refine qL ?_
              iterate 2 refine qY ?_
              refine qL ?_
              refine qY ?_
              refine qL ?_
              refine qJ (lsite_any z _) hbq ?_; rw [hsz.out]
              refine qJ (lsite_any me _) hbq ?_; rw [hsm.out]
              refine qV (.bool false) ?_ (by (intro w; go_simp; all_goals (first | with_reducible rfl | (simp [y7.out]; done) | assumption | (simp; done) | (simp; omega))))
              iterate 3 refine qY ?_
              refine qV (.bool false) ?_
              refine qY ?_
              iterate 12 refine qN ?_
              iterate 2 refine qY ?_
              refine qE ?_
              go_wp2
              go_roundw
              case rel => exact ⟨0 + 1, by omega, by go_num, (btrans hbt2 hbq), hyt.out (by simp [ofB, y6.out, hsz.out, hsm.out, y7.out]), hyt2.out (fun h => by omega)⟩
              case measure => simp [intOf]; omega
             ·skip
              as_aux_lemma =>
               refine wp_region_q s40_11 t40_11 (fun hbq => ?_)
               refine qY ?_
               refine qL ?_
               iterate 2 refine qY ?_
               refine qL ?_
               refine qJ (lin_lit z 0 7 true y6.out _) hbq ?_
               iterate 3 refine qY ?_
               refine qL ?_
               iterate 2 refine qY ?_
               refine qL ?_
               refine qY ?_
               refine qL ?_
               refine qJ (lsite_any z _) hbq ?_; rw [hsz.out]
               refine qJ (lsite_any me _) hbq ?_; rw [hsm.out]
               refine qV (.bool true) ?_
               iterate 2 refine qY ?_
               iterate 16 refine qN ?_
               refine qY ?_
               refine qE ?_
               go_wp2
               go_ret
               exact ⟨ret_bool (hno.out (.inl (by rw [hso3.out]; exact hnt.out (.inl (by simp [ofB, hsz.out, hsm.out, e7]))))).symm, btrans b0 (btrans hBf hbq)⟩
           ·obtain ⟨t2, rfl⟩ : ∃ t2, t = t2 + 1 := ⟨t - 1, by omega⟩
            have hnt : Hid (ofB me (bf (t2 + 1)) = false ∨ (0 < (t2 + 1) ∧ ¬ bf ((t2 + 1) - 1) < bf (t2 + 1)) → (risB bl bf && obA me bl bf) = false) := by_no hlt2
            have hyt : Hid (ofB me (bf (t2 + 1)) = true → ∀ j, j < (t2 + 1) + 1 → ofB me (bf j) = true) := fun e j hj => by
             by_cases ej : j = (t2 + 1)
             ·subst ej; exact e
             ·exact hallt j (by omega)
            have hyt2 : Hid ((0 < (t2 + 1) → bf ((t2 + 1) - 1) < bf (t2 + 1)) → ∀ j, j < (t2 + 1) + 1 → 0 < j → bf (j - 1) < bf j) := fun e j hj h0 => by
             by_cases ej : j = (t2 + 1)
             ·subst ej; exact e h0
             ·exact hasct j (by omega) h0
            clear hallt hasct
            generalize bf (t2 + 1) = z at *
            have cp := hff2 t2 (by omega)
            obtain ⟨zp, hzp⟩ : ∃ zp, Hid (bf t2 = zp) := ⟨_, rfl⟩
            rw [hzp.out] at cp
            have x2 : (0 : Int) ≤ (t2 : Int) := by omega
            have x3 : (t2 : Int) + 1 < (bl : Int) := by omega
            have x4 : (t2 : Int) < (bl : Int) := by omega
            have x5 : (0 : Int) ≤ (t2 : Int) + 1 := by omega
            have x6 : (0 : Int) < (t2 : Int) + 1 := by omega
            have x7 : IntKind.i64.wrap (t2 : Int) = (t2 : Int) := by rw [IntKind.wrap_i64]; omega
            have x8 : IntKind.i64.wrap ((t2 : Int) + 1 - 1) = (t2 : Int) := by rw [IntKind.wrap_i64]; omega
            have x9 : ((t2 + 1 : Nat) : Int) = (t2 : Int) + 1 := by omega
            clear j3 j4
            rw [x9]
            obtain ⟨sz, hsz⟩ : ∃ sz, Hid (ste z = sz) := ⟨_, rfl⟩
            go_upto_region 11 with fail
            cases z6 : inb z 0 7
            ·have y6 : Hid (inb z 0 7 = false) := z6
             clear z6
             as_aux_lemma =>
              refine wp_region_q s40_11 t40_11 (fun hbq => ?_)
              refine qY ?_
              refine qL ?_
              iterate 2 refine qY ?_
              refine qL ?_
              refine qJ (lin_lit z 0 7 false y6.out _) hbq ?_
              iterate 2 refine qY ?_
              iterate 10 refine qN ?_
              iterate 2 refine qY ?_
              iterate 16 refine qN ?_
              refine qY ?_
              refine qE ?_
              go_wp2
              go_ret
              exact ⟨ret_bool (hno.out (.inl (by rw [hso3.out]; exact hnt.out (.inl (by simp [ofB, y6.out]))))).symm, btrans b0 (btrans hBf hbq)⟩
            ·have y6 : Hid (inb z 0 7 = true) := z6
             clear z6
             by_cases e7 : sz = sm
             ·have y7 : Hid (sz = sm) := e7
              clear e7
              by_cases e8 : z ≤ zp
              ·skip
               as_aux_lemma =>
                refine wp_region_q s40_11 t40_11 (fun hbq => ?_)
                refine qY ?_
                refine qL ?_
                iterate 2 refine qY ?_
                refine qL ?_
                refine qJ (lin_lit z 0 7 true y6.out _) hbq ?_
                iterate 3 refine qY ?_
                refine qL ?_
                iterate 2 refine qY ?_
                refine qL ?_
                refine qY ?_
                refine qL ?_
                refine qJ (lsite_any z _) hbq ?_; rw [hsz.out]
                refine qJ (lsite_any me _) hbq ?_; rw [hsm.out]
                refine qV (.bool false) ?_ (by (intro w; go_simp; all_goals (first | with_reducible rfl | (simp [y7.out]; done) | assumption | (simp; done) | (simp; omega))))
                iterate 3 refine qY ?_
                refine qV (.bool true) ?_
                iterate 2 refine qY ?_
                refine qL ?_
                iterate 3 refine qY ?_
                refine qL ?_
                refine qY ?_
                refine qL ?_
                iterate 2 refine qY ?_
                refine qL ?_
                refine qV (.bool true) ?_
                iterate 2 refine qY ?_
                refine qE ?_
                go_wp2
                go_ret
                exact ⟨ret_bool (hno.out (.inl (by rw [hso3.out]; exact hnt.out (.inr ⟨by omega, by rw [Nat.add_sub_cancel, hzp.out]; omega⟩)))).symm, btrans b0 (btrans hBf hbq)⟩
              ·skip
               refine wp_region_q s40_11 t40_11 (fun hbq => ?_)
               refine qY ?_
               refine qL ?_
               iterate 2 refine qY ?_
               refine qL ?_
               refine qJ (lin_lit z 0 7 true y6.out _) hbq ?_
               iterate 3 refine qY ?_
               refine qL ?_
               iterate 2 refine qY ?_
               refine qL ?_
               refine qY ?_
               refine qL ?_
               refine qJ (lsite_any z _) hbq ?_; rw [hsz.out]
               refine qJ (lsite_any me _) hbq ?_; rw [hsm.out]
               refine qV (.bool false) ?_ (by (intro w; go_simp; all_goals (first | with_reducible rfl | (simp [y7.out]; done) | assumption | (simp; done) | (simp; omega))))
               iterate 3 refine qY ?_
               refine qV (.bool true) ?_
               iterate 2 refine qY ?_
               refine qL ?_
               iterate 3 refine qY ?_
               refine qL ?_
               refine qY ?_
               refine qL ?_
               iterate 2 refine qY ?_
               refine qL ?_
               refine qV (.bool false) ?_
               iterate 2 refine qY ?_
               refine qE ?_
               go_wp2
               go_roundw
               case rel => exact ⟨(t2 + 1) + 1, by omega, by go_num, (btrans hbt2 hbq), hyt.out (by simp [ofB, y6.out, hsz.out, hsm.out, y7.out]), hyt2.out (fun _ => by rw [Nat.add_sub_cancel, hzp.out]; omega)⟩
               case measure => simp [intOf]; omega
             ·skip
              as_aux_lemma =>
               refine wp_region_q s40_11 t40_11 (fun hbq => ?_)
               refine qY ?_
               refine qL ?_
               iterate 2 refine qY ?_
               refine qL ?_
               refine qJ (lin_lit z 0 7 true y6.out _) hbq ?_
               iterate 3 refine qY ?_
               refine qL ?_
               iterate 2 refine qY ?_
               refine qL ?_
               refine qY ?_
               refine qL ?_
               refine qJ (lsite_any z _) hbq ?_; rw [hsz.out]
               refine qJ (lsite_any me _) hbq ?_; rw [hsm.out]
               refine qV (.bool true) ?_
               iterate 2 refine qY ?_
               iterate 16 refine qN ?_
               refine qY ?_
               refine qE ?_
               go_wp2
               go_ret
               exact ⟨ret_bool (hno.out (.inl (by rw [hso3.out]; exact hnt.out (.inl (by simp [ofB, hsz.out, hsm.out, e7]))))).symm, btrans b0 (btrans hBf hbq)⟩
          ·have hy : Hid ((risB bl bf && obA me bl bf) = true) := by
            rw [Hid]; unfold risB obA; rw [decide_eq_true fun j hj h0 => hasct j (by omega) h0, decide_eq_true fun j hj => hallt j (by omega)]; rfl
           clear hallt hasct
           go_wp2
           go_roundw
           case rel => exact ⟨0 + 1, by omega, by go_num, hBf, hyes.out (by rw [hso3.out]; exact hy.out), hyes2.out (fun h => by omega)⟩
           case measure => simp [intOf]; omega
      ·skip
       as_aux_lemma =>
        refine wp_region_q s40_6 t40_6 (fun hbq => ?_)
        refine qY ?_
        refine qV (.bool false) ?_
        refine qY ?_
        iterate 10 refine qN ?_
        iterate 3 refine qY ?_
        refine qV (.bool false) ?_
        iterate 3 refine qY ?_
        refine qL ?_
        iterate 3 refine qY ?_
        refine qL ?_
        refine qV (.bool false) ?_ (by (intro w; go_simp; all_goals (first | with_reducible rfl | (simp [y2.out]; done) | assumption | (simp; done) | (simp; omega))))
        iterate 3 refine qY ?_
        refine qL ?_
        iterate 3 refine qY ?_
        refine qL ?_
        refine qY ?_
        refine qL ?_
        refine qV (.bool true) ?_
        iterate 2 refine qY ?_
        iterate 6 refine qN ?_
        iterate 2 refine qY ?_
        iterate 4 refine qN ?_
        refine qY ?_
        refine qE ?_
        go_wp2
        go_ret
        exact ⟨ret_bool (hno.out (.inl (by rw [hso2.out]; simp [e5]))).symm, btrans b0 (btrans b3 hbq)⟩
     ·skip
      as_aux_lemma =>
       refine wp_region_q s40_6 t40_6 (fun hbq => ?_)
       refine qY ?_
       refine qV (.bool false) ?_
       refine qY ?_
       iterate 10 refine qN ?_
       iterate 3 refine qY ?_
       refine qV (.bool false) ?_
       iterate 3 refine qY ?_
       refine qL ?_
       iterate 3 refine qY ?_
       refine qL ?_
       refine qV (.bool true) ?_
       iterate 2 refine qY ?_
       iterate 9 refine qN ?_
       iterate 2 refine qY ?_
       iterate 6 refine qN ?_
       iterate 2 refine qY ?_
       iterate 4 refine qN ?_
       refine qY ?_
       refine qE ?_
       go_wp2
       go_ret
       exact ⟨ret_bool (hno.out (.inl (by rw [hso2.out]; simp [e4]))).symm, btrans b0 (btrans b3 hbq)⟩
   ·obtain ⟨m, rfl⟩ : ∃ m, k = m + 1 := ⟨k - 1, by omega⟩
    have hso : Hid (dbtB me now tl F (G (m + 1)).n (G (m + 1)).i (G (m + 1)).s (G (m + 1)).bl (G (m + 1)).bf = (decide ((fo F (fnd tl F (G (m + 1)).n)).s = 2) && decide ((fo F (fnd tl F (G (m + 1)).n)).i = (G (m + 1)).i) && inb (G (m + 1)).s 0 now && decide (0 < (G (m + 1)).bl) && risB (G (m + 1)).bl (G (m + 1)).bf && obA me (G (m + 1)).bl (G (m + 1)).bf)) := rfl
    have hno : Hid (dbtB me now tl F (G (m + 1)).n (G (m + 1)).i (G (m + 1)).s (G (m + 1)).bl (G (m + 1)).bf = false ∨ (0 < (m + 1) ∧ ¬ (G ((m + 1) - 1)).n < (G (m + 1)).n) → sdbsB me now tl F dl G = false) := dbs_no hlt
    have hyes : Hid (dbtB me now tl F (G (m + 1)).n (G (m + 1)).i (G (m + 1)).s (G (m + 1)).bl (G (m + 1)).bf = true → ∀ j, j < (m + 1) + 1 → dbtB me now tl F (G j).n (G j).i (G j).s (G j).bl (G j).bf = true) := fun e j hj => by
     by_cases ej : j = (m + 1)
     ·subst ej; exact e
     ·exact hall j (by omega)
    have hyes2 : Hid ((0 < (m + 1) → (G ((m + 1) - 1)).n < (G (m + 1)).n) → ∀ j, j < (m + 1) + 1 → 0 < j → (G (j - 1)).n < (G j).n) := fun e j hj h0 => by
     by_cases ej : j = (m + 1)
     ·subst ej; exact e h0
     ·exact hasc j (by omega) h0
    clear hall hasc
    generalize G (m + 1) = gx at *
    obtain ⟨n, i, s, ba, bl, bc, bf⟩ := gx
    dsimp only at c0 c1 c2 c3 hS hbl' hso hno hyes hyes2
    have b2 := balloc (.cells #[.int .i64 n, .int .i64 i, .int .i64 s, .slice ba bl bc] 121) hb
    have Y := Ws.box (w := wr) #[.int .i64 n, .int .i64 i, .int .i64 s, .slice ba bl bc] 121
    have l0 := keep_alloc (.cells #[.int .i64 n, .int .i64 i, .int .i64 s, .slice ba bl bc] 121) f0
    have l5 := keep_alloc (.cells #[.int .i64 n, .int .i64 i, .int .i64 s, .slice ba bl bc] 121) f5
    have l8 := keep_alloc (.cells #[.int .i64 n, .int .i64 i, .int .i64 s, .slice ba bl bc] 121) f8
    have l14 := keep_alloc (.cells #[.int .i64 n, .int .i64 i, .int .i64 s, .slice ba bl bc] 121) f14
    have l3 := hS.below (balloc (.cells #[.int .i64 n, .int .i64 i, .int .i64 s, .slice ba bl bc] 121) (Below.refl wr.heap.size wr))
    have lF := hF.below (balloc (.cells #[.int .i64 n, .int .i64 i, .int .i64 s, .slice ba bl bc] 121) (Below.refl wr.heap.size wr))
    obtain ⟨o0, _⟩ := (hf.below b2 hbl) m (by omega)
    obtain ⟨n0, hn0⟩ : ∃ n0, Hid ((G m).n = n0) := ⟨_, rfl⟩
    rw [hn0.out] at o0
    have i2 : (0 : Int) ≤ (m : Int) := by omega
    have i3 : (m : Int) + 1 < (dl : Int) := by omega
    have i4 : (m : Int) < (dl : Int) := by omega
    have i5 : (0 : Int) ≤ (m : Int) + 1 := by omega
    have i6 : (0 : Int) < (m : Int) + 1 := by omega
    have i7 : IntKind.i64.wrap (m : Int) = (m : Int) := by rw [IntKind.wrap_i64]; omega
    have i8 : IntKind.i64.wrap ((m : Int) + 1 - 1) = (m : Int) := by rw [IntKind.wrap_i64]; omega
    have i9 : ((m + 1 : Nat) : Int) = (m : Int) + 1 := by omega
    clear i0 i1
    rw [i9]
    go_upto_region 5 with fail
    generalize wr.alloc (.cells #[.int .i64 n, .int .i64 i, .int .i64 s, .slice ba bl bc] 121) = v at *
    generalize wr.heap.size = K2 at *
    have q10 := Y.c 0 (.int .i64 n) rfl
    go_wp2_with fail
    cases ef : fnd tl F n with
    | none =>
     have y0 : Hid (fnd tl F n = none) := ef
     clear ef
     refine (sfind_none ta tl tc F n y0.out _ lF hl).mono ?_
     rintro r w2 ⟨rfl, k3⟩
     have g0 := keep_below k3 l0
     have g5 := keep_below k3 l5
     have g8 := keep_below k3 l8
     have g14 := keep_below k3 l14
     have q3 := l3.below k3
     have qF := lF.below k3
     have b3 := btrans b2 k3
     have r10 := (Y.below k3).c 0 (.int .i64 n) rfl
     have r11 := (Y.below k3).c 1 (.int .i64 i) rfl
     have r12 := (Y.below k3).c 2 (.int .i64 s) rfl
     have r13 := (Y.below k3).c 3 (.slice ba bl bc) rfl
     have p0 := keep_below k3 o0
     clear o0
     clear Y c0 c1 c2 c3 f0 f5 f8 f14 hS l0 l5 l8 l14 l3 lF k3 q10 hF
     go_upto_region 6 with fail
     by_cases e3 : n ≤ n0
     ·skip
      as_aux_lemma =>
       refine wp_region_q s40_6 t40_6 (fun hbq => ?_)
       refine qY ?_
       refine qV (.bool true) ?_
       iterate 2 refine qY ?_
       refine qL ?_
       iterate 4 refine qY ?_
       refine qL ?_
       refine qY ?_
       refine qL ?_
       refine qV (.bool true) ?_
       iterate 2 refine qY ?_
       iterate 2 refine qN ?_
       iterate 2 refine qY ?_
       iterate 7 refine qN ?_
       iterate 2 refine qY ?_
       iterate 9 refine qN ?_
       iterate 2 refine qY ?_
       iterate 6 refine qN ?_
       iterate 2 refine qY ?_
       iterate 4 refine qN ?_
       refine qY ?_
       refine qE ?_
       go_wp2
       go_ret
       exact ⟨ret_bool (hno.out (.inr ⟨by omega, by rw [Nat.add_sub_cancel, hn0.out]; omega⟩)).symm, btrans b0 (btrans b3 hbq)⟩
     ·skip
      as_aux_lemma =>
       refine wp_region_q s40_6 t40_6 (fun hbq => ?_)
       refine qY ?_
       refine qV (.bool true) ?_
       iterate 2 refine qY ?_
       refine qL ?_
       iterate 4 refine qY ?_
       refine qL ?_
       refine qY ?_
       refine qL ?_
       refine qV (.bool false) ?_
       iterate 3 refine qY ?_
       refine qV (.bool true) ?_
       iterate 2 refine qY ?_
       iterate 7 refine qN ?_
       iterate 2 refine qY ?_
       iterate 9 refine qN ?_
       iterate 2 refine qY ?_
       iterate 6 refine qN ?_
       iterate 2 refine qY ?_
       iterate 4 refine qN ?_
       refine qY ?_
       refine qE ?_
       go_wp2
       go_ret
       exact ⟨ret_bool (hno.out (.inl (by rw [hso.out, y0.out]; simp [fo]))).symm, btrans b0 (btrans b3 hbq)⟩
    | some k2 =>
     have y0 : Hid (fnd tl F n = some k2) := ef
     have hk2 := fnd_lt ef
     clear ef
     refine (sfind_some ta tl tc F n k2 y0.out _ lF hl).mono ?_
     rintro r w2 ⟨rfl, k3⟩
     have g0 := keep_below k3 l0
     have g5 := keep_below k3 l5
     have g8 := keep_below k3 l8
     have g14 := keep_below k3 l14
     have q3 := l3.below k3
     have qF := lF.below k3
     have b3 := btrans b2 k3
     have r10 := (Y.below k3).c 0 (.int .i64 n) rfl
     have r11 := (Y.below k3).c 1 (.int .i64 i) rfl
     have r12 := (Y.below k3).c 2 (.int .i64 s) rfl
     have r13 := (Y.below k3).c 3 (.slice ba bl bc) rfl
     have p0 := keep_below k3 o0
     clear o0
     clear Y c0 c1 c2 c3 f0 f5 f8 f14 hS l0 l5 l8 l14 l3 lF k3 q10 hF
     go_upto_region 6 with fail
     obtain ⟨bt, ot, rfl, hbt, hft⟩ := qF (by omega)
     obtain ⟨t0, t1, t2, t3⟩ := hft k2 hk2
     have j0 : (0 : Int) ≤ (k2 : Int) := by omega
     have j1 : (k2 : Int) < (tl : Int) := by omega
     have j2 : ¬ (k2 : Int) < 0 := by omega
     have hso2 : Hid (dbtB me now tl F n i s bl bf = (decide ((F k2).s = 2) && decide ((F k2).i = i) && inb s 0 now && decide (0 < bl) && risB bl bf && obA me bl bf)) := by
      rw [Hid, hso.out, y0.out]; rfl
     clear hso hft qF
     generalize F k2 = f at *
     obtain ⟨fn, fi, fs, fg⟩ := f
     dsimp only at t0 t1 t2 t3 hso2
     by_cases e3 : n ≤ n0
     ·skip
      as_aux_lemma =>
       refine wp_region_q s40_6 t40_6 (fun hbq => ?_)
       refine qY ?_
       refine qV (.bool true) ?_
       iterate 2 refine qY ?_
       refine qL ?_
       iterate 4 refine qY ?_
       refine qL ?_
       refine qY ?_
       refine qL ?_
       refine qV (.bool true) ?_
       iterate 2 refine qY ?_
       iterate 2 refine qN ?_
       iterate 2 refine qY ?_
       iterate 7 refine qN ?_
       iterate 2 refine qY ?_
       iterate 9 refine qN ?_
       iterate 2 refine qY ?_
       iterate 6 refine qN ?_
       iterate 2 refine qY ?_
       iterate 4 refine qN ?_
       refine qY ?_
       refine qE ?_
       go_wp2
       go_ret
       exact ⟨ret_bool (hno.out (.inr ⟨by omega, by rw [Nat.add_sub_cancel, hn0.out]; omega⟩)).symm, btrans b0 (btrans b3 hbq)⟩
     ·skip
      by_cases e4 : fs = 2
      ·have y2 : Hid (fs = 2) := e4
       clear e4
       by_cases e5 : fi = i
       ·have y3 : Hid (fi = i) := e5
        clear e5
        cases z4 : inb s 0 now
        ·have y4 : Hid (inb s 0 now = false) := z4
         clear z4
         as_aux_lemma =>
          refine wp_region_q s40_6 t40_6 (fun hbq => ?_)
          refine qY ?_
          refine qV (.bool true) ?_
          iterate 2 refine qY ?_
          refine qL ?_
          iterate 4 refine qY ?_
          refine qL ?_
          refine qY ?_
          refine qL ?_
          refine qV (.bool false) ?_
          iterate 3 refine qY ?_
          refine qV (.bool false) ?_
          iterate 3 refine qY ?_
          refine qL ?_
          iterate 3 refine qY ?_
          refine qL ?_
          refine qV (.bool false) ?_ (by (intro w; go_simp; all_goals (first | with_reducible rfl | (simp [y2.out]; done) | assumption | (simp; done) | (simp; omega))))
          iterate 3 refine qY ?_
          refine qL ?_
          iterate 3 refine qY ?_
          refine qL ?_
          refine qY ?_
          refine qL ?_
          refine qV (.bool false) ?_ (by (intro w; go_simp; all_goals (first | with_reducible rfl | (simp [y3.out]; done) | assumption | (simp; done) | (simp; omega))))
          iterate 3 refine qY ?_
          refine qL ?_
          refine qY ?_
          refine qL ?_
          refine qJ (lin_lit s 0 now false y4.out _) hbq ?_
          iterate 3 refine qY ?_
          iterate 4 refine qN ?_
          refine qY ?_
          refine qE ?_
          go_wp2
          go_ret
          exact ⟨ret_bool (hno.out (.inl (by rw [hso2.out, y4.out]; simp))).symm, btrans b0 (btrans b3 hbq)⟩
        ·have y4 : Hid (inb s 0 now = true) := z4
         clear z4
         by_cases e6 : bl = 0
         ·have y5 : Hid (bl = 0) := e6
          clear e6
          as_aux_lemma =>
           refine wp_region_q s40_6 t40_6 (fun hbq => ?_)
           refine qY ?_
           refine qV (.bool true) ?_
           iterate 2 refine qY ?_
           refine qL ?_
           iterate 4 refine qY ?_
           refine qL ?_
           refine qY ?_
           refine qL ?_
           refine qV (.bool false) ?_
           iterate 3 refine qY ?_
           refine qV (.bool false) ?_
           iterate 3 refine qY ?_
           refine qL ?_
           iterate 3 refine qY ?_
           refine qL ?_
           refine qV (.bool false) ?_ (by (intro w; go_simp; all_goals (first | with_reducible rfl | (simp [y2.out]; done) | assumption | (simp; done) | (simp; omega))))
           iterate 3 refine qY ?_
           refine qL ?_
           iterate 3 refine qY ?_
           refine qL ?_
           refine qY ?_
           refine qL ?_
           refine qV (.bool false) ?_ (by (intro w; go_simp; all_goals (first | with_reducible rfl | (simp [y3.out]; done) | assumption | (simp; done) | (simp; omega))))
           iterate 3 refine qY ?_
           refine qL ?_
           refine qY ?_
           refine qL ?_
           refine qJ (lin_lit s 0 now true y4.out _) hbq ?_
           iterate 4 refine qY ?_
           refine qL ?_
           refine qY ?_
           refine qV (.bool true) ?_ (by (intro w; go_simp; all_goals (first | with_reducible rfl | (simp [y5.out]; done) | assumption | (simp; done) | (simp; omega))))
           refine qY ?_
           refine qE ?_
           go_wp2
           go_ret
           exact ⟨ret_bool (hno.out (.inl (by rw [hso2.out, y5.out]; simp))).symm, btrans b0 (btrans b3 hbq)⟩
         ·skip
          refine wp_region_q s40_6 t40_6 (fun hbq => ?_)
          refine qY ?_
          refine qV (.bool true) ?_
          iterate 2 refine qY ?_
          refine qL ?_
          iterate 4 refine qY ?_
          refine qL ?_
          refine qY ?_
          refine qL ?_
          refine qV (.bool false) ?_
          iterate 3 refine qY ?_
          refine qV (.bool false) ?_
          iterate 3 refine qY ?_
          refine qL ?_
          iterate 3 refine qY ?_
          refine qL ?_
          refine qV (.bool false) ?_ (by (intro w; go_simp; all_goals (first | with_reducible rfl | (simp [y2.out]; done) | assumption | (simp; done) | (simp; omega))))
          iterate 3 refine qY ?_
          refine qL ?_
          iterate 3 refine qY ?_
          refine qL ?_
          refine qY ?_
          refine qL ?_
          refine qV (.bool false) ?_ (by (intro w; go_simp; all_goals (first | with_reducible rfl | (simp [y3.out]; done) | assumption | (simp; done) | (simp; omega))))
          iterate 3 refine qY ?_
          refine qL ?_
          refine qY ?_
          refine qL ?_
          refine qJ (lin_lit s 0 now true y4.out _) hbq ?_
          iterate 4 refine qY ?_
          refine qL ?_
          refine qY ?_
          refine qV (.bool false) ?_
          refine qY ?_
          refine qE ?_
          have hso3 : Hid (dbtB me now tl F n i s bl bf = (risB bl bf && obA me bl bf)) := by
           have e6' : 0 < bl := by omega
           rw [Hid, hso2.out, y2.out, y3.out, y4.out]; simp [e6']
          have hc3 := (keep_below hbq r13)
          have hme := (keep_below hbq g0)
          have hI := (q3.below hbq)
          have hBe := (btrans b3 hbq)
          clear hso2 y2 y3 y4 t0 t1 t2 t3
          go_wp2_with fail
          go_loopw [6] (fun i wt => ∃ t : Nat, t ≤ bl ∧ i = .int .i64 t ∧ Below w2.drew.heap.size w2.drew wt ∧ (∀ j, j < t → ofB me (bf j) = true) ∧ (∀ j, j < t → 0 < j → bf (j - 1) < bf j)) (fun i _ => bl - (intOf i).toNat)
          case atStart => exact ⟨0, by omega, rfl, Below.refl _ _, fun j h1 => by omega, fun j h1 => by omega⟩
          case round =>
           obtain ⟨t, ht, rfl, hbt2, hallt, hasct⟩ := hrel
           have m3 := keep_below hbt2 hc3
           have m0 := keep_below hbt2 hme
           have hBf := btrans hBe hbt2
           by_cases hlt2 : t < bl
           ·obtain ⟨bb, ob, rfl, hbb, hff⟩ := hI (by omega)
            have hff2 := hff.below hbt2 hbb
            have ct := hff2 t hlt2
            have j3 : (0 : Int) ≤ (t : Int) := by omega
            have j4 : (t : Int) < (bl : Int) := by omega
            rcases Nat.eq_zero_or_pos t with g | g
            ·subst g
             simp only [Nat.add_zero] at ct
             have hnt : Hid (ofB me (bf 0) = false ∨ (0 < 0 ∧ ¬ bf (0 - 1) < bf 0) → (risB bl bf && obA me bl bf) = false) := by_no hlt2
             have hyt : Hid (ofB me (bf 0) = true → ∀ j, j < 0 + 1 → ofB me (bf j) = true) := fun e j hj => by
              by_cases ej : j = 0
              ·subst ej; exact e
              ·exact hallt j (by omega)
             have hyt2 : Hid ((0 < 0 → bf (0 - 1) < bf 0) → ∀ j, j < 0 + 1 → 0 < j → bf (j - 1) < bf j) := fun e j hj h0 => by
              by_cases ej : j = 0
              ·subst ej; exact e h0
              ·exact hasct j (by omega) h0
             clear hallt hasct
             generalize bf 0 = z at *
             obtain ⟨sz, hsz⟩ : ∃ sz, Hid (ste z = sz) := ⟨_, rfl⟩
             go_upto_region 11 with fail
             cases z6 : inb z 0 7
             ·have y6 : Hid (inb z 0 7 = false) := z6
              clear z6
              as_aux_lemma =>
               refine wp_region_q s40_11 t40_11 (fun hbq => ?_)
               refine qY ?_
               refine qL ?_
               iterate 2 refine qY ?_
               refine qL ?_
               refine qJ (lin_lit z 0 7 false y6.out _) hbq ?_
               iterate 2 refine qY ?_
               iterate 10 refine qN ?_
               iterate 2 refine qY ?_
               iterate 16 refine qN ?_
               refine qY ?_
               refine qE ?_
               go_wp2
               go_ret
               exact ⟨ret_bool (hno.out (.inl (by rw [hso3.out]; exact hnt.out (.inl (by simp [ofB, y6.out]))))).symm, btrans b0 (btrans hBf hbq)⟩
             ·have y6 : Hid (inb z 0 7 = true) := z6
              clear z6
              by_cases e7 : sz = sm
              ·have y7 : Hid (sz = sm) := e7
               clear e7
               refine wp_region_q s40_11 t40_11 (fun hbq => ?_)
               refine qY ?_
               refine qL ?_
               iterate 2 refine qY ?_
               refine qL ?_
               refine qJ (lin_lit z 0 7 true y6.out _) hbq ?_
               iterate 3 refine qY ?_
               refine qL ?_
               iterate 2 refine qY ?_
               refine qL ?_
               refine qY ?_
               refine qL ?_
               refine qJ (lsite_any z _) hbq ?_; rw [hsz.out]
               refine qJ (lsite_any me _) hbq ?_; rw [hsm.out]
               refine qV (.bool false) ?_ (by (intro w; go_simp; all_goals (first | with_reducible rfl | (simp [y7.out]; done) | assumption | (simp; done) | (simp; omega))))
               iterate 3 refine qY ?_
               refine qV (.bool false) ?_
               refine qY ?_
               iterate 12 refine qN ?_
               iterate 2 refine qY ?_
               refine qE ?_
               go_wp2
               go_roundw
               case rel => exact ⟨0 + 1, by omega, by go_num, (btrans hbt2 hbq), hyt.out (by simp [ofB, y6.out, hsz.out, hsm.out, y7.out]), hyt2.out (fun h => by omega)⟩
               case measure => simp [intOf]; omega
              ·skip
               as_aux_lemma =>
                refine wp_region_q s40_11 t40_11 (fun hbq => ?_)
                refine qY ?_
                refine qL ?_
                iterate 2 refine qY ?_
                refine qL ?_
                refine qJ (lin_lit z 0 7 true y6.out _) hbq ?_
                iterate 3 refine qY ?_
                refine qL ?_
                iterate 2 refine qY ?_
                refine qL ?_
                refine qY ?_
                refine qL ?_
                refine qJ (lsite_any z _) hbq ?_; rw [hsz.out]
                refine qJ (lsite_any me _) hbq ?_; rw [hsm.out]
                refine qV (.bool true) ?_
                iterate 2 refine qY ?_
                iterate 16 refine qN ?_
                refine qY ?_
                refine qE ?_
                go_wp2
                go_ret
                exact ⟨ret_bool (hno.out (.inl (by rw [hso3.out]; exact hnt.out (.inl (by simp [ofB, hsz.out, hsm.out, e7]))))).symm, btrans b0 (btrans hBf hbq)⟩
            ·obtain ⟨t2, rfl⟩ : ∃ t2, t = t2 + 1 := ⟨t - 1, by omega⟩
             have hnt : Hid (ofB me (bf (t2 + 1)) = false ∨ (0 < (t2 + 1) ∧ ¬ bf ((t2 + 1) - 1) < bf (t2 + 1)) → (risB bl bf && obA me bl bf) = false) := by_no hlt2
             have hyt : Hid (ofB me (bf (t2 + 1)) = true → ∀ j, j < (t2 + 1) + 1 → ofB me (bf j) = true) := fun e j hj => by
              by_cases ej : j = (t2 + 1)
              ·subst ej; exact e
              ·exact hallt j (by omega)
             have hyt2 : Hid ((0 < (t2 + 1) → bf ((t2 + 1) - 1) < bf (t2 + 1)) → ∀ j, j < (t2 + 1) + 1 → 0 < j → bf (j - 1) < bf j) := fun e j hj h0 => by
              by_cases ej : j = (t2 + 1)
              ·subst ej; exact e h0
              ·exact hasct j (by omega) h0
             clear hallt hasct
             generalize bf (t2 + 1) = z at *
             have cp := hff2 t2 (by omega)
             obtain ⟨zp, hzp⟩ : ∃ zp, Hid (bf t2 = zp) := ⟨_, rfl⟩
             rw [hzp.out] at cp
             have x2 : (0 : Int) ≤ (t2 : Int) := by omega
             have x3 : (t2 : Int) + 1 < (bl : Int) := by omega
             have x4 : (t2 : Int) < (bl : Int) := by omega
             have x5 : (0 : Int) ≤ (t2 : Int) + 1 := by omega
             have x6 : (0 : Int) < (t2 : Int) + 1 := by omega
             have x7 : IntKind.i64.wrap (t2 : Int) = (t2 : Int) := by rw [IntKind.wrap_i64]; omega
             have x8 : IntKind.i64.wrap ((t2 : Int) + 1 - 1) = (t2 : Int) := by rw [IntKind.wrap_i64]; omega
             have x9 : ((t2 + 1 : Nat) : Int) = (t2 : Int) + 1 := by omega
             clear j3 j4
             rw [x9]
             obtain ⟨sz, hsz⟩ : ∃ sz, Hid (ste z = sz) := ⟨_, rfl⟩
             go_upto_region 11 with fail
             cases z6 : inb z 0 7
             ·have y6 : Hid (inb z 0 7 = false) := z6
              clear z6
              as_aux_lemma =>
               refine wp_region_q s40_11 t40_11 (fun hbq => ?_)
               refine qY ?_
               refine qL ?_
               iterate 2 refine qY ?_
               refine qL ?_
               refine qJ (lin_lit z 0 7 false y6.out _) hbq ?_
               iterate 2 refine qY ?_
               iterate 10 refine qN ?_
               iterate 2 refine qY ?_
               iterate 16 refine qN ?_
               refine qY ?_
               refine qE ?_
               go_wp2
               go_ret
               exact ⟨ret_bool (hno.out (.inl (by rw [hso3.out]; exact hnt.out (.inl (by simp [ofB, y6.out]))))).symm, btrans b0 (btrans hBf hbq)⟩
             ·have y6 : Hid (inb z 0 7 = true) := z6
              clear z6
              by_cases e7 : sz = sm
              ·have y7 : Hid (sz = sm) := e7
               clear e7
               by_cases e8 : z ≤ zp
               ·skip
                as_aux_lemma =>
                 refine wp_region_q s40_11 t40_11 (fun hbq => ?_)
                 refine qY ?_
                 refine qL ?_
                 iterate 2 refine qY ?_
                 refine qL ?_
                 refine qJ (lin_lit z 0 7 true y6.out _) hbq ?_
                 iterate 3 refine qY ?_
                 refine qL ?_
                 iterate 2 refine qY ?_
                 refine qL ?_
                 refine qY ?_
                 refine qL ?_
                 refine qJ (lsite_any z _) hbq ?_; rw [hsz.out]
                 refine qJ (lsite_any me _) hbq ?_; rw [hsm.out]
                 refine qV (.bool false) ?_ (by (intro w; go_simp; all_goals (first | with_reducible rfl | (simp [y7.out]; done) | assumption | (simp; done) | (simp; omega))))
                 iterate 3 refine qY ?_
                 refine qV (.bool true) ?_
                 iterate 2 refine qY ?_
                 refine qL ?_
                 iterate 3 refine qY ?_
                 refine qL ?_
                 refine qY ?_
                 refine qL ?_
                 iterate 2 refine qY ?_
                 refine qL ?_
                 refine qV (.bool true) ?_
                 iterate 2 refine qY ?_
                 refine qE ?_
                 go_wp2
                 go_ret
                 exact ⟨ret_bool (hno.out (.inl (by rw [hso3.out]; exact hnt.out (.inr ⟨by omega, by rw [Nat.add_sub_cancel, hzp.out]; omega⟩)))).symm, btrans b0 (btrans hBf hbq)⟩
               ·skip
                refine wp_region_q s40_11 t40_11 (fun hbq => ?_)
                refine qY ?_
                refine qL ?_
                iterate 2 refine qY ?_
                refine qL ?_
                refine qJ (lin_lit z 0 7 true y6.out _) hbq ?_
                iterate 3 refine qY ?_
                refine qL ?_
                iterate 2 refine qY ?_
                refine qL ?_
                refine qY ?_
                refine qL ?_
                refine qJ (lsite_any z _) hbq ?_; rw [hsz.out]
                refine qJ (lsite_any me _) hbq ?_; rw [hsm.out]
                refine qV (.bool false) ?_ (by (intro w; go_simp; all_goals (first | with_reducible rfl | (simp [y7.out]; done) | assumption | (simp; done) | (simp; omega))))
                iterate 3 refine qY ?_
                refine qV (.bool true) ?_
                iterate 2 refine qY ?_
                refine qL ?_
                iterate 3 refine qY ?_
                refine qL ?_
                refine qY ?_
                refine qL ?_
                iterate 2 refine qY ?_
                refine qL ?_
                refine qV (.bool false) ?_
                iterate 2 refine qY ?_
                refine qE ?_
                go_wp2
                go_roundw
                case rel => exact ⟨(t2 + 1) + 1, by omega, by go_num, (btrans hbt2 hbq), hyt.out (by simp [ofB, y6.out, hsz.out, hsm.out, y7.out]), hyt2.out (fun _ => by rw [Nat.add_sub_cancel, hzp.out]; omega)⟩
                case measure => simp [intOf]; omega
              ·skip
               as_aux_lemma =>
                refine wp_region_q s40_11 t40_11 (fun hbq => ?_)
                refine qY ?_
                refine qL ?_
                iterate 2 refine qY ?_
                refine qL ?_
                refine qJ (lin_lit z 0 7 true y6.out _) hbq ?_
                iterate 3 refine qY ?_
                refine qL ?_
                iterate 2 refine qY ?_
                refine qL ?_
                refine qY ?_
                refine qL ?_
                refine qJ (lsite_any z _) hbq ?_; rw [hsz.out]
                refine qJ (lsite_any me _) hbq ?_; rw [hsm.out]
                refine qV (.bool true) ?_
                iterate 2 refine qY ?_
                iterate 16 refine qN ?_
                refine qY ?_
                refine qE ?_
                go_wp2
                go_ret
                exact ⟨ret_bool (hno.out (.inl (by rw [hso3.out]; exact hnt.out (.inl (by simp [ofB, hsz.out, hsm.out, e7]))))).symm, btrans b0 (btrans hBf hbq)⟩
           ·have hy : Hid ((risB bl bf && obA me bl bf) = true) := by
             rw [Hid]; unfold risB obA; rw [decide_eq_true fun j hj h0 => hasct j (by omega) h0, decide_eq_true fun j hj => hallt j (by omega)]; rfl
            clear hallt hasct
            go_wp2
            go_roundw
            case rel => exact ⟨(m + 1) + 1, by omega, by go_num, hBf, hyes.out (by rw [hso3.out]; exact hy.out), hyes2.out (fun _ => by rw [Nat.add_sub_cancel, hn0.out]; omega)⟩
            case measure => simp [intOf]; omega
       ·skip
        as_aux_lemma =>
         refine wp_region_q s40_6 t40_6 (fun hbq => ?_)
         refine qY ?_
         refine qV (.bool true) ?_
         iterate 2 refine qY ?_
         refine qL ?_
         iterate 4 refine qY ?_
         refine qL ?_
         refine qY ?_
         refine qL ?_
         refine qV (.bool false) ?_
         iterate 3 refine qY ?_
         refine qV (.bool false) ?_
         iterate 3 refine qY ?_
         refine qL ?_
         iterate 3 refine qY ?_
         refine qL ?_
         refine qV (.bool false) ?_ (by (intro w; go_simp; all_goals (first | with_reducible rfl | (simp [y2.out]; done) | assumption | (simp; done) | (simp; omega))))
         iterate 3 refine qY ?_
         refine qL ?_
         iterate 3 refine qY ?_
         refine qL ?_
         refine qY ?_
         refine qL ?_
         refine qV (.bool true) ?_
         iterate 2 refine qY ?_
         iterate 6 refine qN ?_
         iterate 2 refine qY ?_
         iterate 4 refine qN ?_
         refine qY ?_
         refine qE ?_
         go_wp2
         go_ret
         exact ⟨ret_bool (hno.out (.inl (by rw [hso2.out]; simp [e5]))).symm, btrans b0 (btrans b3 hbq)⟩
      ·skip
       as_aux_lemma =>
        refine wp_region_q s40_6 t40_6 (fun hbq => ?_)
        refine qY ?_
        refine qV (.bool true) ?_
        iterate 2 refine qY ?_
        refine qL ?_
        iterate 4 refine qY ?_
        refine qL ?_
        refine qY ?_
        refine qL ?_
        refine qV (.bool false) ?_
        iterate 3 refine qY ?_
        refine qV (.bool false) ?_
        iterate 3 refine qY ?_
        refine qL ?_
        iterate 3 refine qY ?_
        refine qL ?_
        refine qV (.bool true) ?_
        iterate 2 refine qY ?_
        iterate 9 refine qN ?_
        iterate 2 refine qY ?_
        iterate 6 refine qN ?_
        iterate 2 refine qY ?_
        iterate 4 refine qN ?_
        refine qY ?_
        refine qE ?_
        go_wp2
        go_ret
        exact ⟨ret_bool (hno.out (.inl (by rw [hso2.out]; simp [e4]))).symm, btrans b0 (btrans b3 hbq)⟩
  ·have hyA : Hid ((Dtasc dl G && dbA me now tl F dl G) = true) := by
    rw [Hid]; unfold Dtasc risB dbA; rw [decide_eq_true fun j hj h0 => hasc j (by omega) h0, decide_eq_true fun j hj => hall j (by omega)]; rfl
   clear hall hasc
   go_wp2_with fail
   go_loopw [7, 8] (fun c i wt => ∃ t : Nat, t ≤ tl ∧ i = .int .i64 t ∧ c = .int .i64 (cntN F 2 t : Int) ∧ Below wr.heap.size wr wt) (fun _ i _ => tl - (intOf i).toNat)
   case atStart => exact ⟨0, by omega, rfl, rfl, Below.refl _ _⟩
   case round =>
    obtain ⟨t, ht, rfl, rfl, hbt⟩ := hrel
    have m8 := keep_below hbt f8
    have m14 := keep_below hbt f14
    have hc := cnt_le F 2 t
    by_cases hlt2 : t < tl
    ·obtain ⟨bt, ot, rfl, hbb, hft⟩ := hF (by omega)
     obtain ⟨t0, t1, t2, t3⟩ := (hft.below hbt hbb) t hlt2
     have j3 : (0 : Int) ≤ (t : Int) := by omega
     have j4 : (t : Int) < (tl : Int) := by omega
     by_cases hs : (F t).s = 2
     ·have g3 : Hid (cntN F 2 (t + 1) = cntN F 2 t + 1) := by unfold Hid; rw [cntN, if_pos hs]
      generalize cntN F 2 t = c at *
      go_wp2
      go_roundw
      case rel => exact ⟨t + 1, by omega, by go_num, by rw [g3.out]; go_num, hbt⟩
      case measure => simp [intOf]; omega
     ·have g3 : Hid (cntN F 2 (t + 1) = cntN F 2 t) := by unfold Hid; rw [cntN, if_neg hs]
      generalize cntN F 2 t = c at *
      go_wp2
      go_roundw
      case rel => exact ⟨t + 1, by omega, by go_num, by rw [g3.out], hbt⟩
      case measure => simp [intOf]; omega
    ·have e : t = tl := by omega
     subst e
     have hz : Hid (sdbsB me now t F dl G = ((cntN F 2 t : Int) == (dl : Int))) := by
      rw [Hid]; unfold sdbsB; rw [hyA.out, Bool.true_and]
     generalize cntN F 2 t = c at *
     go_wp2
     go_ret
     exact ⟨ret_bool (by rw [hz.out]), btrans b0 (btrans hb hbt)⟩
end Go.Proofs.YtgcdcfjaeehnbaaGreat
