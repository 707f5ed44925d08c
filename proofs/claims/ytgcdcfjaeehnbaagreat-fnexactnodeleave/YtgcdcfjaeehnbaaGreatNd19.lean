/- Nodes, the model's way: who is down is ok. -/
import Derived.Test.YtgcdcfjaeehnbaaGreatNd18
import Derived.Test.YtgcdcfjaeehnbaaGreatInts
namespace Go.Proofs.YtgcdcfjaeehnbaaGreat
open Go.ChangeShapes Go.WideShapes Go.ChangeAt Go.RowKit
set_option maxRecDepth 20000
set_option maxHeartbeats 8000000
attribute [local go_sem ↓] Go.wp_at_zero Go.wp_at_succ
def s9_4 : List Stp := [⟨some 34, .fieldAddr 42 (.tmp 1) 2, 0, none, 0⟩, ⟨some 35, .load 4 (.tmp 34), 4, none, 0⟩, ⟨some 36, .unOp .not 4 (.tmp 35), 4, none, 2⟩, ⟨some 37, .move (.tmp 36), 4, none, 0⟩, ⟨some 38, .fieldAddr 42 (.tmp 1) 4, 0, some (37, true), 0⟩, ⟨some 39, .load 3 (.tmp 38), 3, some (37, true), 0⟩, ⟨some 40, .binOp .eql 3 (.tmp 39) (.const (.int .i64 0)) 3, 4, some (37, true), 2⟩, ⟨some 41, .pick (.tmp 37) (.tmp 40) (.const (.bool false)), 4, none, 0⟩, ⟨some 42, .move (.tmp 41), 4, none, 0⟩, ⟨some 43, .fieldAddr 42 (.tmp 1) 5, 0, some (42, true), 0⟩, ⟨some 44, .load 3 (.tmp 43), 3, some (42, true), 0⟩, ⟨some 45, .binOp .eql 3 (.tmp 44) (.const (.int .i64 0)) 3, 4, some (42, true), 2⟩, ⟨some 46, .pick (.tmp 42) (.tmp 45) (.const (.bool false)), 4, none, 0⟩, ⟨some 47, .move (.tmp 46), 4, none, 0⟩, ⟨some 48, .fieldAddr 42 (.tmp 1) 6, 0, some (47, true), 0⟩, ⟨some 49, .load 3 (.tmp 48), 3, some (47, true), 0⟩, ⟨some 50, .binOp .eql 3 (.tmp 49) (.const (.int .i64 0)) 3, 4, some (47, true), 2⟩, ⟨some 51, .pick (.tmp 47) (.tmp 50) (.const (.bool false)), 4, none, 0⟩, ⟨some 52, .move (.tmp 51), 4, none, 0⟩, ⟨some 53, .fieldAddr 42 (.tmp 1) 7, 0, some (52, true), 0⟩, ⟨some 54, .load 3 (.tmp 53), 3, some (52, true), 0⟩, ⟨some 55, .binOp .eql 3 (.tmp 54) (.const (.int .i64 0)) 3, 4, some (52, true), 2⟩, ⟨some 56, .pick (.tmp 52) (.tmp 55) (.const (.bool false)), 4, none, 0⟩, ⟨some 57, .move (.tmp 56), 4, none, 0⟩, ⟨some 58, .fieldAddr 42 (.tmp 1) 8, 0, some (57, true), 0⟩, ⟨some 59, .load 34 (.tmp 58), 34, some (57, true), 0⟩, ⟨some 60, .call { callee := .builtin .len, args := #[.tmp 59], argTypes := #[34] }, 3, some (57, true), 0⟩, ⟨some 61, .fieldAddr 42 (.tmp 1) 9, 0, some (57, true), 0⟩, ⟨some 62, .load 35 (.tmp 61), 35, some (57, true), 0⟩, ⟨some 63, .call { callee := .builtin .len, args := #[.tmp 62], argTypes := #[35] }, 3, some (57, true), 0⟩, ⟨some 64, .binOp .add 3 (.tmp 60) (.tmp 63) 3, 3, some (57, true), 0⟩, ⟨some 65, .fieldAddr 42 (.tmp 1) 11, 0, some (57, true), 0⟩, ⟨some 66, .load 37 (.tmp 65), 37, some (57, true), 0⟩, ⟨some 67, .call { callee := .builtin .len, args := #[.tmp 66], argTypes := #[37] }, 3, some (57, true), 0⟩, ⟨some 68, .binOp .add 3 (.tmp 64) (.tmp 67) 3, 3, some (57, true), 0⟩, ⟨some 69, .fieldAddr 42 (.tmp 1) 13, 0, some (57, true), 0⟩, ⟨some 70, .load 39 (.tmp 69), 39, some (57, true), 0⟩, ⟨some 71, .call { callee := .builtin .len, args := #[.tmp 70], argTypes := #[39] }, 3, some (57, true), 0⟩, ⟨some 72, .binOp .add 3 (.tmp 68) (.tmp 71) 3, 3, some (57, true), 0⟩, ⟨some 73, .fieldAddr 42 (.tmp 1) 14, 0, some (57, true), 0⟩, ⟨some 74, .load 40 (.tmp 73), 40, some (57, true), 0⟩, ⟨some 75, .call { callee := .builtin .len, args := #[.tmp 74], argTypes := #[40] }, 3, some (57, true), 0⟩, ⟨some 76, .binOp .add 3 (.tmp 72) (.tmp 75) 3, 3, some (57, true), 0⟩, ⟨some 77, .binOp .eql 3 (.tmp 76) (.const (.int .i64 0)) 3, 4, some (57, true), 2⟩, ⟨some 78, .pick (.tmp 57) (.tmp 77) (.const (.bool false)), 4, none, 0⟩, ⟨some 79, .move (.tmp 78), 4, none, 0⟩, ⟨some 80, .fieldAddr 42 (.tmp 1) 10, 0, some (79, true), 0⟩, ⟨some 81, .fieldAddr 36 (.tmp 80) 0, 0, some (79, true), 0⟩, ⟨some 82, .load 3 (.tmp 81), 3, some (79, true), 0⟩, ⟨some 83, .binOp .eql 3 (.tmp 82) (.const (.int .i64 0)) 3, 4, some (79, true), 2⟩, ⟨some 84, .pick (.tmp 79) (.tmp 83) (.const (.bool false)), 4, none, 0⟩, ⟨some 85, .move (.tmp 84), 4, none, 0⟩, ⟨some 86, .fieldAddr 42 (.tmp 1) 10, 0, some (85, true), 0⟩, ⟨some 87, .fieldAddr 36 (.tmp 86) 1, 0, some (85, true), 0⟩, ⟨some 88, .load 3 (.tmp 87), 3, some (85, true), 0⟩, ⟨some 89, .binOp .eql 3 (.tmp 88) (.const (.int .i64 0)) 3, 4, some (85, true), 2⟩, ⟨some 90, .pick (.tmp 85) (.tmp 89) (.const (.bool false)), 4, none, 0⟩, ⟨some 91, .move (.tmp 90), 4, none, 0⟩, ⟨some 92, .fieldAddr 42 (.tmp 1) 10, 0, some (91, true), 0⟩, ⟨some 93, .fieldAddr 36 (.tmp 92) 2, 0, some (91, true), 0⟩, ⟨some 94, .load 3 (.tmp 93), 3, some (91, true), 0⟩, ⟨some 95, .binOp .eql 3 (.tmp 94) (.const (.int .i64 0)) 3, 4, some (91, true), 2⟩, ⟨some 96, .pick (.tmp 91) (.tmp 95) (.const (.bool false)), 4, none, 0⟩, ⟨some 97, .move (.tmp 96), 4, none, 0⟩, ⟨some 98, .fieldAddr 42 (.tmp 1) 10, 0, some (97, true), 0⟩, ⟨some 99, .fieldAddr 36 (.tmp 98) 3, 0, some (97, true), 0⟩, ⟨some 100, .load 4 (.tmp 99), 4, some (97, true), 0⟩, ⟨some 101, .unOp .not 4 (.tmp 100), 4, some (97, true), 2⟩, ⟨some 102, .pick (.tmp 97) (.tmp 101) (.const (.bool false)), 4, none, 0⟩, ⟨some 103, .move (.tmp 102), 4, none, 0⟩, ⟨some 104, .fieldAddr 42 (.tmp 1) 12, 0, some (103, true), 0⟩, ⟨some 105, .fieldAddr 38 (.tmp 104) 0, 0, some (103, true), 0⟩, ⟨some 106, .load 3 (.tmp 105), 3, some (103, true), 0⟩, ⟨some 107, .binOp .eql 3 (.tmp 106) (.const (.int .i64 0)) 3, 4, some (103, true), 2⟩, ⟨some 108, .pick (.tmp 103) (.tmp 107) (.const (.bool false)), 4, none, 0⟩, ⟨some 109, .move (.tmp 108), 4, none, 0⟩, ⟨some 110, .fieldAddr 42 (.tmp 1) 12, 0, some (109, true), 0⟩, ⟨some 111, .fieldAddr 38 (.tmp 110) 1, 0, some (109, true), 0⟩, ⟨some 112, .load 3 (.tmp 111), 3, some (109, true), 0⟩, ⟨some 113, .binOp .eql 3 (.tmp 112) (.const (.int .i64 0)) 3, 4, some (109, true), 2⟩, ⟨some 114, .pick (.tmp 109) (.tmp 113) (.const (.bool false)), 4, none, 0⟩, ⟨some 115, .move (.tmp 114), 4, none, 0⟩, ⟨some 116, .fieldAddr 42 (.tmp 1) 12, 0, some (115, true), 0⟩, ⟨some 117, .fieldAddr 38 (.tmp 116) 2, 0, some (115, true), 0⟩, ⟨some 118, .load 3 (.tmp 117), 3, some (115, true), 0⟩, ⟨some 119, .binOp .eql 3 (.tmp 118) (.const (.int .i64 0)) 3, 4, some (115, true), 2⟩, ⟨some 120, .pick (.tmp 115) (.tmp 119) (.const (.bool false)), 4, none, 0⟩, ⟨some 121, .move (.tmp 120), 4, none, 0⟩, ⟨some 122, .fieldAddr 42 (.tmp 1) 12, 0, some (121, true), 0⟩, ⟨some 123, .fieldAddr 38 (.tmp 122) 3, 0, some (121, true), 0⟩, ⟨some 124, .load 3 (.tmp 123), 3, some (121, true), 0⟩, ⟨some 125, .binOp .eql 3 (.tmp 124) (.const (.int .i64 0)) 3, 4, some (121, true), 2⟩, ⟨some 126, .pick (.tmp 121) (.tmp 125) (.const (.bool false)), 4, none, 0⟩, ⟨some 2, .assign (.tmp 126), 4, none, 0⟩]
def t9_4 : List (Nat × Nat) := [(0, 0), (1, 0), (2, 2), (3, 0), (4, 0), (5, 0), (6, 2), (7, 0), (8, 0), (9, 0), (10, 0), (11, 2), (12, 0), (13, 0), (14, 0), (15, 0), (16, 2), (17, 0), (18, 0), (19, 0), (20, 0), (21, 2), (22, 0), (23, 0), (24, 0), (25, 0), (26, 0), (27, 0), (28, 0), (29, 0), (30, 0), (31, 0), (32, 0), (33, 0), (34, 0), (35, 0), (36, 0), (37, 0), (38, 0), (39, 0), (40, 0), (41, 0), (42, 0), (43, 2), (44, 0), (45, 0), (46, 0), (47, 0), (48, 0), (49, 2), (50, 0), (51, 0), (52, 0), (53, 0), (54, 0), (55, 2), (56, 0), (57, 0), (58, 0), (59, 0), (60, 0), (61, 2), (62, 0), (63, 0), (64, 0), (65, 0), (66, 0), (67, 2), (68, 0), (69, 0), (70, 0), (71, 0), (72, 0), (73, 2), (74, 0), (75, 0), (76, 0), (77, 0), (78, 0), (79, 2), (80, 0), (81, 0), (82, 0), (83, 0), (84, 0), (85, 2), (86, 0), (87, 0), (88, 0), (89, 0), (90, 0), (91, 2), (92, 0), (93, 0)]
set_option linter.unusedSimpArgs false in
theorem nodeOk9_down (me : Int) (gone gate : Bool) (inc now sq turn : Int) (ta : Option Addr) (tl tc : Nat) (ca : Option Addr) (cl cc : Nat) (pn ps pq : Int) (pa : Bool) (da : Option Addr) (dl dc : Nat) (cx cy ch ce : Int) (pla : Option Addr) (pll plc : Nat) (oa : Option Addr) (ol oc : Nat) (F : Nat → Fc) (GI : Nat → It) (GD : Nat → Dt) (GP : Nat → Pl) (GO : Nat → Fg) (w : World) (h : NdIn w ta tl F ca cl GI da dl GD pla pll GP oa ol GO) :
  Calls Tryz.prog 28 #[.agg #[.int .i64 me, .bool false, .bool gone, .bool gate, .int .i64 inc, .int .i64 now, .int .i64 sq, .int .i64 turn, .slice ta tl tc, .slice ca cl cc, .int .i64 pn, .int .i64 ps, .int .i64 pq, .bool pa, .slice da dl dc, .int .i64 cx, .int .i64 cy, .int .i64 ch, .int .i64 ce, .slice pla pll plc, .slice oa ol oc]] w fun r w' => r = .returned (.bool (snodB me false gone gate inc now sq turn tl F cl GI pn ps pq pa dl GD cx cy ch ce pll GP ol GO)) ∧ Below w.heap.size w w' := by
 have hbf : Hid (tl ≤ 1048576 ∧ cl ≤ 1048576 ∧ dl ≤ 1048576 ∧ pll ≤ 1048576 ∧ ol ≤ 1048576) := ⟨h.hf, h.hi, h.hd, h.hp, h.ho⟩
 go_enter Tryz.func28, Tryz.ntmps28
 go_upto_region 1 with fail
 generalize hu : w.alloc (.cells _ _) = u
 obtain ⟨X, b0⟩ := box1 hu
 clear hu
 have h0 := h.below b0
 clear h
 have d0 := X.c 0 (.int .i64 me) rfl
 have d4 := X.c 4 (.int .i64 inc) rfl
 have d5 := X.c 5 (.int .i64 now) rfl
 have d6 := X.c 6 (.int .i64 sq) rfl
 have d7 := X.c 7 (.int .i64 turn) rfl
 have hst : Hid (snodB me false gone gate inc now sq turn tl F cl GI pn ps pq pa dl GD cx cy ch ce pll GP ol GO = (inb me 0 7 && inb now 0 999999 && inb sq 0 999999 && inb turn 0 8 && inb inc 0 999 && dwn false gone inc now sq turn tl cl dl pll ol pn ps pq pa cx cy ch ce)) := rfl
 go_wp2_with fail
 refine (lin_any me 0 7 _).mono ?_
 rintro r w1 ⟨rfl, hw⟩
 obtain rfl := hw.symm
 clear hw
 generalize inb me 0 7 = q0 at *
 cases q0
 ·clear X h0
  go_wp2
  go_ret
  exact ⟨ret_bool (by rw [hst.out]; simp), b0⟩
 go_wp2_with fail
 refine (lin_any now 0 999999 _).mono ?_
 rintro r w1 ⟨rfl, hw⟩
 obtain rfl := hw.symm
 clear hw
 generalize inb now 0 999999 = q1 at *
 cases q1
 ·clear X h0
  go_wp2
  go_ret
  exact ⟨ret_bool (by rw [hst.out]; simp), b0⟩
 go_wp2_with fail
 refine (lin_any sq 0 999999 _).mono ?_
 rintro r w1 ⟨rfl, hw⟩
 obtain rfl := hw.symm
 clear hw
 generalize inb sq 0 999999 = q2 at *
 cases q2
 ·clear X h0
  go_wp2
  go_ret
  exact ⟨ret_bool (by rw [hst.out]; simp), b0⟩
 go_wp2_with fail
 refine (lin_any turn 0 8 _).mono ?_
 rintro r w1 ⟨rfl, hw⟩
 obtain rfl := hw.symm
 clear hw
 generalize inb turn 0 8 = q3 at *
 cases q3
 ·clear X h0
  go_wp2
  go_ret
  exact ⟨ret_bool (by rw [hst.out]; simp), b0⟩
 go_wp2_with fail
 refine (lin_any inc 0 999 _).mono ?_
 rintro r w1 ⟨rfl, hw⟩
 obtain rfl := hw.symm
 clear hw
 generalize inb inc 0 999 = q4 at *
 cases q4
 ·clear X h0
  go_wp2
  go_ret
  exact ⟨ret_bool (by rw [hst.out]; simp), b0⟩
 clear d0 d4 d5 d6 d7
 have d0 := X.c 0 (.int .i64 me) rfl
 have d1 := X.c 1 (.bool false) rfl
 have d2 := X.c 2 (.bool gone) rfl
 have d3 := X.c 3 (.bool gate) rfl
 have d4 := X.c 4 (.int .i64 inc) rfl
 have d5 := X.c 5 (.int .i64 now) rfl
 have d6 := X.c 6 (.int .i64 sq) rfl
 have d7 := X.c 7 (.int .i64 turn) rfl
 have d8 := X.c 8 (.slice ta tl tc) rfl
 have d9 := X.c 9 (.slice ca cl cc) rfl
 have d10 := X.c 10 (.int .i64 pn) rfl
 have d11 := X.c 11 (.int .i64 ps) rfl
 have d12 := X.c 12 (.int .i64 pq) rfl
 have d13 := X.c 13 (.bool pa) rfl
 have d14 := X.c 14 (.slice da dl dc) rfl
 have d15 := X.c 15 (.int .i64 cx) rfl
 have d16 := X.c 16 (.int .i64 cy) rfl
 have d17 := X.c 17 (.int .i64 ch) rfl
 have d18 := X.c 18 (.int .i64 ce) rfl
 have d19 := X.c 19 (.slice pla pll plc) rfl
 have d20 := X.c 20 (.slice oa ol oc) rfl
 clear h0 X
 obtain ⟨hb1, hb2, hb3, hb4, hb5⟩ := hbf.out
 clear hbf
 go_upto_region 4 with fail
 refine wp_region_q0 s9_4 t9_4 (fun hbq => ?_)
 clear hbq
 refine qY ?_
 refine qL ?_
 cases gone
 ·skip
  refine qV (.bool true) ?_
  iterate 2 refine qY ?_
  refine qL ?_
  by_cases einc : inc = 0
  ·subst einc
   refine qV (.bool true) ?_
   iterate 3 refine qY ?_
   refine qL ?_
   by_cases enow : now = 0
   ·subst enow
    refine qV (.bool true) ?_
    iterate 3 refine qY ?_
    refine qL ?_
    by_cases esq : sq = 0
    ·subst esq
     refine qV (.bool true) ?_
     iterate 3 refine qY ?_
     refine qL ?_
     by_cases eturn : turn = 0
     ·subst eturn
      refine qV (.bool true) ?_
      iterate 3 refine qY ?_
      refine qL ?_
      iterate 2 refine qY ?_
      refine qL ?_
      iterate 3 refine qY ?_
      refine qL ?_
      iterate 3 refine qY ?_
      refine qL ?_
      iterate 3 refine qY ?_
      refine qL ?_
      iterate 2 refine qY ?_
      by_cases n0 : tl + cl + dl + pll + ol = 0
      ·obtain ⟨rfl, rfl, rfl, rfl, rfl⟩ : tl = 0 ∧ cl = 0 ∧ dl = 0 ∧ pll = 0 ∧ ol = 0 := by omega
       refine qV (.bool true) ?_
       iterate 4 refine qY ?_
       refine qL ?_
       by_cases epn : pn = 0
       ·subst epn
        refine qV (.bool true) ?_
        iterate 4 refine qY ?_
        refine qL ?_
        by_cases eps : ps = 0
        ·subst eps
         refine qV (.bool true) ?_
         iterate 4 refine qY ?_
         refine qL ?_
         by_cases epq : pq = 0
         ·subst epq
          refine qV (.bool true) ?_
          iterate 4 refine qY ?_
          refine qL ?_
          cases pa
          ·skip
           refine qV (.bool true) ?_
           iterate 4 refine qY ?_
           refine qL ?_
           by_cases ecx : cx = 0
           ·subst ecx
            refine qV (.bool true) ?_
            iterate 4 refine qY ?_
            refine qL ?_
            by_cases ecy : cy = 0
            ·subst ecy
             refine qV (.bool true) ?_
             iterate 4 refine qY ?_
             refine qL ?_
             by_cases ech : ch = 0
             ·subst ech
              refine qV (.bool true) ?_
              iterate 4 refine qY ?_
              refine qL ?_
              by_cases ece : ce = 0
              ·subst ece
               refine qV (.bool true) ?_
               iterate 2 refine qY ?_
               refine qE ?_
               go_wp2
               go_ret
               exact ⟨ret_bool (by rw [hst.out]; simp [dwn]), b0⟩
              ·have ece' : (ce == 0) = false := by simpa using ece
               refine qV (.bool false) ?_
               iterate 2 refine qY ?_
               refine qE ?_
               go_wp2
               go_ret
               exact ⟨ret_bool (by rw [hst.out]; simp [dwn, ece]), b0⟩
             ·have ech' : (ch == 0) = false := by simpa using ech
              refine qV (.bool false) ?_
              iterate 2 refine qY ?_
              iterate 4 refine qN ?_
              iterate 2 refine qY ?_
              refine qE ?_
              go_wp2
              go_ret
              exact ⟨ret_bool (by rw [hst.out]; simp [dwn, ech]), b0⟩
            ·have ecy' : (cy == 0) = false := by simpa using ecy
             refine qV (.bool false) ?_
             iterate 2 refine qY ?_
             iterate 4 refine qN ?_
             iterate 2 refine qY ?_
             iterate 4 refine qN ?_
             iterate 2 refine qY ?_
             refine qE ?_
             go_wp2
             go_ret
             exact ⟨ret_bool (by rw [hst.out]; simp [dwn, ecy]), b0⟩
           ·have ecx' : (cx == 0) = false := by simpa using ecx
            refine qV (.bool false) ?_
            iterate 2 refine qY ?_
            iterate 4 refine qN ?_
            iterate 2 refine qY ?_
            iterate 4 refine qN ?_
            iterate 2 refine qY ?_
            iterate 4 refine qN ?_
            iterate 2 refine qY ?_
            refine qE ?_
            go_wp2
            go_ret
            exact ⟨ret_bool (by rw [hst.out]; simp [dwn, ecx]), b0⟩
          ·skip
           refine qV (.bool false) ?_
           iterate 2 refine qY ?_
           iterate 4 refine qN ?_
           iterate 2 refine qY ?_
           iterate 4 refine qN ?_
           iterate 2 refine qY ?_
           iterate 4 refine qN ?_
           iterate 2 refine qY ?_
           iterate 4 refine qN ?_
           iterate 2 refine qY ?_
           refine qE ?_
           go_wp2
           go_ret
           exact ⟨ret_bool (by rw [hst.out]; simp [dwn]), b0⟩
         ·have epq' : (pq == 0) = false := by simpa using epq
          refine qV (.bool false) ?_
          iterate 2 refine qY ?_
          iterate 4 refine qN ?_
          iterate 2 refine qY ?_
          iterate 4 refine qN ?_
          iterate 2 refine qY ?_
          iterate 4 refine qN ?_
          iterate 2 refine qY ?_
          iterate 4 refine qN ?_
          iterate 2 refine qY ?_
          iterate 4 refine qN ?_
          iterate 2 refine qY ?_
          refine qE ?_
          go_wp2
          go_ret
          exact ⟨ret_bool (by rw [hst.out]; simp [dwn, epq]), b0⟩
        ·have eps' : (ps == 0) = false := by simpa using eps
         refine qV (.bool false) ?_
         iterate 2 refine qY ?_
         iterate 4 refine qN ?_
         iterate 2 refine qY ?_
         iterate 4 refine qN ?_
         iterate 2 refine qY ?_
         iterate 4 refine qN ?_
         iterate 2 refine qY ?_
         iterate 4 refine qN ?_
         iterate 2 refine qY ?_
         iterate 4 refine qN ?_
         iterate 2 refine qY ?_
         iterate 4 refine qN ?_
         iterate 2 refine qY ?_
         refine qE ?_
         go_wp2
         go_ret
         exact ⟨ret_bool (by rw [hst.out]; simp [dwn, eps]), b0⟩
       ·have epn' : (pn == 0) = false := by simpa using epn
        refine qV (.bool false) ?_
        iterate 2 refine qY ?_
        iterate 4 refine qN ?_
        iterate 2 refine qY ?_
        iterate 4 refine qN ?_
        iterate 2 refine qY ?_
        iterate 4 refine qN ?_
        iterate 2 refine qY ?_
        iterate 4 refine qN ?_
        iterate 2 refine qY ?_
        iterate 4 refine qN ?_
        iterate 2 refine qY ?_
        iterate 4 refine qN ?_
        iterate 2 refine qY ?_
        iterate 4 refine qN ?_
        iterate 2 refine qY ?_
        refine qE ?_
        go_wp2
        go_ret
        exact ⟨ret_bool (by rw [hst.out]; simp [dwn, epn]), b0⟩
      ·have n1 : ¬ ((tl : Int) + cl + dl + pll + ol = 0) := by omega
       refine qV (.bool false) ?_
       iterate 2 refine qY ?_
       iterate 4 refine qN ?_
       iterate 2 refine qY ?_
       iterate 4 refine qN ?_
       iterate 2 refine qY ?_
       iterate 4 refine qN ?_
       iterate 2 refine qY ?_
       iterate 4 refine qN ?_
       iterate 2 refine qY ?_
       iterate 4 refine qN ?_
       iterate 2 refine qY ?_
       iterate 4 refine qN ?_
       iterate 2 refine qY ?_
       iterate 4 refine qN ?_
       iterate 2 refine qY ?_
       iterate 4 refine qN ?_
       iterate 2 refine qY ?_
       refine qE ?_
       go_wp2
       go_ret
       exact ⟨ret_bool (by rw [hst.out]; simp [dwn]; intros; omega), b0⟩
     ·have eturn' : (turn == 0) = false := by simpa using eturn
      refine qV (.bool false) ?_
      iterate 2 refine qY ?_
      iterate 20 refine qN ?_
      iterate 2 refine qY ?_
      iterate 4 refine qN ?_
      iterate 2 refine qY ?_
      iterate 4 refine qN ?_
      iterate 2 refine qY ?_
      iterate 4 refine qN ?_
      iterate 2 refine qY ?_
      iterate 4 refine qN ?_
      iterate 2 refine qY ?_
      iterate 4 refine qN ?_
      iterate 2 refine qY ?_
      iterate 4 refine qN ?_
      iterate 2 refine qY ?_
      iterate 4 refine qN ?_
      iterate 2 refine qY ?_
      iterate 4 refine qN ?_
      iterate 2 refine qY ?_
      refine qE ?_
      go_wp2
      go_ret
      exact ⟨ret_bool (by rw [hst.out]; simp [dwn, eturn]), b0⟩
    ·have esq' : (sq == 0) = false := by simpa using esq
     refine qV (.bool false) ?_
     iterate 2 refine qY ?_
     iterate 3 refine qN ?_
     iterate 2 refine qY ?_
     iterate 20 refine qN ?_
     iterate 2 refine qY ?_
     iterate 4 refine qN ?_
     iterate 2 refine qY ?_
     iterate 4 refine qN ?_
     iterate 2 refine qY ?_
     iterate 4 refine qN ?_
     iterate 2 refine qY ?_
     iterate 4 refine qN ?_
     iterate 2 refine qY ?_
     iterate 4 refine qN ?_
     iterate 2 refine qY ?_
     iterate 4 refine qN ?_
     iterate 2 refine qY ?_
     iterate 4 refine qN ?_
     iterate 2 refine qY ?_
     iterate 4 refine qN ?_
     iterate 2 refine qY ?_
     refine qE ?_
     go_wp2
     go_ret
     exact ⟨ret_bool (by rw [hst.out]; simp [dwn, esq]), b0⟩
   ·have enow' : (now == 0) = false := by simpa using enow
    refine qV (.bool false) ?_
    iterate 2 refine qY ?_
    iterate 3 refine qN ?_
    iterate 2 refine qY ?_
    iterate 3 refine qN ?_
    iterate 2 refine qY ?_
    iterate 20 refine qN ?_
    iterate 2 refine qY ?_
    iterate 4 refine qN ?_
    iterate 2 refine qY ?_
    iterate 4 refine qN ?_
    iterate 2 refine qY ?_
    iterate 4 refine qN ?_
    iterate 2 refine qY ?_
    iterate 4 refine qN ?_
    iterate 2 refine qY ?_
    iterate 4 refine qN ?_
    iterate 2 refine qY ?_
    iterate 4 refine qN ?_
    iterate 2 refine qY ?_
    iterate 4 refine qN ?_
    iterate 2 refine qY ?_
    iterate 4 refine qN ?_
    iterate 2 refine qY ?_
    refine qE ?_
    go_wp2
    go_ret
    exact ⟨ret_bool (by rw [hst.out]; simp [dwn, enow]), b0⟩
  ·have einc' : (inc == 0) = false := by simpa using einc
   refine qV (.bool false) ?_
   iterate 2 refine qY ?_
   iterate 3 refine qN ?_
   iterate 2 refine qY ?_
   iterate 3 refine qN ?_
   iterate 2 refine qY ?_
   iterate 3 refine qN ?_
   iterate 2 refine qY ?_
   iterate 20 refine qN ?_
   iterate 2 refine qY ?_
   iterate 4 refine qN ?_
   iterate 2 refine qY ?_
   iterate 4 refine qN ?_
   iterate 2 refine qY ?_
   iterate 4 refine qN ?_
   iterate 2 refine qY ?_
   iterate 4 refine qN ?_
   iterate 2 refine qY ?_
   iterate 4 refine qN ?_
   iterate 2 refine qY ?_
   iterate 4 refine qN ?_
   iterate 2 refine qY ?_
   iterate 4 refine qN ?_
   iterate 2 refine qY ?_
   iterate 4 refine qN ?_
   iterate 2 refine qY ?_
   refine qE ?_
   go_wp2
   go_ret
   exact ⟨ret_bool (by rw [hst.out]; simp [dwn, einc]), b0⟩
 ·skip
  refine qV (.bool false) ?_
  refine qY ?_
  iterate 3 refine qN ?_
  iterate 2 refine qY ?_
  iterate 3 refine qN ?_
  iterate 2 refine qY ?_
  iterate 3 refine qN ?_
  iterate 2 refine qY ?_
  iterate 3 refine qN ?_
  iterate 2 refine qY ?_
  iterate 20 refine qN ?_
  iterate 2 refine qY ?_
  iterate 4 refine qN ?_
  iterate 2 refine qY ?_
  iterate 4 refine qN ?_
  iterate 2 refine qY ?_
  iterate 4 refine qN ?_
  iterate 2 refine qY ?_
  iterate 4 refine qN ?_
  iterate 2 refine qY ?_
  iterate 4 refine qN ?_
  iterate 2 refine qY ?_
  iterate 4 refine qN ?_
  iterate 2 refine qY ?_
  iterate 4 refine qN ?_
  iterate 2 refine qY ?_
  iterate 4 refine qN ?_
  iterate 2 refine qY ?_
  refine qE ?_
  go_wp2
  go_ret
  exact ⟨ret_bool (by rw [hst.out]; simp [dwn]), b0⟩
theorem nodeOk9_any (me : Int) (up gone gate : Bool) (inc now sq turn : Int) (ta : Option Addr) (tl tc : Nat) (ca : Option Addr) (cl cc : Nat) (pn ps pq : Int) (pa : Bool) (da : Option Addr) (dl dc : Nat) (cx cy ch ce : Int) (pla : Option Addr) (pll plc : Nat) (oa : Option Addr) (ol oc : Nat) (F : Nat → Fc) (GI : Nat → It) (GD : Nat → Dt) (GP : Nat → Pl) (GO : Nat → Fg) (w : World) (h : NdIn w ta tl F ca cl GI da dl GD pla pll GP oa ol GO) :
  Calls Tryz.prog 28 #[.agg #[.int .i64 me, .bool up, .bool gone, .bool gate, .int .i64 inc, .int .i64 now, .int .i64 sq, .int .i64 turn, .slice ta tl tc, .slice ca cl cc, .int .i64 pn, .int .i64 ps, .int .i64 pq, .bool pa, .slice da dl dc, .int .i64 cx, .int .i64 cy, .int .i64 ch, .int .i64 ce, .slice pla pll plc, .slice oa ol oc]] w fun r w' => r = .returned (.bool (snodB me up gone gate inc now sq turn tl F cl GI pn ps pq pa dl GD cx cy ch ce pll GP ol GO)) ∧ Below w.heap.size w w' := by
 cases up
 ·exact nodeOk9_down me gone gate inc now sq turn ta tl tc ca cl cc pn ps pq pa da dl dc cx cy ch ce pla pll plc oa ol oc F GI GD GP GO w h
 ·exact nodeOk9_up me gone gate inc now sq turn ta tl tc ca cl cc pn ps pq pa da dl dc cx cy ch ce pla pll plc oa ol oc F GI GD GP GO w h
end Go.Proofs.YtgcdcfjaeehnbaaGreat
