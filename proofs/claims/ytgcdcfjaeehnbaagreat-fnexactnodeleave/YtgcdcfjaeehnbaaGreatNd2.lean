/- Nodes: what one says of itself; how another stands. -/
import Derived.Test.YtgcdcfjaeehnbaaGreatNd1
namespace Go.Proofs.YtgcdcfjaeehnbaaGreat
open Go.ChangeShapes Go.WideShapes Go.ChangeAt Go.RowKit
set_option maxRecDepth 20000
set_option maxHeartbeats 4000000
attribute [local go_sem ↓] Go.wp_at_zero Go.wp_at_succ
theorem Ws.alloc {w : World} {b : Nat} {xs : List Value} (h : Ws w b xs) (o : Obj) : Ws (w.alloc o) b xs := h.below (balloc o (Below.refl w.heap.size w))
def slf (me : Int) (gone gate : Bool) (inc : Int) : Fc := ⟨me, inc, if gone then 4 else 1, gate⟩
theorem self_any (me : Int) (up gone gate : Bool) (inc now sq turn : Int) (ta : Option Addr) (tl tc : Nat) (ca : Option Addr) (cl cc : Nat) (pn ps pq : Int) (pa : Bool) (da : Option Addr) (dl dc : Nat) (cx cy ch ce : Int) (pla : Option Addr) (pll plc : Nat) (oa : Option Addr) (ol oc : Nat) (w : World) :
  Calls Tryz.prog 66 #[.agg #[.int .i64 me, .bool up, .bool gone, .bool gate, .int .i64 inc, .int .i64 now, .int .i64 sq, .int .i64 turn, .slice ta tl tc, .slice ca cl cc, .int .i64 pn, .int .i64 ps, .int .i64 pq, .bool pa, .slice da dl dc, .int .i64 cx, .int .i64 cy, .int .i64 ch, .int .i64 ce, .slice pla pll plc, .slice oa ol oc]] w fun r w' => r = .returned (fcV (slf me gone gate inc)) ∧ Below w.heap.size w w' := by
 have b0 := balloc (.cells #[.int .i64 0, .int .i64 0, .int .i64 0, .bool false] 96) (balloc (.cells #[.int .i64 me, .bool up, .bool gone, .bool gate, .int .i64 inc, .int .i64 now, .int .i64 sq, .int .i64 turn, .slice ta tl tc, .slice ca cl cc, .int .i64 pn, .int .i64 ps, .int .i64 pq, .bool pa, .slice da dl dc, .int .i64 cx, .int .i64 cy, .int .i64 ch, .int .i64 ce, .slice pla pll plc, .slice oa ol oc] 42) (Below.refl w.heap.size w))
 have X := (Ws.box (w := w) #[.int .i64 me, .bool up, .bool gone, .bool gate, .int .i64 inc, .int .i64 now, .int .i64 sq, .int .i64 turn, .slice ta tl tc, .slice ca cl cc, .int .i64 pn, .int .i64 ps, .int .i64 pq, .bool pa, .slice da dl dc, .int .i64 cx, .int .i64 cy, .int .i64 ch, .int .i64 ce, .slice pla pll plc, .slice oa ol oc] 42).alloc (.cells #[.int .i64 0, .int .i64 0, .int .i64 0, .bool false] 96)
 have Y := Ws.box (w := w.alloc (.cells #[.int .i64 me, .bool up, .bool gone, .bool gate, .int .i64 inc, .int .i64 now, .int .i64 sq, .int .i64 turn, .slice ta tl tc, .slice ca cl cc, .int .i64 pn, .int .i64 ps, .int .i64 pq, .bool pa, .slice da dl dc, .int .i64 cx, .int .i64 cy, .int .i64 ch, .int .i64 ce, .slice pla pll plc, .slice oa ol oc] 42)) #[.int .i64 0, .int .i64 0, .int .i64 0, .bool false] 96
 have hs : (w.alloc (.cells #[.int .i64 me, .bool up, .bool gone, .bool gate, .int .i64 inc, .int .i64 now, .int .i64 sq, .int .i64 turn, .slice ta tl tc, .slice ca cl cc, .int .i64 pn, .int .i64 ps, .int .i64 pq, .bool pa, .slice da dl dc, .int .i64 cx, .int .i64 cy, .int .i64 ch, .int .i64 ce, .slice pla pll plc, .slice oa ol oc] 42)).heap.size = w.heap.size + 1 := by simp [go_sem]
 rw [hs] at Y
 clear hs
 go_enter Tryz.func66, Tryz.ntmps66
 go_upto_region 1 with fail
 generalize (w.alloc (.cells #[.int .i64 me, .bool up, .bool gone, .bool gate, .int .i64 inc, .int .i64 now, .int .i64 sq, .int .i64 turn, .slice ta tl tc, .slice ca cl cc, .int .i64 pn, .int .i64 ps, .int .i64 pq, .bool pa, .slice da dl dc, .int .i64 cx, .int .i64 cy, .int .i64 ch, .int .i64 ce, .slice pla pll plc, .slice oa ol oc] 42)).alloc (.cells #[.int .i64 0, .int .i64 0, .int .i64 0, .bool false] 96) = u at *
 have hR : w.heap.size ≤ w.heap.size + 1 := by omega
 have d0 := X.c 0 (.int .i64 me) rfl
 have d2 := X.c 2 (.bool gone) rfl
 have d3 := X.c 3 (.bool gate) rfl
 have d4 := X.c 4 (.int .i64 inc) rfl
 have r0 := Y.c 0 (.int .i64 0) rfl
 have z0 := Y.z 0
 have r1 := Y.c 1 (.int .i64 0) rfl
 have z1 := Y.z 1
 have r2 := Y.c 2 (.int .i64 0) rfl
 have z2 := Y.z 2
 have r3 := Y.c 3 (.bool false) rfl
 have z3 := Y.z 3
 generalize w.heap.size + 1 = R at *
 clear X Y
 cases gone
 ·go_wp2
  try simp only [Exit.inBlock, Exit.then]
  exact bodyPost_ret (v := fcV (slf me false gate inc)) (by simp [results, Tryz.results66, go_sem, r0, r1, r2, r3, fcV, slf]) rfl ⟨rfl, bstore4 hR b0⟩
 ·go_wp2
  try simp only [Exit.inBlock, Exit.then]
  exact bodyPost_ret (v := fcV (slf me true gate inc)) (by simp [results, Tryz.results66, go_sem, r0, r1, r2, r3, fcV, slf]) rfl ⟨rfl, bstore4 hR b0⟩
def stn (tl : Nat) (F : Nat → Fc) (key : Int) : Int := (fo F (fnd tl F key)).s
theorem stands_any (me : Int) (up gone gate : Bool) (inc now sq turn : Int) (ta : Option Addr) (tl tc : Nat) (ca : Option Addr) (cl cc : Nat) (pn ps pq : Int) (pa : Bool) (da : Option Addr) (dl dc : Nat) (cx cy ch ce : Int) (pla : Option Addr) (pll plc : Nat) (oa : Option Addr) (ol oc : Nat) (F : Nat → Fc) (key : Int) (w : World) (h : FSl w ta tl F) (hl : tl ≤ 1048576) :
  Calls Tryz.prog 74 #[.agg #[.int .i64 me, .bool up, .bool gone, .bool gate, .int .i64 inc, .int .i64 now, .int .i64 sq, .int .i64 turn, .slice ta tl tc, .slice ca cl cc, .int .i64 pn, .int .i64 ps, .int .i64 pq, .bool pa, .slice da dl dc, .int .i64 cx, .int .i64 cy, .int .i64 ch, .int .i64 ce, .slice pla pll plc, .slice oa ol oc], .int .i64 key] w fun r w' => r = .returned (.int .i64 (stn tl F key)) ∧ Below w.heap.size w w' := by
 go_enter Tryz.func74, Tryz.ntmps74
 go_upto_region 1 with fail
 generalize hu : w.alloc (.cells _ _) = u
 obtain ⟨X, b0⟩ := box1 hu
 clear hu
 have d8 := X.c 8 (.slice ta tl tc) rfl
 go_wp2_with (go_at_call 127; refine (find_any ta tl tc F key _ (h.below b0) hl).mono ?_; rintro r w1 ⟨rfl, k1⟩; have hst : Hid (stn tl F key = (fo F (fnd tl F key)).s) := rfl; clear d8 X; unfold fcV; generalize fo F (fnd tl F key) = f at *; generalize (fnd tl F key).isSome = g at *; obtain ⟨fn, fi, fs, fg⟩ := f; dsimp only at hst ⊢)
 go_ret
 exact ⟨by rw [hst.out]; rfl, balloc _ (btrans b0 k1)⟩
def dwn (up gone : Bool) (inc now sq turn : Int) (tl cl dl pll ol : Nat) (pn ps pq : Int) (pa : Bool) (cx cy ch ce : Int) : Bool :=
 !up && !gone && (decide (inc = 0) && decide (now = 0) && decide (sq = 0) && decide (turn = 0)) && decide (tl + cl + dl + pll + ol = 0) && (decide (pn = 0) && decide (ps = 0) && decide (pq = 0) && !pa) && (decide (cx = 0) && decide (cy = 0) && decide (ch = 0) && decide (ce = 0))
theorem down_any (me : Int) (up gone gate : Bool) (inc now sq turn : Int) (ta : Option Addr) (tl tc : Nat) (ca : Option Addr) (cl cc : Nat) (pn ps pq : Int) (pa : Bool) (da : Option Addr) (dl dc : Nat) (cx cy ch ce : Int) (pla : Option Addr) (pll plc : Nat) (oa : Option Addr) (ol oc : Nat) (w : World) (h1 : tl ≤ 1048576) (h2 : cl ≤ 1048576) (h3 : dl ≤ 1048576) (h4 : pll ≤ 1048576) (h5 : ol ≤ 1048576) :
  Calls Tryz.prog 99 #[.agg #[.int .i64 me, .bool up, .bool gone, .bool gate, .int .i64 inc, .int .i64 now, .int .i64 sq, .int .i64 turn, .slice ta tl tc, .slice ca cl cc, .int .i64 pn, .int .i64 ps, .int .i64 pq, .bool pa, .slice da dl dc, .int .i64 cx, .int .i64 cy, .int .i64 ch, .int .i64 ce, .slice pla pll plc, .slice oa ol oc]] w fun r w' => r = .returned (.bool (dwn up gone inc now sq turn tl cl dl pll ol pn ps pq pa cx cy ch ce)) ∧ Below w.heap.size w w' := by
 go_enter Tryz.func99, Tryz.ntmps99
 go_upto_region 1 with fail
 generalize hu : w.alloc (.cells _ _) = u
 obtain ⟨X, b0⟩ := box1 hu
 clear hu
 have d1 := X.c 1 (.bool up) rfl
 have d2 := X.c 2 (.bool gone) rfl
 have d4 := X.c 4 (.int .i64 inc) rfl
 have d5 := X.c 5 (.int .i64 now) rfl
 have d6 := X.c 6 (.int .i64 sq) rfl
 have d7 := X.c 7 (.int .i64 turn) rfl
 have d8 := X.c 8 (.slice ta tl tc) rfl
 have d9 := X.c 9 (.slice ca cl cc) rfl
 have d10 := X.c 10 (.int .i64 pn) rfl
 have d11 := X.c 11 (.int .i64 ps) rfl
 have d12 := X.c 12 (.int .i64 pq) rfl
 have d13 := X.c 13 (.bool pa) rfl
 have d14 := X.c 14 (.slice da dl dc) rfl
 have d15 := X.c 15 (.int .i64 cx) rfl
 have d16 := X.c 16 (.int .i64 cy) rfl
 have d17 := X.c 17 (.int .i64 ch) rfl
 have d18 := X.c 18 (.int .i64 ce) rfl
 have d19 := X.c 19 (.slice pla pll plc) rfl
 have d20 := X.c 20 (.slice oa ol oc) rfl
 clear X
 by_cases einc : inc = 0
 ·subst einc
  by_cases enow : now = 0
  ·subst enow
   by_cases esq : sq = 0
   ·subst esq
    by_cases eturn : turn = 0
    ·subst eturn
     go_upto_region 3 with fail
     cases up
     ·cases gone
      ·by_cases n0 : tl + cl + dl + pll + ol = 0
       ·obtain ⟨rfl, rfl, rfl, rfl, rfl⟩ : tl = 0 ∧ cl = 0 ∧ dl = 0 ∧ pll = 0 ∧ ol = 0 := by omega
        by_cases epn : pn = 0
        ·subst epn
         by_cases eps : ps = 0
         ·subst eps
          by_cases epq : pq = 0
          ·subst epq
           cases pa
           ·skip
            by_cases ecx : cx = 0
            ·subst ecx
             by_cases ecy : cy = 0
             ·subst ecy
              by_cases ech : ch = 0
              ·subst ech
               by_cases ece : ce = 0
               ·subst ece
                go_wp2
                go_ret
                exact ⟨ret_bool (by simp [dwn, *]), b0⟩
               ·go_wp2
                go_ret
                exact ⟨ret_bool (by simp [dwn, *]), b0⟩
              ·go_wp2
               go_ret
               exact ⟨ret_bool (by simp [dwn, *]), b0⟩
             ·go_wp2
              go_ret
              exact ⟨ret_bool (by simp [dwn, *]), b0⟩
            ·go_wp2
             go_ret
             exact ⟨ret_bool (by simp [dwn, *]), b0⟩
           ·go_wp2
            go_ret
            exact ⟨ret_bool (by simp [dwn, *]), b0⟩
          ·go_wp2
           go_ret
           exact ⟨ret_bool (by simp [dwn, *]), b0⟩
         ·go_wp2
          go_ret
          exact ⟨ret_bool (by simp [dwn, *]), b0⟩
        ·go_wp2
         go_ret
         exact ⟨ret_bool (by simp [dwn, *]), b0⟩
       ·have n1 : ¬ ((tl : Int) + cl + dl + pll + ol = 0) := by omega
        go_wp2
        go_ret
        exact ⟨ret_bool (by simp [dwn, *]; intros; omega), b0⟩
      ·go_wp2
       go_ret
       exact ⟨ret_bool (by simp [dwn, *]), b0⟩
     ·go_wp2
      go_ret
      exact ⟨ret_bool (by simp [dwn, *]), b0⟩
    ·go_upto_region 3 with fail
     cases up
     ·cases gone
      ·go_wp2
       go_ret
       exact ⟨ret_bool (by simp [dwn, *]), b0⟩
      ·go_wp2
       go_ret
       exact ⟨ret_bool (by simp [dwn, *]), b0⟩
     ·go_wp2
      go_ret
      exact ⟨ret_bool (by simp [dwn, *]), b0⟩
   ·go_upto_region 3 with fail
    cases up
    ·cases gone
     ·go_wp2
      go_ret
      exact ⟨ret_bool (by simp [dwn, *]), b0⟩
     ·go_wp2
      go_ret
      exact ⟨ret_bool (by simp [dwn, *]), b0⟩
    ·go_wp2
     go_ret
     exact ⟨ret_bool (by simp [dwn, *]), b0⟩
  ·go_upto_region 3 with fail
   cases up
   ·cases gone
    ·go_wp2
     go_ret
     exact ⟨ret_bool (by simp [dwn, *]), b0⟩
    ·go_wp2
     go_ret
     exact ⟨ret_bool (by simp [dwn, *]), b0⟩
   ·go_wp2
    go_ret
    exact ⟨ret_bool (by simp [dwn, *]), b0⟩
 ·go_upto_region 3 with fail
  cases up
  ·cases gone
   ·go_wp2
    go_ret
    exact ⟨ret_bool (by simp [dwn, *]), b0⟩
   ·go_wp2
    go_ret
    exact ⟨ret_bool (by simp [dwn, *]), b0⟩
  ·go_wp2
   go_ret
   exact ⟨ret_bool (by simp [dwn, *]), b0⟩
end Go.Proofs.YtgcdcfjaeehnbaaGreat
