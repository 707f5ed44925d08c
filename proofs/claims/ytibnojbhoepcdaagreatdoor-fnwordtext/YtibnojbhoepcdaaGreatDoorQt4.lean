/- Texts of the proof, laid together: WordOk, WCrc, WSsum, WTab, WSum, WHex, WSt. -/
import Derived.Test.YtibnojbhoepcdaaGreatDoorQt3
import Derived.Test.YtibnojbhoepcdaaGreatDoorProg
import Derived.Below
import Derived.LoopTactic
import Derived.WalkKit
import Derived.ProofKit
import Derived.WalkLawsBesides
import Derived.Laws.BitsAllLaws
import Derived.Laws.Bits64
import Derived.Deep.MidRow
import Derived.Test.YtibnojbhoepcdaaGreatDoorQt2
import Derived.Laws.Bits64b
import Derived.Test.YtibnojbhoepcdaaGreatDoorQt1
/- Words that are ok, whole. -/
namespace Go.Proofs.YtibnojbhoepcdaaGreatDoor
open Go.ChangeShapes Go.WideShapes Go.ChangeAt Go.RowKit
attribute [local go_sem ↓] Go.wp_at_zero Go.wp_at_succ
theorem ste_eq (n : Int) : IntKind.i64.wrap (n.tdiv 4) = ste n := by unfold ste wrap64; exact IntKind.wrap_i64 _
set_option maxRecDepth 10000 in
set_option maxHeartbeats 8000000 in
theorem wok_any (p k f t s q x y z e : Int) (a : Option Addr) (len cap : Nat) (F : Nat → Fc) (w : World) (h : FSl w a len F) (hl : len ≤ 1048576) :
    Calls Tryz.prog 23 #[.agg #[.int .i64 p, .int .i64 k, .int .i64 f, .int .i64 t, .int .i64 s, .int .i64 q, .int .i64 x, .int .i64 y, .int .i64 z, .int .i64 e, (.slice a len cap)]] w fun r w' => r = .returned (.bool (wokB p k f t s q x y z e len F)) ∧ Below w.heap.size w w' := by
  go_enter Tryz.func23, Tryz.ntmps23
  go_wp2_with fail
  have bw := balloc (.cells #[.int .i64 p, .int .i64 k, .int .i64 f, .int .i64 t, .int .i64 s, .int .i64 q, .int .i64 x, .int .i64 y, .int .i64 z, .int .i64 e, (.slice a len cap)] 35) (Below.refl w.heap.size w)
  have c0 : (w.alloc (.cells #[.int .i64 p, .int .i64 k, .int .i64 f, .int .i64 t, .int .i64 s, .int .i64 q, .int .i64 x, .int .i64 y, .int .i64 z, .int .i64 e, (.slice a len cap)] 35)).cell? ⟨w.heap.size, 0, none⟩ = some (.int .i64 p) := by simp [go_sem]
  have c1 : (w.alloc (.cells #[.int .i64 p, .int .i64 k, .int .i64 f, .int .i64 t, .int .i64 s, .int .i64 q, .int .i64 x, .int .i64 y, .int .i64 z, .int .i64 e, (.slice a len cap)] 35)).cell? ⟨w.heap.size, 1, none⟩ = some (.int .i64 k) := by simp [go_sem]
  have c2 : (w.alloc (.cells #[.int .i64 p, .int .i64 k, .int .i64 f, .int .i64 t, .int .i64 s, .int .i64 q, .int .i64 x, .int .i64 y, .int .i64 z, .int .i64 e, (.slice a len cap)] 35)).cell? ⟨w.heap.size, 2, none⟩ = some (.int .i64 f) := by simp [go_sem]
  have c3 : (w.alloc (.cells #[.int .i64 p, .int .i64 k, .int .i64 f, .int .i64 t, .int .i64 s, .int .i64 q, .int .i64 x, .int .i64 y, .int .i64 z, .int .i64 e, (.slice a len cap)] 35)).cell? ⟨w.heap.size, 3, none⟩ = some (.int .i64 t) := by simp [go_sem]
  have c4 : (w.alloc (.cells #[.int .i64 p, .int .i64 k, .int .i64 f, .int .i64 t, .int .i64 s, .int .i64 q, .int .i64 x, .int .i64 y, .int .i64 z, .int .i64 e, (.slice a len cap)] 35)).cell? ⟨w.heap.size, 4, none⟩ = some (.int .i64 s) := by simp [go_sem]
  have c5 : (w.alloc (.cells #[.int .i64 p, .int .i64 k, .int .i64 f, .int .i64 t, .int .i64 s, .int .i64 q, .int .i64 x, .int .i64 y, .int .i64 z, .int .i64 e, (.slice a len cap)] 35)).cell? ⟨w.heap.size, 5, none⟩ = some (.int .i64 q) := by simp [go_sem]
  have c6 : (w.alloc (.cells #[.int .i64 p, .int .i64 k, .int .i64 f, .int .i64 t, .int .i64 s, .int .i64 q, .int .i64 x, .int .i64 y, .int .i64 z, .int .i64 e, (.slice a len cap)] 35)).cell? ⟨w.heap.size, 6, none⟩ = some (.int .i64 x) := by simp [go_sem]
  have c7 : (w.alloc (.cells #[.int .i64 p, .int .i64 k, .int .i64 f, .int .i64 t, .int .i64 s, .int .i64 q, .int .i64 x, .int .i64 y, .int .i64 z, .int .i64 e, (.slice a len cap)] 35)).cell? ⟨w.heap.size, 7, none⟩ = some (.int .i64 y) := by simp [go_sem]
  have c8 : (w.alloc (.cells #[.int .i64 p, .int .i64 k, .int .i64 f, .int .i64 t, .int .i64 s, .int .i64 q, .int .i64 x, .int .i64 y, .int .i64 z, .int .i64 e, (.slice a len cap)] 35)).cell? ⟨w.heap.size, 8, none⟩ = some (.int .i64 z) := by simp [go_sem]
  have c9 : (w.alloc (.cells #[.int .i64 p, .int .i64 k, .int .i64 f, .int .i64 t, .int .i64 s, .int .i64 q, .int .i64 x, .int .i64 y, .int .i64 z, .int .i64 e, (.slice a len cap)] 35)).cell? ⟨w.heap.size, 9, none⟩ = some (.int .i64 e) := by simp [go_sem]
  have c10 : (w.alloc (.cells #[.int .i64 p, .int .i64 k, .int .i64 f, .int .i64 t, .int .i64 s, .int .i64 q, .int .i64 x, .int .i64 y, .int .i64 z, .int .i64 e, (.slice a len cap)] 35)).cell? ⟨w.heap.size, 10, none⟩ = some (.slice a len cap) := by simp [go_sem]
  have hfw := h.below bw
  generalize (w.alloc (.cells #[.int .i64 p, .int .i64 k, .int .i64 f, .int .i64 t, .int .i64 s, .int .i64 q, .int .i64 x, .int .i64 y, .int .i64 z, .int .i64 e, (.slice a len cap)] 35)) = W at *
  refine (within_any p 1 2 _).mono ?_
  rintro r w1 ⟨rfl, hw1⟩
  obtain rfl := hw1.symm
  clear hw1
  cases z1 : inb p 1 2
  · have y1 : Hid (inb p 1 2 = false) := z1
    clear z1 c0 c1 c2 c3 c4 c5 c6 c7 c8 c9 c10 hfw
    go_wp2
    go_ret
    refine ⟨ret_bool ?_, bw⟩
    unfold wokB preB
    rw [y1.out]
    simp
  · have y1 : Hid (inb p 1 2 = true) := z1
    clear z1
    go_wp2_with fail
    refine (within_any k 1 6 _).mono ?_
    rintro r w2 ⟨rfl, hw2⟩
    obtain rfl := hw2.symm
    clear hw2
    cases z2 : inb k 1 6
    · have y2 : Hid (inb k 1 6 = false) := z2
      clear z2 c0 c1 c2 c3 c4 c5 c6 c7 c8 c9 c10 hfw
      go_wp2
      go_ret
      refine ⟨ret_bool ?_, bw⟩
      unfold wokB preB
      rw [y2.out]
      simp
    · have y2 : Hid (inb k 1 6 = true) := z2
      clear z2
      go_wp2_with fail
      refine (nodeOk_any f _).mono ?_
      rintro r w3 ⟨rfl, hw3⟩
      obtain rfl := hw3.symm
      clear hw3
      cases z3 : inb f 0 7
      · have y3 : Hid (inb f 0 7 = false) := z3
        clear z3 c0 c1 c2 c3 c4 c5 c6 c7 c8 c9 c10 hfw
        go_wp2
        go_ret
        refine ⟨ret_bool ?_, bw⟩
        unfold wokB preB
        rw [y3.out]
        simp
      · have y3 : Hid (inb f 0 7 = true) := z3
        clear z3
        go_wp2_with fail
        refine (nodeOk_any t _).mono ?_
        rintro r w4 ⟨rfl, hw4⟩
        obtain rfl := hw4.symm
        clear hw4
        cases z4 : inb t 0 7
        · have y4 : Hid (inb t 0 7 = false) := z4
          clear z4 c0 c1 c2 c3 c4 c5 c6 c7 c8 c9 c10 hfw
          go_wp2
          go_ret
          refine ⟨ret_bool ?_, bw⟩
          unfold wokB preB
          rw [y4.out]
          simp
        · have y4 : Hid (inb t 0 7 = true) := z4
          clear z4
          go_wp2_with fail
          refine (nodeOk_any q _).mono ?_
          rintro r w5 ⟨rfl, hw5⟩
          obtain rfl := hw5.symm
          clear hw5
          cases z5 : inb q 0 7
          · have y5 : Hid (inb q 0 7 = false) := z5
            clear z5 c0 c1 c2 c3 c4 c5 c6 c7 c8 c9 c10 hfw
            go_wp2
            go_ret
            refine ⟨ret_bool ?_, bw⟩
            unfold wokB preB
            rw [y5.out]
            simp
          · have y5 : Hid (inb q 0 7 = true) := z5
            clear z5
            go_wp2_with fail
            refine (within_any s 0 999999 _).mono ?_
            rintro r w6 ⟨rfl, hw6⟩
            obtain rfl := hw6.symm
            clear hw6
            cases z6 : inb s 0 999999
            · have y6 : Hid (inb s 0 999999 = false) := z6
              clear z6 c0 c1 c2 c3 c4 c5 c6 c7 c8 c9 c10 hfw
              go_wp2
              go_ret
              refine ⟨ret_bool ?_, bw⟩
              unfold wokB preB
              rw [y6.out]
              simp
            · have y6 : Hid (inb s 0 999999 = true) := z6
              clear z6
              go_wp2_with fail
              refine (fcok_any x y z e _).mono ?_
              rintro r w7 ⟨rfl, b7⟩
              replace c0 := keep_below b7 c0
              replace c1 := keep_below b7 c1
              replace c2 := keep_below b7 c2
              replace c3 := keep_below b7 c3
              replace c4 := keep_below b7 c4
              replace c5 := keep_below b7 c5
              replace c6 := keep_below b7 c6
              replace c7 := keep_below b7 c7
              replace c8 := keep_below b7 c8
              replace c9 := keep_below b7 c9
              replace c10 := keep_below b7 c10
              have B7 := btrans bw b7
              have hf7 := hfw.below b7
              clear b7 hfw bw
              cases z7 : cok x y z e
              · have y7 : Hid (cok x y z e = false) := z7
                clear z7 c0 c1 c2 c3 c4 c5 c6 c7 c8 c9 c10 hf7
                go_wp2
                go_ret
                refine ⟨ret_bool ?_, B7⟩
                unfold wokB preB
                rw [y7.out]
                simp
              · have y7 : Hid (cok x y z e = true) := z7
                clear z7
                go_wp2_with fail
                refine (tok_any a len cap F _ hf7 hl).mono ?_
                rintro r w8 ⟨rfl, b8⟩
                replace c0 := keep_below b8 c0
                replace c1 := keep_below b8 c1
                replace c2 := keep_below b8 c2
                replace c3 := keep_below b8 c3
                replace c4 := keep_below b8 c4
                replace c5 := keep_below b8 c5
                replace c6 := keep_below b8 c6
                replace c7 := keep_below b8 c7
                replace c8 := keep_below b8 c8
                replace c9 := keep_below b8 c9
                replace c10 := keep_below b8 c10
                have B8 := btrans B7 b8
                have hf8 := hf7.below b8
                clear b8 hf7 B7
                cases z8 : tokB len F
                · have y8 : Hid (tokB len F = false) := z8
                  clear z8 c0 c1 c2 c3 c4 c5 c6 c7 c8 c9 c10 hf8
                  go_wp2
                  go_ret
                  refine ⟨ret_bool ?_, B8⟩
                  unfold wokB preB
                  rw [y8.out]
                  simp
                · have y8 : Hid (tokB len F = true) := z8
                  clear z8
                  go_wp2_with fail
                  refine (sites_any p k f t s q x y z e a len cap F _ hf8 hl).mono ?_
                  rintro r w9 ⟨rfl, b9⟩
                  go_wp2
                  go_ret
                  refine ⟨ret_bool ?_, btrans B8 b9⟩
                  unfold wokB preB
                  rw [y1.out, y2.out, y3.out, y4.out, y5.out, y6.out, y7.out, y8.out]
                  simp
set_option maxRecDepth 10000 in
set_option maxHeartbeats 8000000 in
theorem swok_any (p k f t s q x y z e : Int) (a : Option Addr) (len cap : Nat) (F : Nat → Fc) (w : World) (h : FSl w a len F) (hl : len ≤ 1048576) :
    Calls Tryz.prog 24 #[.agg #[.int .i64 p, .int .i64 k, .int .i64 f, .int .i64 t, .int .i64 s, .int .i64 q, .int .i64 x, .int .i64 y, .int .i64 z, .int .i64 e, (.slice a len cap)]] w fun r w' => r = .returned (.bool (wokB p k f t s q x y z e len F)) ∧ Below w.heap.size w w' := by
  go_enter Tryz.func24, Tryz.ntmps24
  go_wp2_with fail
  have bw := balloc (.cells #[.int .i64 p, .int .i64 k, .int .i64 f, .int .i64 t, .int .i64 s, .int .i64 q, .int .i64 x, .int .i64 y, .int .i64 z, .int .i64 e, (.slice a len cap)] 35) (Below.refl w.heap.size w)
  have c0 : (w.alloc (.cells #[.int .i64 p, .int .i64 k, .int .i64 f, .int .i64 t, .int .i64 s, .int .i64 q, .int .i64 x, .int .i64 y, .int .i64 z, .int .i64 e, (.slice a len cap)] 35)).cell? ⟨w.heap.size, 0, none⟩ = some (.int .i64 p) := by simp [go_sem]
  have c1 : (w.alloc (.cells #[.int .i64 p, .int .i64 k, .int .i64 f, .int .i64 t, .int .i64 s, .int .i64 q, .int .i64 x, .int .i64 y, .int .i64 z, .int .i64 e, (.slice a len cap)] 35)).cell? ⟨w.heap.size, 1, none⟩ = some (.int .i64 k) := by simp [go_sem]
  have c2 : (w.alloc (.cells #[.int .i64 p, .int .i64 k, .int .i64 f, .int .i64 t, .int .i64 s, .int .i64 q, .int .i64 x, .int .i64 y, .int .i64 z, .int .i64 e, (.slice a len cap)] 35)).cell? ⟨w.heap.size, 2, none⟩ = some (.int .i64 f) := by simp [go_sem]
  have c3 : (w.alloc (.cells #[.int .i64 p, .int .i64 k, .int .i64 f, .int .i64 t, .int .i64 s, .int .i64 q, .int .i64 x, .int .i64 y, .int .i64 z, .int .i64 e, (.slice a len cap)] 35)).cell? ⟨w.heap.size, 3, none⟩ = some (.int .i64 t) := by simp [go_sem]
  have c4 : (w.alloc (.cells #[.int .i64 p, .int .i64 k, .int .i64 f, .int .i64 t, .int .i64 s, .int .i64 q, .int .i64 x, .int .i64 y, .int .i64 z, .int .i64 e, (.slice a len cap)] 35)).cell? ⟨w.heap.size, 4, none⟩ = some (.int .i64 s) := by simp [go_sem]
  have c5 : (w.alloc (.cells #[.int .i64 p, .int .i64 k, .int .i64 f, .int .i64 t, .int .i64 s, .int .i64 q, .int .i64 x, .int .i64 y, .int .i64 z, .int .i64 e, (.slice a len cap)] 35)).cell? ⟨w.heap.size, 5, none⟩ = some (.int .i64 q) := by simp [go_sem]
  have c6 : (w.alloc (.cells #[.int .i64 p, .int .i64 k, .int .i64 f, .int .i64 t, .int .i64 s, .int .i64 q, .int .i64 x, .int .i64 y, .int .i64 z, .int .i64 e, (.slice a len cap)] 35)).cell? ⟨w.heap.size, 6, none⟩ = some (.int .i64 x) := by simp [go_sem]
  have c7 : (w.alloc (.cells #[.int .i64 p, .int .i64 k, .int .i64 f, .int .i64 t, .int .i64 s, .int .i64 q, .int .i64 x, .int .i64 y, .int .i64 z, .int .i64 e, (.slice a len cap)] 35)).cell? ⟨w.heap.size, 7, none⟩ = some (.int .i64 y) := by simp [go_sem]
  have c8 : (w.alloc (.cells #[.int .i64 p, .int .i64 k, .int .i64 f, .int .i64 t, .int .i64 s, .int .i64 q, .int .i64 x, .int .i64 y, .int .i64 z, .int .i64 e, (.slice a len cap)] 35)).cell? ⟨w.heap.size, 8, none⟩ = some (.int .i64 z) := by simp [go_sem]
  have c9 : (w.alloc (.cells #[.int .i64 p, .int .i64 k, .int .i64 f, .int .i64 t, .int .i64 s, .int .i64 q, .int .i64 x, .int .i64 y, .int .i64 z, .int .i64 e, (.slice a len cap)] 35)).cell? ⟨w.heap.size, 9, none⟩ = some (.int .i64 e) := by simp [go_sem]
  have c10 : (w.alloc (.cells #[.int .i64 p, .int .i64 k, .int .i64 f, .int .i64 t, .int .i64 s, .int .i64 q, .int .i64 x, .int .i64 y, .int .i64 z, .int .i64 e, (.slice a len cap)] 35)).cell? ⟨w.heap.size, 10, none⟩ = some (.slice a len cap) := by simp [go_sem]
  have hfw := h.below bw
  generalize (w.alloc (.cells #[.int .i64 p, .int .i64 k, .int .i64 f, .int .i64 t, .int .i64 s, .int .i64 q, .int .i64 x, .int .i64 y, .int .i64 z, .int .i64 e, (.slice a len cap)] 35)) = W at *
  refine (lin_any p 1 2 _).mono ?_
  rintro r w1 ⟨rfl, hw1⟩
  obtain rfl := hw1.symm
  clear hw1
  cases z1 : inb p 1 2
  · have y1 : Hid (inb p 1 2 = false) := z1
    clear z1 c0 c1 c2 c3 c4 c5 c6 c7 c8 c9 c10 hfw
    go_wp2
    go_ret
    refine ⟨ret_bool ?_, bw⟩
    unfold wokB preB
    rw [y1.out]
    simp
  · have y1 : Hid (inb p 1 2 = true) := z1
    clear z1
    go_wp2_with fail
    refine (lin_any k 1 6 _).mono ?_
    rintro r w2 ⟨rfl, hw2⟩
    obtain rfl := hw2.symm
    clear hw2
    cases z2 : inb k 1 6
    · have y2 : Hid (inb k 1 6 = false) := z2
      clear z2 c0 c1 c2 c3 c4 c5 c6 c7 c8 c9 c10 hfw
      go_wp2
      go_ret
      refine ⟨ret_bool ?_, bw⟩
      unfold wokB preB
      rw [y2.out]
      simp
    · have y2 : Hid (inb k 1 6 = true) := z2
      clear z2
      go_wp2_with fail
      refine (lin_any f 0 7 _).mono ?_
      rintro r w3 ⟨rfl, hw3⟩
      obtain rfl := hw3.symm
      clear hw3
      cases z3 : inb f 0 7
      · have y3 : Hid (inb f 0 7 = false) := z3
        clear z3 c0 c1 c2 c3 c4 c5 c6 c7 c8 c9 c10 hfw
        go_wp2
        go_ret
        refine ⟨ret_bool ?_, bw⟩
        unfold wokB preB
        rw [y3.out]
        simp
      · have y3 : Hid (inb f 0 7 = true) := z3
        clear z3
        go_wp2_with fail
        refine (lin_any t 0 7 _).mono ?_
        rintro r w4 ⟨rfl, hw4⟩
        obtain rfl := hw4.symm
        clear hw4
        cases z4 : inb t 0 7
        · have y4 : Hid (inb t 0 7 = false) := z4
          clear z4 c0 c1 c2 c3 c4 c5 c6 c7 c8 c9 c10 hfw
          go_wp2
          go_ret
          refine ⟨ret_bool ?_, bw⟩
          unfold wokB preB
          rw [y4.out]
          simp
        · have y4 : Hid (inb t 0 7 = true) := z4
          clear z4
          go_wp2_with fail
          refine (lin_any s 0 999999 _).mono ?_
          rintro r w5 ⟨rfl, hw5⟩
          obtain rfl := hw5.symm
          clear hw5
          cases z5 : inb s 0 999999
          · have y5 : Hid (inb s 0 999999 = false) := z5
            clear z5 c0 c1 c2 c3 c4 c5 c6 c7 c8 c9 c10 hfw
            go_wp2
            go_ret
            refine ⟨ret_bool ?_, bw⟩
            unfold wokB preB
            rw [y5.out]
            simp
          · have y5 : Hid (inb s 0 999999 = true) := z5
            clear z5
            go_wp2_with fail
            refine (lin_any q 0 7 _).mono ?_
            rintro r w6 ⟨rfl, hw6⟩
            obtain rfl := hw6.symm
            clear hw6
            cases z6 : inb q 0 7
            · have y6 : Hid (inb q 0 7 = false) := z6
              clear z6 c0 c1 c2 c3 c4 c5 c6 c7 c8 c9 c10 hfw
              go_wp2
              go_ret
              refine ⟨ret_bool ?_, bw⟩
              unfold wokB preB
              rw [y6.out]
              simp
            · have y6 : Hid (inb q 0 7 = true) := z6
              clear z6
              go_wp2_with fail
              refine (scoord_any x y z e _).mono ?_
              rintro r w7 ⟨rfl, b7⟩
              replace c0 := keep_below b7 c0
              replace c1 := keep_below b7 c1
              replace c2 := keep_below b7 c2
              replace c3 := keep_below b7 c3
              replace c4 := keep_below b7 c4
              replace c5 := keep_below b7 c5
              replace c6 := keep_below b7 c6
              replace c7 := keep_below b7 c7
              replace c8 := keep_below b7 c8
              replace c9 := keep_below b7 c9
              replace c10 := keep_below b7 c10
              have B7 := btrans bw b7
              have hf7 := hfw.below b7
              clear b7 hfw bw
              cases z7 : cok x y z e
              · have y7 : Hid (cok x y z e = false) := z7
                clear z7 c0 c1 c2 c3 c4 c5 c6 c7 c8 c9 c10 hf7
                go_wp2
                go_ret
                refine ⟨ret_bool ?_, B7⟩
                unfold wokB preB
                rw [y7.out]
                simp
              · have y7 : Hid (cok x y z e = true) := z7
                clear z7
                go_wp2_with fail
                refine (stok_any a len cap F _ hf7 hl).mono ?_
                rintro r w8 ⟨rfl, b8⟩
                replace c0 := keep_below b8 c0
                replace c1 := keep_below b8 c1
                replace c2 := keep_below b8 c2
                replace c3 := keep_below b8 c3
                replace c4 := keep_below b8 c4
                replace c5 := keep_below b8 c5
                replace c6 := keep_below b8 c6
                replace c7 := keep_below b8 c7
                replace c8 := keep_below b8 c8
                replace c9 := keep_below b8 c9
                replace c10 := keep_below b8 c10
                have B8 := btrans B7 b8
                have hf8 := hf7.below b8
                clear b8 hf7 B7
                cases z8 : tokB len F
                · have y8 : Hid (tokB len F = false) := z8
                  clear z8 c0 c1 c2 c3 c4 c5 c6 c7 c8 c9 c10 hf8
                  go_wp2
                  go_ret
                  refine ⟨ret_bool ?_, B8⟩
                  unfold wokB preB
                  rw [y8.out]
                  simp
                · have y8 : Hid (tokB len F = true) := z8
                  clear z8
                  have hwo : wokB p k f t s q x y z e len F = wsB len F k f := by
                    unfold wokB preB
                    rw [y1.out, y2.out, y3.out, y4.out, y5.out, y6.out, y7.out, y8.out]
                    simp
                  replace hwo : Hid (wokB p k f t s q x y z e len F = wsB len F k f) := hwo
                  by_cases hk : k = 6
                  · subst hk
                    rcases Nat.eq_zero_or_pos len with h0 | h0
                    · subst h0
                      go_wp2_with fail
                      refine wp_region_held_drew (S := (fun w' => w'.cell? ⟨w.heap.size, 0, none⟩ = some (.int .i64 p) ∧ w'.cell? ⟨w.heap.size, 1, none⟩ = some (.int .i64 6) ∧ w'.cell? ⟨w.heap.size, 2, none⟩ = some (.int .i64 f) ∧ w'.cell? ⟨w.heap.size, 3, none⟩ = some (.int .i64 t) ∧ w'.cell? ⟨w.heap.size, 4, none⟩ = some (.int .i64 s) ∧ w'.cell? ⟨w.heap.size, 5, none⟩ = some (.int .i64 q) ∧ w'.cell? ⟨w.heap.size, 6, none⟩ = some (.int .i64 x) ∧ w'.cell? ⟨w.heap.size, 7, none⟩ = some (.int .i64 y) ∧ w'.cell? ⟨w.heap.size, 8, none⟩ = some (.int .i64 z) ∧ w'.cell? ⟨w.heap.size, 9, none⟩ = some (.int .i64 e) ∧ w'.cell? ⟨w.heap.size, 10, none⟩ = some (.slice a 0 cap))) (by kernel_rfl) ?_ (fun hHeld => ?_)
                      · (try dsimp only); (refine ⟨?_, ?_, ?_, ?_, ?_, ?_, ?_, ?_, ?_, ?_, ?_⟩ <;> (repeat (first | with_reducible assumption | with_reducible refine keep_drew ?_ | with_reducible refine keep_below (by assumption) ?_)))
                      refine tl (i := 0) (oi := { dst := some 52, op := .fieldAddr 35 (.tmp 1) 7, type := 0, pos := "l4_word.go:58", after := #[], guard := none }) ?_
                      (try simp only [pq])
                      refine tl (i := 1) (oi := { dst := some 53, op := .load 24 (.tmp 52), type := 24, pos := "l4_word.go:58", after := #[{ on := 0, ground := .data }], guard := none }) ?_
                      (try simp only [pq])
                      refine tl (i := 2) (oi := { dst := some 54, op := .call { callee := .builtin .len, args := #[.tmp 53], argTypes := #[24] }, type := 3, pos := "l4_word.go:58", after := #[{ on := 1, ground := .data }], guard := none }) ?_
                      (try simp only [pq])
                      refine tl (i := 3) (oi := { dst := some 55, op := .binOp .gtr 3 (.tmp 54) (.const (.int .i64 0)) 3, type := 4, pos := "l4_word.go:58", after := #[{ on := 2, ground := .data }], guard := none }) ?_
                      (try simp only [pq])
                      refine tl (i := 4) (oi := { dst := some 56, op := .move (.tmp 55), type := 4, pos := "l4_word.go:58", after := #[{ on := 3, ground := .data }], guard := none }) ?_
                      (try simp only [pq])
                      refine wpAnyH_take (i := 5) (oi := { dst := some 57, op := .fieldAddr 35 (.tmp 1) 7, type := 0, pos := "l4_word.go:58", after := #[{ on := 4, ground := .guard }], guard := some (4, true) }) (v := undef) rfl (by kernel_rfl) (by kernel_rfl) (by kernel_rfl) (fun _ _ _ h => h) (Or.inr ⟨by rfl, rfl⟩) (by assumption) ?_
                      (try simp only [pq])
                      refine wpAnyH_take (i := 6) (oi := { dst := some 58, op := .load 24 (.tmp 57), type := 24, pos := "l4_word.go:58", after := #[{ on := 5, ground := .data }, { on := 4, ground := .guard }], guard := some (4, true) }) (v := undef) rfl (by kernel_rfl) (by kernel_rfl) (by kernel_rfl) (fun _ _ _ h => h) (Or.inr ⟨by rfl, rfl⟩) (by assumption) ?_
                      (try simp only [pq])
                      refine wpAnyH_take (i := 7) (oi := { dst := some 59, op := .fieldAddr 35 (.tmp 1) 7, type := 0, pos := "l4_word.go:58", after := #[{ on := 4, ground := .guard }], guard := some (4, true) }) (v := undef) rfl (by kernel_rfl) (by kernel_rfl) (by kernel_rfl) (fun _ _ _ h => h) (Or.inr ⟨by rfl, rfl⟩) (by assumption) ?_
                      (try simp only [pq])
                      refine wpAnyH_take (i := 8) (oi := { dst := some 60, op := .load 24 (.tmp 59), type := 24, pos := "l4_word.go:58", after := #[{ on := 7, ground := .data }, { on := 4, ground := .guard }], guard := some (4, true) }) (v := undef) rfl (by kernel_rfl) (by kernel_rfl) (by kernel_rfl) (fun _ _ _ h => h) (Or.inr ⟨by rfl, rfl⟩) (by assumption) ?_
                      (try simp only [pq])
                      refine wpAnyH_take (i := 9) (oi := { dst := some 61, op := .indexAddr 24 (.tmp 60) (.const (.int .i64 0)), type := 0, pos := "l4_word.go:58", after := #[{ on := 8, ground := .data }, { on := 4, ground := .guard }], guard := some (4, true) }) (v := undef) rfl (by kernel_rfl) (by kernel_rfl) (by kernel_rfl) (fun _ _ _ h => h) (Or.inr ⟨by rfl, rfl⟩) (by assumption) ?_
                      (try simp only [pq])
                      refine wpAnyH_take (i := 10) (oi := { dst := some 62, op := .fieldAddr 53 (.tmp 61) 0, type := 0, pos := "l4_word.go:58", after := #[{ on := 9, ground := .data }, { on := 4, ground := .guard }], guard := some (4, true) }) (v := undef) rfl (by kernel_rfl) (by kernel_rfl) (by kernel_rfl) (fun _ _ _ h => h) (Or.inr ⟨by rfl, rfl⟩) (by assumption) ?_
                      (try simp only [pq])
                      refine wpAnyH_take (i := 11) (oi := { dst := some 63, op := .load 3 (.tmp 62), type := 3, pos := "l4_word.go:58", after := #[{ on := 10, ground := .data }, { on := 4, ground := .guard }], guard := some (4, true) }) (v := undef) rfl (by kernel_rfl) (by kernel_rfl) (by kernel_rfl) (fun _ _ _ h => h) (Or.inr ⟨by rfl, rfl⟩) (by assumption) ?_
                      (try simp only [pq])
                      refine wpAnyH_take (i := 12) (oi := { dst := some 64, op := .binOp .quo 3 (.tmp 63) (.const (.int .i64 4)) 3, type := 3, pos := "l4_word.go:58", after := #[{ on := 11, ground := .data }, { on := 4, ground := .guard }], guard := some (4, true) }) (v := undef) rfl (by kernel_rfl) (by kernel_rfl) (by kernel_rfl) (fun _ _ _ h => h) (Or.inr ⟨by rfl, rfl⟩) (by assumption) ?_
                      (try simp only [pq])
                      refine wpAnyH_take (i := 13) (oi := { dst := some 65, op := .call { callee := .value (.func 63), args := #[.tmp 58, .tmp 64], argTypes := #[24, 3] }, type := 4, pos := "l4_word.go:58", after := #[{ on := 6, ground := .data }, { on := 12, ground := .data }, { on := 4, ground := .chain }, { on := 4, ground := .guard }], guard := some (4, true) }) (v := undef) rfl (by kernel_rfl) (by kernel_rfl) (by kernel_rfl) (fun _ _ _ h => h) (Or.inr ⟨by rfl, rfl⟩) (by assumption) ?_
                      (try simp only [pq])
                      refine tl (i := 14) (oi := { dst := some 66, op := .pick (.tmp 56) (.tmp 65) (.const (.bool false)), type := 4, pos := "l4_word.go:58", after := #[{ on := 4, ground := .data }, { on := 13, ground := .data }], guard := none }) ?_
                      (try simp only [pq])
                      refine tl (i := 15) (oi := { dst := some 2, op := .assign (.tmp 66), type := 4, pos := "l4_word.go:58", after := #[{ on := 14, ground := .data }, { on := 13, ground := .chain }, { on := 0, ground := .phase }, { on := 1, ground := .phase }, { on := 2, ground := .phase }, { on := 3, ground := .phase }, { on := 4, ground := .phase }, { on := 5, ground := .phase }, { on := 6, ground := .phase }, { on := 7, ground := .phase }, { on := 8, ground := .phase }, { on := 9, ground := .phase }, { on := 10, ground := .phase }, { on := 11, ground := .phase }, { on := 12, ground := .phase }, { on := 13, ground := .phase }, { on := 14, ground := .phase }], guard := none }) ?_
                      (try simp only [pq])
                      refine wpAnyH_done (by kernel_rfl) ?_ _
                      go_wp2
                      go_ret
                      refine ⟨ret_bool ?_, B8.drew⟩
                      rw [hwo.out]
                      unfold wsB
                      simp
                    · obtain ⟨b, off, rfl, hbl, hff⟩ := hf8 h0
                      have i1 : (0 : Int) < (len : Int) := by omega
                      have c11 := first_cell hff h0
                      have hfd := hf8.below (Below.drew (Below.refl _ _))
                      clear hff hf8 h
                      go_wp2_with fail
                      refine wp_region_held_drew (S := (fun w' => w'.cell? ⟨w.heap.size, 0, none⟩ = some (.int .i64 p) ∧ w'.cell? ⟨w.heap.size, 1, none⟩ = some (.int .i64 6) ∧ w'.cell? ⟨w.heap.size, 2, none⟩ = some (.int .i64 f) ∧ w'.cell? ⟨w.heap.size, 3, none⟩ = some (.int .i64 t) ∧ w'.cell? ⟨w.heap.size, 4, none⟩ = some (.int .i64 s) ∧ w'.cell? ⟨w.heap.size, 5, none⟩ = some (.int .i64 q) ∧ w'.cell? ⟨w.heap.size, 6, none⟩ = some (.int .i64 x) ∧ w'.cell? ⟨w.heap.size, 7, none⟩ = some (.int .i64 y) ∧ w'.cell? ⟨w.heap.size, 8, none⟩ = some (.int .i64 z) ∧ w'.cell? ⟨w.heap.size, 9, none⟩ = some (.int .i64 e) ∧ w'.cell? ⟨w.heap.size, 10, none⟩ = some (.slice (some ⟨b, off, none⟩) len cap) ∧ w'.cell? ⟨b, off, none⟩ = some (.int .i64 (F 0).n))) (by kernel_rfl) ?_ (fun hHeld => ?_)
                      · (try dsimp only); (refine ⟨?_, ?_, ?_, ?_, ?_, ?_, ?_, ?_, ?_, ?_, ?_, ?_⟩ <;> (repeat (first | with_reducible assumption | with_reducible refine keep_drew ?_ | with_reducible refine keep_below (by assumption) ?_)))
                      refine tl (i := 0) (oi := { dst := some 52, op := .fieldAddr 35 (.tmp 1) 7, type := 0, pos := "l4_word.go:58", after := #[], guard := none }) ?_
                      (try simp only [pq])
                      refine tl (i := 1) (oi := { dst := some 53, op := .load 24 (.tmp 52), type := 24, pos := "l4_word.go:58", after := #[{ on := 0, ground := .data }], guard := none }) ?_
                      (try simp only [pq])
                      refine tl (i := 2) (oi := { dst := some 54, op := .call { callee := .builtin .len, args := #[.tmp 53], argTypes := #[24] }, type := 3, pos := "l4_word.go:58", after := #[{ on := 1, ground := .data }], guard := none }) ?_
                      (try simp only [pq])
                      refine tl (i := 3) (oi := { dst := some 55, op := .binOp .gtr 3 (.tmp 54) (.const (.int .i64 0)) 3, type := 4, pos := "l4_word.go:58", after := #[{ on := 2, ground := .data }], guard := none }) ?_
                      (try simp only [pq])
                      refine tl (i := 4) (oi := { dst := some 56, op := .move (.tmp 55), type := 4, pos := "l4_word.go:58", after := #[{ on := 3, ground := .data }], guard := none }) ?_
                      (try simp only [pq])
                      refine tl (i := 5) (oi := { dst := some 57, op := .fieldAddr 35 (.tmp 1) 7, type := 0, pos := "l4_word.go:58", after := #[{ on := 4, ground := .guard }], guard := some (4, true) }) ?_
                      (try simp only [pq])
                      refine tl (i := 6) (oi := { dst := some 58, op := .load 24 (.tmp 57), type := 24, pos := "l4_word.go:58", after := #[{ on := 5, ground := .data }, { on := 4, ground := .guard }], guard := some (4, true) }) ?_
                      (try simp only [pq])
                      refine tl (i := 7) (oi := { dst := some 59, op := .fieldAddr 35 (.tmp 1) 7, type := 0, pos := "l4_word.go:58", after := #[{ on := 4, ground := .guard }], guard := some (4, true) }) ?_
                      (try simp only [pq])
                      refine tl (i := 8) (oi := { dst := some 60, op := .load 24 (.tmp 59), type := 24, pos := "l4_word.go:58", after := #[{ on := 7, ground := .data }, { on := 4, ground := .guard }], guard := some (4, true) }) ?_
                      (try simp only [pq])
                      refine tl (i := 9) (oi := { dst := some 61, op := .indexAddr 24 (.tmp 60) (.const (.int .i64 0)), type := 0, pos := "l4_word.go:58", after := #[{ on := 8, ground := .data }, { on := 4, ground := .guard }], guard := some (4, true) }) ?_
                      (try simp only [pq])
                      refine tl (i := 10) (oi := { dst := some 62, op := .fieldAddr 53 (.tmp 61) 0, type := 0, pos := "l4_word.go:58", after := #[{ on := 9, ground := .data }, { on := 4, ground := .guard }], guard := some (4, true) }) ?_
                      (try simp only [pq])
                      refine tl (i := 11) (oi := { dst := some 63, op := .load 3 (.tmp 62), type := 3, pos := "l4_word.go:58", after := #[{ on := 10, ground := .data }, { on := 4, ground := .guard }], guard := some (4, true) }) ?_
                      (try simp only [pq])
                      refine tl (i := 12) (oi := { dst := some 64, op := .binOp .quo 3 (.tmp 63) (.const (.int .i64 4)) 3, type := 3, pos := "l4_word.go:58", after := #[{ on := 11, ground := .data }, { on := 4, ground := .guard }], guard := some (4, true) }) ?_
                      (try simp only [pq])
                      refine wpAnyH_ready (rs := [13]) (by kernel_rfl) (by simp) ?_
                      refine AllReadyH.cons (o := { dst := some 65, op := .call { callee := .value (.func 63), args := #[.tmp 58, .tmp 64], argTypes := #[24, 3] }, type := 4, pos := "l4_word.go:58", after := #[{ on := 6, ground := .data }, { on := 12, ground := .data }, { on := 4, ground := .chain }, { on := 4, ground := .guard }], guard := some (4, true) }) rfl (fun K hK => ?_) AllReadyH.nil
                      go_simp
                      (rw [ste_eq]; refine (ssite_any _ len cap F (ste (F 0).n) _ hfd hl).mono ?_; rintro e w9 ⟨rfl, b9⟩)
                      go_wp2_with fail
                      refine hK.out _ _ ?_ (fun hHeld => ?_)
                      · (try dsimp only); (refine ⟨?_, ?_, ?_, ?_, ?_, ?_, ?_, ?_, ?_, ?_, ?_, ?_⟩ <;> (repeat (first | with_reducible assumption | with_reducible refine keep_drew ?_ | with_reducible refine keep_below (by assumption) ?_)))
                      clear hK K
                      (try simp only [pq])
                      refine tl (i := 14) (oi := { dst := some 66, op := .pick (.tmp 56) (.tmp 65) (.const (.bool false)), type := 4, pos := "l4_word.go:58", after := #[{ on := 4, ground := .data }, { on := 13, ground := .data }], guard := none }) ?_
                      (try simp only [pq])
                      refine tl (i := 15) (oi := { dst := some 2, op := .assign (.tmp 66), type := 4, pos := "l4_word.go:58", after := #[{ on := 14, ground := .data }, { on := 13, ground := .chain }, { on := 0, ground := .phase }, { on := 1, ground := .phase }, { on := 2, ground := .phase }, { on := 3, ground := .phase }, { on := 4, ground := .phase }, { on := 5, ground := .phase }, { on := 6, ground := .phase }, { on := 7, ground := .phase }, { on := 8, ground := .phase }, { on := 9, ground := .phase }, { on := 10, ground := .phase }, { on := 11, ground := .phase }, { on := 12, ground := .phase }, { on := 13, ground := .phase }, { on := 14, ground := .phase }], guard := none }) ?_
                      (try simp only [pq])
                      refine wpAnyH_done (by kernel_rfl) ?_ _
                      go_wp2
                      go_ret
                      refine ⟨ret_bool ?_, btrans B8.drew b9⟩
                      rw [hwo.out]
                      unfold wsB
                      simp [h0]
                  · go_wp2_with fail
                    refine (ssite_any _ len cap F (ste f) _ hf8 hl).mono ?_
                    rintro r w9 ⟨rfl, b9⟩
                    go_wp2
                    go_ret
                    refine ⟨ret_bool ?_, btrans B8 b9⟩
                    rw [hwo.out]
                    unfold wsB
                    rw [if_neg hk]
end Go.Proofs.YtibnojbhoepcdaaGreatDoor
/- The sum of a text, numbers alone: eight steps of a byte are one look into a table. -/
namespace Go.Proofs.YtibnojbhoepcdaaGreatDoor.S
/-- one step -/
def stp (x : Nat) : Nat := if x % 2 = 1 then (x / 2) ^^^ 3988292384 else x / 2
def stpN : Nat → Nat → Nat
  | 0, x => x
  | k + 1, x => stp (stpN k x)
def st8 (x : Nat) : Nat := stpN 8 x
def tabN : List Nat := [0, 1996959894, 3993919788, 2567524794, 124634137, 1886057615, 3915621685, 2657392035, 249268274, 2044508324, 3772115230, 2547177864, 162941995, 2125561021, 3887607047, 2428444049, 498536548, 1789927666, 4089016648, 2227061214, 450548861, 1843258603, 4107580753, 2211677639, 325883990, 1684777152, 4251122042, 2321926636, 335633487, 1661365465, 4195302755, 2366115317, 997073096, 1281953886, 3579855332, 2724688242, 1006888145, 1258607687, 3524101629, 2768942443, 901097722, 1119000684, 3686517206, 2898065728, 853044451, 1172266101, 3705015759, 2882616665, 651767980, 1373503546, 3369554304, 3218104598, 565507253, 1454621731, 3485111705, 3099436303, 671266974, 1594198024, 3322730930, 2970347812, 795835527, 1483230225, 3244367275, 3060149565, 1994146192, 31158534, 2563907772, 4023717930, 1907459465, 112637215, 2680153253, 3904427059, 2013776290, 251722036, 2517215374, 3775830040, 2137656763, 141376813, 2439277719, 3865271297, 1802195444, 476864866, 2238001368, 4066508878, 1812370925, 453092731, 2181625025, 4111451223, 1706088902, 314042704, 2344532202, 4240017532, 1658658271, 366619977, 2362670323, 4224994405, 1303535960, 984961486, 2747007092, 3569037538, 1256170817, 1037604311, 2765210733, 3554079995, 1131014506, 879679996, 2909243462, 3663771856, 1141124467, 855842277, 2852801631, 3708648649, 1342533948, 654459306, 3188396048, 3373015174, 1466479909, 544179635, 3110523913, 3462522015, 1591671054, 702138776, 2966460450, 3352799412, 1504918807, 783551873, 3082640443, 3233442989, 3988292384, 2596254646, 62317068, 1957810842, 3939845945, 2647816111, 81470997, 1943803523, 3814918930, 2489596804, 225274430, 2053790376, 3826175755, 2466906013, 167816743, 2097651377, 4027552580, 2265490386, 503444072, 1762050814, 4150417245, 2154129355, 426522225, 1852507879, 4275313526, 2312317920, 282753626, 1742555852, 4189708143, 2394877945, 397917763, 1622183637, 3604390888, 2714866558, 953729732, 1340076626, 3518719985, 2797360999, 1068828381, 1219638859, 3624741850, 2936675148, 906185462, 1090812512, 3747672003, 2825379669, 829329135, 1181335161, 3412177804, 3160834842, 628085408, 1382605366, 3423369109, 3138078467, 570562233, 1426400815, 3317316542, 2998733608, 733239954, 1555261956, 3268935591, 3050360625, 752459403, 1541320221, 2607071920, 3965973030, 1969922972, 40735498, 2617837225, 3943577151, 1913087877, 83908371, 2512341634, 3803740692, 2075208622, 213261112, 2463272603, 3855990285, 2094854071, 198958881, 2262029012, 4057260610, 1759359992, 534414190, 2176718541, 4139329115, 1873836001, 414664567, 2282248934, 4279200368, 1711684554, 285281116, 2405801727, 4167216745, 1634467795, 376229701, 2685067896, 3608007406, 1308918612, 956543938, 2808555105, 3495958263, 1231636301, 1047427035, 2932959818, 3654703836, 1088359270, 936918000, 2847714899, 3736837829, 1202900863, 817233897, 3183342108, 3401237130, 1404277552, 615818150, 3134207493, 3453421203, 1423857449, 601450431, 3009837614, 3294710456, 1567103746, 711928724, 3020668471, 3272380065, 1510334235, 755167117]
theorem tab_eq : ∀ k, k < 256 → tabN[k]? = some (st8 k) := by decide +kernel
theorem xor_half (a b : Nat) : (a ^^^ b) / 2 = (a / 2) ^^^ (b / 2) := by
  have := Nat.shiftRight_xor_distrib (a := a) (b := b) (i := 1)
  simpa [Nat.shiftRight_eq_div_pow] using this
theorem xor_odd (a b : Nat) : (a ^^^ b) % 2 = (a % 2 + b % 2) % 2 := by
  have h := Nat.xor_mod_two_pow (a := a) (b := b) (n := 1)
  simp only [Nat.pow_one] at h
  rw [h]
  have ha : a % 2 = 0 ∨ a % 2 = 1 := by omega
  have hb : b % 2 = 0 ∨ b % 2 = 1 := by omega
  rcases ha with ha | ha <;> rcases hb with hb | hb <;> rw [ha, hb] <;> rfl
theorem stp_xor (a b : Nat) : stp (a ^^^ b) = stp a ^^^ stp b := by
  unfold stp
  rw [xor_half, xor_odd]
  have ha : a % 2 = 0 ∨ a % 2 = 1 := by omega
  have hb : b % 2 = 0 ∨ b % 2 = 1 := by omega
  rcases ha with ha | ha <;> rcases hb with hb | hb <;> rw [ha, hb]
  · rfl
  · simp [Nat.xor_assoc]
  · simp only [Nat.add_zero, if_true, Nat.zero_ne_one, if_false, Nat.reduceMod]
    rw [Nat.xor_assoc, Nat.xor_assoc, Nat.xor_comm 3988292384]
  · simp only [if_true, Nat.reduceAdd, Nat.reduceMod, Nat.zero_ne_one, if_false]
    rw [Nat.xor_assoc, Nat.xor_comm 3988292384 (b / 2 ^^^ 3988292384), Nat.xor_assoc, Nat.xor_self, Nat.xor_zero]
theorem stpN_xor (k a b : Nat) : stpN k (a ^^^ b) = stpN k a ^^^ stpN k b := by
  induction k with
  | zero => rfl
  | succ k ih => unfold stpN; rw [ih, stp_xor]
theorem stp_even (m : Nat) : stp (2 * m) = m := by
  unfold stp
  rw [if_neg (by omega)]
  omega
theorem st8_high (m : Nat) : st8 (256 * m) = m := by
  have h : 256 * m = 2 * (2 * (2 * (2 * (2 * (2 * (2 * (2 * m))))))) := by omega
  unfold st8 stpN stpN stpN stpN stpN stpN stpN stpN stpN
  rw [h]
  simp only [stp_even]
theorem parts (x : Nat) : x = (256 * (x / 256)) ^^^ (x % 256) := by
  apply Nat.eq_of_testBit_eq
  intro i
  have e : 256 = 2 ^ 8 := rfl
  rw [Nat.testBit_xor, e, Nat.testBit_mod_two_pow, Nat.testBit_two_pow_mul, Nat.testBit_div_two_pow]
  by_cases h : i < 8
  · have h' : ¬ 8 ≤ i := by omega
    simp [h, h']
  · have h' : 8 ≤ i := by omega
    simp [h, h', Nat.sub_add_cancel h']
theorem st8_split (x : Nat) : st8 x = (x / 256) ^^^ st8 (x % 256) := by
  have h := stpN_xor 8 (256 * (x / 256)) (x % 256)
  rw [← parts x] at h
  have := st8_high (x / 256)
  unfold st8 at *
  rw [h, this]
theorem xor_div256 (a b : Nat) (hb : b < 256) : (a ^^^ b) / 256 = a / 256 := by
  have := Nat.shiftRight_xor_distrib (a := a) (b := b) (i := 8)
  simp only [Nat.shiftRight_eq_div_pow] at this
  have h0 : b / 2 ^ 8 = 0 := Nat.div_eq_of_lt hb
  rw [h0, Nat.xor_zero] at this
  exact this
theorem xor_mod256 (a b : Nat) (hb : b < 256) : (a ^^^ b) % 256 = (a % 256) ^^^ b := by
  have h := Nat.xor_mod_two_pow (a := a) (b := b) (n := 8)
  have h0 : b % 2 ^ 8 = b := Nat.mod_eq_of_lt hb
  rw [h0] at h
  exact h
/-- a byte more: the model's way is a look into the table -/
theorem look (n b : Nat) (hb : b < 256) : (n / 256) ^^^ st8 ((n % 256) ^^^ b) = st8 (n ^^^ b) := by
  rw [st8_split (n ^^^ b), xor_div256 n b hb, xor_mod256 n b hb]
theorem stp_lt (x : Nat) (h : x < 4294967296) : stp x < 4294967296 := by
  unfold stp
  split
  · exact Nat.xor_lt_two_pow (n := 32) (by omega) (by omega)
  · omega
theorem stpN_lt (k x : Nat) (h : x < 4294967296) : stpN k x < 4294967296 := by
  induction k with
  | zero => exact h
  | succ k ih => exact stp_lt _ ih
theorem xor_lt (a b : Nat) (ha : a < 4294967296) (hb : b < 4294967296) : a ^^^ b < 4294967296 := Nat.xor_lt_two_pow (n := 32) ha hb
/-- the sum of the first k bytes, before the last step -/
def crcN (f : Nat → Nat) : Nat → Nat
  | 0 => 4294967295
  | k + 1 => st8 (crcN f k ^^^ f k)
theorem crcN_lt (f : Nat → Nat) (hf : ∀ i, f i < 256) (k : Nat) : crcN f k < 4294967296 := by
  induction k with
  | zero => unfold crcN; omega
  | succ k ih => exact stpN_lt 8 _ (xor_lt _ _ ih (by have := hf k; omega))
end Go.Proofs.YtibnojbhoepcdaaGreatDoor.S
/- The sum of a text: the model's way. -/
namespace Go.Proofs.YtibnojbhoepcdaaGreatDoor.S
open Go.ChangeShapes Go.WideShapes Go.ChangeAt Go.RowKit
theorem ret_int {k : IntKind} {a b : Int} (h : a = b) : Ending.returned (.int k a) = .returned (.int k b) := by rw [h]
theorem i64_nat (a : Nat) (ha : a < 9223372036854775808) : (BitVec.ofInt 64 (a : Int)).toNat = a := by
  rw [BitVec.ofInt_natCast, BitVec.toNat_ofNat]; exact Nat.mod_eq_of_lt (by omega)
theorem i64_xor_nat (a b : Nat) (ha : a < 9223372036854775808) (hb : b < 9223372036854775808) :
    bits .xor .i64 (a : Int) (b : Int) = ((a ^^^ b : Nat) : Int) := by
  have hx : a ^^^ b < 2 ^ 63 := Nat.xor_lt_two_pow (by omega) (by omega)
  show IntKind.i64.wrap ((BitVec.ofInt 64 (a : Int) ^^^ BitVec.ofInt 64 (b : Int)).toNat : Int) = _
  rw [BitVec.toNat_xor, i64_nat a ha, i64_nat b hb]
  simp [IntKind.wrap, IntKind.bits, IntKind.signed]
  omega
theorem i64_and_one (a : Nat) (ha : a < 9223372036854775808) : bits .and .i64 (a : Int) 1 = ((a % 2 : Nat) : Int) := by
  show IntKind.i64.wrap ((BitVec.ofInt 64 (a : Int) &&& BitVec.ofInt 64 ((1 : Nat) : Int)).toNat : Int) = _
  rw [BitVec.toNat_and, i64_nat a ha, i64_nat 1 (by omega), Nat.and_one_is_mod]
  simp [IntKind.wrap, IntKind.bits, IntKind.signed]
  omega
set_option maxHeartbeats 400000 in
theorem bits_any (x : Nat) (hx : x < 4294967296) (w : World) :
    Calls Tryz.prog 93 #[.int .i64 (x : Int)] w fun e w' => e = .returned (.int .i64 ((st8 x : Nat) : Int)) ∧ w' = w := by
  go_enter Tryz.func93, Tryz.ntmps93
  go_wp2
  go_loop [3, 4] (fun v i => ∃ k : Nat, k ≤ 8 ∧ i = .int .i64 k ∧ v = .int .i64 ((stpN k x : Nat) : Int)) (fun _ i => 8 - (intOf i).toNat)
  case atStart => exact ⟨0, by omega, rfl, rfl⟩
  case round =>
    obtain ⟨k, hk, rfl, rfl⟩ := hrel
    by_cases hlt : k < 8
    · have hy := stpN_lt k x hx
      have hs : Hid (stpN (k + 1) x = stp (stpN k x)) := rfl
      generalize stpN k x = y at *
      have h1 := i64_and_one y (by omega)
      have hlt' : (k : Int) < 8 := by omega
      by_cases ho : y % 2 = 1
      · rw [ho] at h1
        have h2 := i64_xor_nat (y / 2) 3988292384 (by omega) (by omega)
        have e2 : (((y / 2 : Nat) : Int)) = (y : Int) / 2 := by omega
        rw [e2] at h2
        have e3 : ((3988292384 : Nat) : Int) = 3988292384 := rfl
        rw [e3] at h2
        have hs' : Hid (stpN (k + 1) x = (y / 2) ^^^ 3988292384) := by have := hs.out; unfold stp at this; rw [if_pos ho] at this; exact this
        clear hs ho e2 e3
        generalize (y / 2) ^^^ 3988292384 = z at *
        go_wp2
        go_round
        case rel => exact ⟨k + 1, by omega, by go_num, by rw [hs'.out]⟩
        case measure => simp [intOf]; omega
      · have e0 : y % 2 = 0 := by omega
        rw [e0] at h1
        have hs' : Hid (stpN (k + 1) x = y / 2) := by have := hs.out; unfold stp at this; rw [if_neg ho] at this; exact this
        clear hs ho e0
        go_wp2
        go_round
        case rel => exact ⟨k + 1, by omega, by go_num, by rw [hs'.out]; go_num⟩
        case measure => simp [intOf]; omega
    · go_wp2
      go_ret
      have e : k = 8 := by omega
      subst e
      exact ⟨rfl, rfl⟩
/-- the bytes of a text as numbers -/
def byt (s : ByteArray) (i : Nat) : Nat := (s.data.toList[i]?.getD 0).toNat
theorem byt_lt (s : ByteArray) (i : Nat) : byt s i < 256 := (s.data.toList[i]?.getD 0).toNat_lt
theorem byt_at (s : ByteArray) (k : Nat) (h : k < s.size) : s[k].toNat = byt s k := by
  unfold byt
  have : s.data.toList[k]? = some s[k] := by
    rw [List.getElem?_eq_getElem (by simpa using h)]; rfl
  rw [this]; rfl
/-- the sum of a text -/
def sumN (s : ByteArray) : Nat := crcN (byt s) s.size ^^^ 4294967295
set_option maxHeartbeats 400000 in
theorem ssum_any (s : ByteArray) (hs : s.size ≤ 1048576) (w : World) :
    Calls Tryz.prog 56 #[.string s] w fun e w' => e = .returned (.int .i64 ((sumN s : Nat) : Int)) ∧ w' = w := by
  go_enter Tryz.func56, Tryz.ntmps56
  go_wp2
  go_loop [3, 4] (fun v i => ∃ k : Nat, k ≤ s.size ∧ i = .int .i64 k ∧ v = .int .i64 ((crcN (byt s) k : Nat) : Int)) (fun _ i => s.size - (intOf i).toNat)
  case atStart => exact ⟨0, by omega, rfl, rfl⟩
  case round =>
    obtain ⟨k, hk, rfl, rfl⟩ := hrel
    have hy := crcN_lt (byt s) (byt_lt s) k
    by_cases hlt : k < s.size
    · have hs1 : Hid (crcN (byt s) (k + 1) = st8 (crcN (byt s) k ^^^ byt s k)) := rfl
      have hb := byt_lt s k
      have hbt := byt_at s k hlt
      generalize crcN (byt s) k = y at *
      generalize byt s k = c at *
      have h2 := i64_xor_nat y c (by omega) (by omega)
      have h3 := xor_lt y c hy (by omega)
      go_wp2_with fail
      refine (bits_any (y ^^^ c) h3 _).mono ?_
      rintro e w' ⟨rfl, rfl⟩
      go_wp2
      go_round
      case rel => exact ⟨k + 1, by omega, by go_num, by rw [hs1.out]⟩
      case measure => simp [intOf]; omega
    · have e : k = s.size := by omega
      have h2 := i64_xor_nat (crcN (byt s) k) 4294967295 (by omega) (by omega)
      have e3 : ((4294967295 : Nat) : Int) = 4294967295 := rfl
      have hs1 : Hid (sumN s = crcN (byt s) k ^^^ 4294967295) := by rw [e]; rfl
      rw [e3] at h2
      clear e e3
      generalize crcN (byt s) k = y at *
      generalize y ^^^ 4294967295 = z at *
      go_wp2
      go_ret
      exact ⟨ret_int (by rw [hs1.out]), rfl⟩
end Go.Proofs.YtibnojbhoepcdaaGreatDoor.S
/- The program's table of sums. -/
namespace Go.Proofs.YtibnojbhoepcdaaGreatDoor.S
open Go.ChangeShapes Go.WideShapes Go.ChangeAt Go.RowKit
def zeroV : Array Value := (List.replicate 256 (Value.int .u32 0)).toArray
def tabV : Array Value := (tabN.map fun (n : Nat) => Value.int .u32 (n : Int)).toArray
theorem wp_run {P : Program} {o : Oper} {a : Act} {w w' : World} {K : Act → World → Prop} {Q : Exit → Act → World → Prop} {v : Value} (h : (execOp a.eval o).run P w = .ok (.value v) w') (hK : K (a.put o.dst v) w') : o.wp P a w K Q := by
  unfold Oper.wp; rw [h]; exact hK
theorem tab_size : tabV.size = 256 := by kernel_rfl
theorem there_new (w : World) : (w.alloc (.cells zeroV 101)).there w.heap.size 0 tabV.toList.length := fun j hj => by
  have hj' : j < 256 := by have := tab_size; simp only [Array.length_toList] at hj; omega
  refine ⟨?_, by simp [go_sem]⟩
  rw [World.cell?_alloc_new]
  have hz : zeroV.size = 256 := by kernel_rfl
  simp only [Nat.zero_add]
  rw [Array.getElem?_eq_getElem (by omega)]
  rfl
theorem below_cells {B : Nat} {w : World} (b : Nat) : ∀ (vs : List Value) (o : Nat) (w' : World), B ≤ b → Below B w w' → Below B w (w'.setCells b o vs)
  | [], _, _, _, h => h
  | v :: vs, o, _, hb, h => below_cells b vs (o + 1) _ hb (h.setCell (p := ⟨b, o, none⟩) hb v)
set_option maxRecDepth 100000 in
set_option maxHeartbeats 4000000 in
theorem tab_any (w : World) :
    Calls Tryz.prog 90 #[] w fun e w' => e = .returned (.agg tabV) ∧ Below w.heap.size w w' := by
  go_enter Tryz.func90, Tryz.ntmps90
  refine wp_seq (wp_region_lit (wpList_plain rfl fun K hK => wp_run (v := .pointer (some ⟨w.heap.size, 0, none⟩)) (w' := w.alloc (.cells zeroV 101)) (by kernel_rfl) (hK _ _ (wpList_nil ?_))))
  clear hK K
  refine wp_seq (wp_region_lit (wpList_plain rfl fun K hK => wp_run (v := .agg tabV) (w' := w.alloc (.cells zeroV 101)) (by kernel_rfl) (hK _ _ ?_)))
  clear hK K
  refine wpList_store_mid rfl 101 _ _ rfl w.heap.size 0 tabV rfl rfl ?_ (by kernel_rfl) (by kernel_rfl) (wpList_nil ?_)
  · exact there_new w
  refine wp_ret (bodyPost_ret (v := .agg tabV) ?_ rfl ⟨rfl, ?_⟩)
  · have hr := run_loadVar_mid (P := Tryz.prog) _ w.heap.size 0 101 tabV.toList _ (World.rangeAt_setCells_same (w.alloc (.cells zeroV 101)) w.heap.size 0 tabV.toList (there_new w)) Tryz.underlying101 rfl (by kernel_rfl)
    simp only [results, Tryz.results90]
    rw [Array.toArray_toList] at hr
    generalize ((w.alloc (Obj.cells zeroV 101)).setCells w.heap.size 0 tabV.toList) = W at *
    simp [Act.put, asAddr, hr]
  · exact below_cells _ _ _ _ (Nat.le_refl _) ((Below.refl _ _).alloc (Nat.le_refl _) _)
end Go.Proofs.YtibnojbhoepcdaaGreatDoor.S
/- The sum of a text: the way of the program; the exact law of WordSumOf, walked. -/
namespace Go.Proofs.YtibnojbhoepcdaaGreatDoor.S
open Go.ChangeShapes Go.WideShapes Go.ChangeAt Go.RowKit
theorem tab_at {w : World} {b : Nat} (h : w.rangeAt b 0 tabV.toList) (k : Nat) (hk : k < 256) : w.cell? ⟨b, k, none⟩ = some (.int .u32 ((st8 k : Nat) : Int)) := by
  have := h k (.int .u32 ((st8 k : Nat) : Int)) (by
    have e := tab_eq k hk
    show (tabN.map fun (n : Nat) => Value.int .u32 (n : Int))[k]? = _
    rw [List.getElem?_map, e]; rfl)
  simpa using this
theorem there_new' (w : World) : (w.alloc (.cells zeroV 101)).there w.heap.size 0 tabV.size := by
  have := there_new w
  rwa [Array.length_toList] at this
theorem one_cell : tabV.all (·.oneCell') = true := by kernel_rfl
theorem info35 : (Tryz.prog.info? 101).map (·.size) = some tabV.size := by kernel_rfl
set_option maxRecDepth 10000 in
set_option maxHeartbeats 1000000 in
theorem sum_any (s : ByteArray) (hs : s.size ≤ 1048576) (w : World) :
    Calls Tryz.prog 52 #[.string s] w fun e w' => e = .returned (.int .i64 ((sumN s : Nat) : Int)) ∧ Below w.heap.size w w' := by
  go_enter Tryz.func52, Tryz.ntmps52
  go_wp2_with fail
  refine (tab_any _).mono ?_
  rintro e w1 ⟨rfl, b1⟩
  dsimp only
  rename_i hK
  refine hK _ _ ?_
  refine wpList_plain rfl fun K2 hK2 => wp_run (v := .pointer (some ⟨w1.heap.size, 0, none⟩)) (w' := w1.alloc (.cells zeroV 101)) (by kernel_rfl) (hK2 _ _ ?_)
  refine wpList_store_mid rfl 101 _ _ rfl w1.heap.size 0 tabV rfl rfl (there_new' _) info35 one_cell (wpList_nil ?_)
  have hr : ((w1.alloc (.cells zeroV 101)).setCells w1.heap.size 0 tabV.toList).rangeAt w1.heap.size 0 tabV.toList := World.rangeAt_setCells_same _ _ _ _ (there_new _)
  have hb : Below w.heap.size w ((w1.alloc (.cells zeroV 101)).setCells w1.heap.size 0 tabV.toList) := below_cells _ _ _ _ b1.size (b1.alloc b1.size _)
  generalize ((w1.alloc (.cells zeroV 101)).setCells w1.heap.size 0 tabV.toList) = W at *
  generalize w1.heap.size = T at *
  simp only [Act.put, List.setIfInBounds_toArray, List.set_cons_zero, List.set_cons_succ]
  generalize Value.agg tabV = tv
  clear hK2 K2 b1
  go_wp2_with fail
  go_loop [4, 5, 9] (fun v _ i => ∃ k : Nat, k ≤ s.size ∧ i = .int .i64 k ∧ v = .int .u32 ((crcN (byt s) k : Nat) : Int)) (fun _ _ i => s.size - (intOf i).toNat)
  case atStart => exact ⟨0, by omega, rfl, rfl⟩
  case round =>
    obtain ⟨k, hk, rfl, rfl⟩ := hrel
    have hy := crcN_lt (byt s) (byt_lt s) k
    by_cases hlt : k < s.size
    · have hs1 : Hid (crcN (byt s) (k + 1) = st8 (crcN (byt s) k ^^^ byt s k)) := rfl
      have hc := byt_lt s k
      have hbt := byt_at s k hlt
      generalize crcN (byt s) k = y at *
      generalize byt s k = c at *
      have hL : Hid ((y / 256) ^^^ st8 ((y % 256) ^^^ c) = st8 (y ^^^ c)) := look y c hc
      have x1 : bits .xor .u8 ((y : Int) % 256) (c : Int) = (((y % 256) ^^^ c : Nat) : Int) := by
        have := u8_xor_nat (y % 256) c (by omega) hc
        rw [← this]; congr 1
      have x2 : (y % 256) ^^^ c < 256 := Nat.xor_lt_two_pow (n := 8) (by omega) hc
      have x3 : st8 ((y % 256) ^^^ c) < 4294967296 := stpN_lt 8 _ (by omega)
      have x4 := tab_at hr _ x2
      have x5 : bits .xor .u32 ((y : Int) / 256) ((st8 ((y % 256) ^^^ c) : Nat) : Int) = (((y / 256) ^^^ st8 ((y % 256) ^^^ c) : Nat) : Int) := by
        have := u32_xor_nat (y / 256) (st8 ((y % 256) ^^^ c)) (by omega) x3
        rw [← this]; congr 1
      generalize (y % 256) ^^^ c = d at *
      generalize st8 d = t at *
      clear hr
      go_wp2
      go_round
      case rel => exact ⟨k + 1, by omega, by go_num, by rw [hs1.out, ← hL.out]⟩
      case measure => simp [intOf]; omega
    · have e : k = s.size := by omega
      have h2 := u32_xor_nat (crcN (byt s) k) 4294967295 hy (by omega)
      have h3 := xor_lt (crcN (byt s) k) 4294967295 hy (by omega)
      have e3 : ((4294967295 : Nat) : Int) = 4294967295 := rfl
      have hs1 : Hid (sumN s = crcN (byt s) k ^^^ 4294967295) := by rw [e]; rfl
      rw [e3] at h2
      clear e e3 hr
      generalize crcN (byt s) k = y at *
      generalize y ^^^ 4294967295 = z at *
      go_wp2
      go_ret
      exact ⟨ret_int (by rw [hs1.out]), hb⟩
end Go.Proofs.YtibnojbhoepcdaaGreatDoor.S
/- A number's figures to the base 16: the library's way. -/
namespace Go.Proofs.YtibnojbhoepcdaaGreatDoor.S
open Go.ChangeShapes Go.WideShapes Go.ChangeAt Go.RowKit
attribute [local go_sem ↓] Go.wp_at_zero Go.wp_at_succ
/-- a figure -/
def hexD (d : Nat) : UInt8 := if d < 10 then UInt8.ofNat (48 + d) else UInt8.ofNat (87 + d)
/-- a number's figures, ahead of others -/
def hexA : Nat → Nat → List UInt8 → List UInt8
  | 0, n, l => hexD (n % 16) :: l
  | k + 1, n, l => if n < 16 then hexD n :: l else hexA k (n / 16) (hexD (n % 16) :: l)
def hexL (n : Nat) : List UInt8 := hexA 7 n []
/-- the block of figures -/
structure HB (w wr : World) (l : List UInt8) : Prop where
  b : Below w.heap.size w wr
  c : ∀ j, j < 65 → ∃ x : Int, wr.cell? ⟨w.heap.size, j, none⟩ = some (.int .u8 x)
  f : ∀ j, wr.frozen? ⟨w.heap.size, j, none⟩ = false
  l : ∀ j (h : j < l.length), wr.cell? ⟨w.heap.size, 65 - l.length + j, none⟩ = some (.int .u8 (l[j].toNat : Int))
theorem below_set {w wr : World} (h : Below w.heap.size w wr) (k : Nat) (v : Value) : Below w.heap.size w (wr.setCell ⟨w.heap.size, k, none⟩ v) := h.setCell (Nat.le_refl _) v
theorem HB.store {w wr : World} {l : List UInt8} (h : HB w wr l) (hl : l.length < 65) (d : UInt8) : HB w (wr.setCell ⟨w.heap.size, 65 - l.length - 1, none⟩ (.int .u8 (d.toNat : Int))) (d :: l) := by
  rw [show 65 - l.length - 1 = 64 - l.length by omega]
  obtain ⟨x, hx⟩ := h.c (64 - l.length) (by omega)
  refine ⟨below_set h.b _ _, fun j hj => ?_, fun j => by rw [World.frozen?_setCell]; exact h.f j, fun j hj => ?_⟩
  · by_cases e : j = 64 - l.length
    · subst e; exact ⟨_, World.cell?_setCell_same _ _ _ hx⟩
    · rw [World.cell?_setCell_other _ _ _ _ (by intro q; injection q with q1 q2; omega)]
      exact h.c j hj
  · cases j with
    | zero =>
      have e : 65 - (d :: l).length + 0 = 64 - l.length := by simp only [List.length_cons]; omega
      rw [e]
      exact World.cell?_setCell_same _ _ _ hx
    | succ j =>
      have e : 65 - (d :: l).length + (j + 1) = 65 - l.length + j := by simp only [List.length_cons]; omega
      rw [e, World.cell?_setCell_other _ _ _ _ (by intro q; injection q with q1 q2; omega)]
      exact h.l j (by simpa using hj)
theorem tz_any (w : World) (hc : w.cell? ⟨9, 15, none⟩ = some (.int .u8 4)) :
    Calls Tryz.prog 180 #[.int .u64 16] w fun e w' => e = .returned (.int .i64 4) ∧ w' = w := by
  have key : IntKind.u64.wrap (bits BinOp.and IntKind.u64 16 (IntKind.u64.wrap (-16)) * 285870213051353865) / 288230376151711744 = 15 := by decide +kernel
  go_enter Tryz.func180, Tryz.ntmps180
  go_wp2_with (simp only [key])
  go_ret
  exact ⟨rfl, rfl⟩
theorem tzu_any (w : World) (hc : w.cell? ⟨9, 15, none⟩ = some (.int .u8 4)) :
    Calls Tryz.prog 170 #[.int .u64 16] w fun e w' => e = .returned (.int .i64 4) ∧ w' = w := by
  go_enter Tryz.func170, Tryz.ntmps170
  go_wp2_with fail
  refine (tz_any w hc).mono ?_
  rintro e w' ⟨rfl, hw⟩
  obtain rfl := hw.symm
  go_wp2
  go_ret
  exact ⟨rfl, rfl⟩
theorem pow2_any (w : World) :
    Calls Tryz.prog 169 #[.int .i64 16] w fun e w' => e = .returned (.bool true) ∧ w' = w := by
  have key : bits BinOp.and IntKind.i64 16 15 = 0 := by decide +kernel
  go_enter Tryz.func169, Tryz.ntmps169
  go_wp2_with (simp only [key])
  go_ret
  exact ⟨rfl, rfl⟩
theorem zero65 : Tryz.zeroCells171 = (List.replicate 65 (Value.int .u8 0)).toArray := by kernel_rfl
theorem HB.new (w : World) (T : TypeId) : HB w (w.alloc (.cells Tryz.zeroCells171 T)) [] := by
  refine ⟨Below.alloc (Below.refl _ _) (Nat.le_refl _) _, fun j hj => ⟨0, ?_⟩, fun j => World.frozen?_alloc_new _ _ _ _, fun j hj => by simp at hj⟩
  rw [World.cell?_alloc_new, zero65, List.getElem?_toArray, List.getElem?_replicate, if_pos hj]
theorem cell_lt {w : World} {p : Addr} {v : Value} (h : w.cell? p = some v) : p.block < w.heap.size := by
  rcases Nat.lt_or_ge p.block w.heap.size with h' | h'
  · exact h'
  · unfold World.cell? at h
    rw [Array.getElem?_eq_none h'] at h
    cases h
theorem dig_at (d : Nat) (h : d < 16) (h2 : d < (ByteArray.mk #[48, 49, 50, 51, 52, 53, 54, 55, 56, 57, 97, 98, 99, 100, 101, 102, 103, 104, 105, 106, 107, 108, 109, 110, 111, 112, 113, 114, 115, 116, 117, 118, 119, 120, 121, 122]).size) : (ByteArray.mk #[48, 49, 50, 51, 52, 53, 54, 55, 56, 57, 97, 98, 99, 100, 101, 102, 103, 104, 105, 106, 107, 108, 109, 110, 111, 112, 113, 114, 115, 116, 117, 118, 119, 120, 121, 122])[d] = hexD d := by
  have : ∀ e : Fin 16, (ByteArray.mk #[48, 49, 50, 51, 52, 53, 54, 55, 56, 57, 97, 98, 99, 100, 101, 102, 103, 104, 105, 106, 107, 108, 109, 110, 111, 112, 113, 114, 115, 116, 117, 118, 119, 120, 121, 122])[e.val]'(Nat.lt_trans e.isLt (by decide)) = hexD e.val := by decide +kernel
  exact this ⟨d, h⟩
theorem and15 (u : Nat) (h : u < 4294967296) : bits BinOp.and IntKind.u64 (u : Int) 15 = ((u % 16 : Nat) : Int) := by
  have := bits_and_u64_nat u 15 (by omega) (by omega)
  rw [show ((15 : Nat) : Int) = (15 : Int) from rfl] at this
  rw [this]
  congr 1
  exact Nat.and_two_pow_sub_one_eq_mod u 4
set_option maxRecDepth 20000 in
set_option maxHeartbeats 4000000 in
theorem fbits_any (n : Nat) (hn : n < 4294967296) (w : World) (hc : w.cell? ⟨9, 15, none⟩ = some (.int .u8 4)) :
    Calls Tryz.prog 146 #[.slice none 0 0, .int .u64 n, .int .i64 16, .bool false, .bool false] w fun e w' => e = .returned (.tuple #[.slice none 0 0, .string (bs (hexL n))]) ∧ Below w.heap.size w w' := by
  go_enter Tryz.func146, Tryz.ntmps146
  go_wp2_with fail
  refine (pow2_any _).mono ?_
  rintro e w' ⟨rfl, hw⟩
  obtain rfl := hw.symm
  clear hw
  have h0 := HB.new w 171
  have hc1 := (h0.b.cell (p := ⟨9, 15, none⟩) (cell_lt hc)).trans hc
  go_wp2_with fail
  refine (tzu_any _ hc1).mono ?_
  rintro e w' ⟨rfl, rfl⟩
  clear hc1
  generalize w.alloc _ = w1 at *
  go_wp2_with fail
  go_loopw [1, 13] (fun u i wr => ∃ (x : Nat) (l : List UInt8) (k : Nat), x < 16 ^ (k + 1) ∧ k + l.length = 7 ∧ u = .int .u64 x ∧ i = .int .i64 ((65 : Int) - l.length) ∧ hexA k x l = hexL n ∧ HB w wr l) (fun u _ _ => (intOf u).toNat)
  case atStart => exact ⟨n, [], 7, by omega, rfl, rfl, rfl, rfl, h0⟩
  case round =>
    clear h0
    obtain ⟨x, l, k, hx, hk, rfl, rfl, he, hb⟩ := hrel
    have heH : Hid (hexA k x l = hexL n) := he
    clear he
    have x32 : x < 4294967296 := Nat.lt_of_lt_of_le hx (by
      have : (16:Nat) ^ (k + 1) ≤ 16 ^ 8 := Nat.pow_le_pow_right (by omega) (by omega)
      omega)
    have hlen : l.length ≤ 7 := by omega
    obtain ⟨z, hz⟩ := hb.c (65 - l.length - 1) (by omega)
    have hfz := hb.f (65 - l.length - 1)
    have hst : ∀ d, Hid (HB w (wr.setCell ⟨w.heap.size, 65 - l.length - 1, none⟩ (.int .u8 (d.toNat : Int))) (d :: l)) := fun d => hb.store (by omega) d
    by_cases h16 : x < 16
    · have hlt : ¬ (16 : Int) ≤ (x : Int) := by omega
      have d0 : (0 : Int) ≤ (x : Int) := by omega
      have d1 : (x : Int) < 36 := by omega
      have dg := dig_at x h16
      have hsl : ∀ W, (Instr.sliceAt 171 (.pointer (some ⟨w.heap.size, 0, none⟩)) (some (.int .i64 ((65 : Int) - l.length - 1))) none none).run Tryz.prog W = .ok (.slice (some ⟨w.heap.size, 65 - l.length - 1, none⟩) (l.length + 1) (l.length + 1)) W := fun W => by
        have hal : Tryz.prog.arrayLen 171 = 65 := by kernel_rfl
        rw [run_sliceAt_array_l W 171 ⟨w.heap.size, 0, none⟩ (by kernel_rfl) .i64 ((65 : Int) - l.length - 1) (by omega) (by rw [hal]; omega)]
        go_simp
        omega
      have hf := (hst (hexD x)).out
      have hcv : (convert 22 9 (.slice (some ⟨w.heap.size, 65 - l.length - 1, none⟩) (l.length + 1) (l.length + 1))).run Tryz.prog (wr.setCell ⟨w.heap.size, 65 - l.length - 1, none⟩ (.int .u8 ((hexD x).toNat : Int))) = .ok (.string ⟨(hexD x :: l).toArray⟩) (wr.setCell ⟨w.heap.size, 65 - l.length - 1, none⟩ (.int .u8 ((hexD x).toNat : Int))) :=
        run_convert_bytes_back (P := Tryz.prog) _ 22 9 5 ⟨w.heap.size, 65 - l.length - 1, none⟩ _ (hexD x :: l) Tryz.underlying22 Tryz.underlying5 Tryz.underlying9 (fun j hj => by
          rw [Lib.add_plain]
          have := hf.l j hj
          rw [show 65 - (hexD x :: l).length + j = 65 - l.length - 1 + j by simp only [List.length_cons]; omega] at this
          exact this)
      have hfin : hexL n = hexD x :: l := by
        rw [← heH.out]
        cases k with
        | zero => rw [hexA, Nat.mod_eq_of_lt h16]
        | succ k => rw [hexA, if_pos h16]
      have hfB := hf.b
      have hfH : Hid (hexL n = hexD x :: l) := hfin
      clear hf hfin
      go_wp2
      go_ret2
      exact ⟨by rw [hfH.out]; rfl, hfB⟩
    · have hge : (16 : Int) ≤ (x : Int) := by omega
      have ha := and15 x x32
      have hd : x % 16 < 16 := Nat.mod_lt _ (by omega)
      have hs : Hid (hexA (k - 1) (x / 16) (hexD (x % 16) :: l) = hexL n) := by
        have := heH.out
        have hk1 : k ≠ 0 := by rintro rfl; omega
        obtain ⟨k', rfl⟩ : ∃ k', k = k' + 1 := ⟨k - 1, by omega⟩
        rw [hexA, if_neg h16] at this
        exact this
      generalize hdd : x % 16 = d at *
      have hdH : Hid (x % 16 = d) := hdd
      clear hdd
      have d0 : (0 : Int) ≤ (d : Int) := by omega
      have d1 : (d : Int) < 36 := by omega
      have dg := dig_at d hd
      go_wp2_with fail
      have hk1 : k ≠ 0 := by rintro rfl; omega
      obtain ⟨k', rfl⟩ : ∃ k', k = k' + 1 := ⟨k - 1, by omega⟩
      refine ⟨⟨x / 16, hexD d :: l, k', ?_, ?_, ?_, ?_, hs.out, (hst _).out⟩, ?_⟩
      · exact Nat.div_lt_of_lt_mul (by rw [Nat.pow_succ, Nat.mul_comm] at hx; exact hx)
      · simp only [List.length_cons]; omega
      · go_num
      · simp only [List.length_cons]; go_num
      · simp only [intOf]; omega
theorem ifmt_any (n : Nat) (hn : n < 4294967296) (w : World) (hc : w.cell? ⟨9, 15, none⟩ = some (.int .u8 4)) :
    Calls Tryz.prog 121 #[.int .i64 n, .int .i64 16] w fun e w' => e = .returned (.string (bs (hexL n))) ∧ Below w.heap.size w w' := by
  have h0 : ¬ (n : Int) < 0 := by omega
  go_enter Tryz.func121, Tryz.ntmps121
  go_wp2_with fail
  refine (fbits_any n hn w hc).mono ?_
  rintro e w' ⟨rfl, hb⟩
  go_wp2
  go_ret
  exact ⟨rfl, hb⟩
theorem fmt_any (n : Nat) (hn : n < 4294967296) (w : World) (hc : w.cell? ⟨9, 15, none⟩ = some (.int .u8 4)) :
    Calls Tryz.prog 88 #[.int .i64 n, .int .i64 16] w fun e w' => e = .returned (.string (bs (hexL n))) ∧ Below w.heap.size w w' := by
  go_enter Tryz.func88, Tryz.ntmps88
  go_wp2_with fail
  refine (ifmt_any n hn w hc).mono ?_
  rintro e w' ⟨rfl, hb⟩
  go_wp2
  go_ret
  exact ⟨rfl, hb⟩
end Go.Proofs.YtibnojbhoepcdaaGreatDoor.S
/- The sum's text: eight figures; the program's way and the model's. -/
namespace Go.Proofs.YtibnojbhoepcdaaGreatDoor.S
open Go.ChangeShapes Go.WideShapes Go.ChangeAt Go.RowKit
attribute [local go_sem ↓] Go.wp_at_zero Go.wp_at_succ
/-- just so many figures -/
def hexP : Nat → Nat → List UInt8
  | 0, _ => []
  | k + 1, n => hexP k (n / 16) ++ [hexD (n % 16)]
theorem hexP_zero (k : Nat) : hexP k 0 = List.replicate k 48 := by
  induction k with
  | zero => rfl
  | succ k ih => rw [hexP, Nat.zero_div, ih, List.replicate_succ']; rfl
theorem hexA_len (k : Nat) : ∀ n l, (hexA k n l).length ≤ k + 1 + l.length ∧ l.length < (hexA k n l).length := by
  induction k with
  | zero => intro n l; simp [hexA]; omega
  | succ k ih =>
    intro n l
    rw [hexA]
    split
    · simp; omega
    · have := ih (n / 16) (hexD (n % 16) :: l)
      simp only [List.length_cons] at this
      omega
theorem hexA_pad (k : Nat) : ∀ n l, n < 16 ^ (k + 1) → List.replicate (k + 1 + l.length - (hexA k n l).length) 48 ++ hexA k n l = hexP (k + 1) n ++ l := by
  induction k with
  | zero => intro n l h; simp [hexA, hexP, Nat.add_comm]
  | succ k ih =>
    intro n l h
    rw [hexA]
    split
    · rename_i h16
      rw [hexP, Nat.div_eq_of_lt h16, hexP_zero, Nat.mod_eq_of_lt h16]
      simp only [List.length_cons]
      rw [show k + 1 + 1 + l.length - (l.length + 1) = k + 1 by omega]
      simp
    · have := ih (n / 16) (hexD (n % 16) :: l) (Nat.div_lt_of_lt_mul (by rw [Nat.pow_succ, Nat.mul_comm] at h; exact h))
      simp only [List.length_cons] at this
      rw [show k + 1 + 1 + l.length = k + 1 + (l.length + 1) by omega, this]
      rw [hexP.eq_def (k + 1 + 1)]
      simp
/-- the sum's text -/
def hex8 (n : Nat) : List UInt8 := hexP 8 n
theorem hex8_pad (n : Nat) (h : n < 4294967296) : List.replicate (8 - (hexL n).length) 48 ++ hexL n = hex8 n := by
  have := hexA_pad 7 n [] (by omega)
  simpa [hexL, hex8] using this
theorem hexL_len (n : Nat) : (hexL n).length ≤ 8 := by have := (hexA_len 7 n []).1; simpa [hexL] using this
theorem hexP_len (k n : Nat) : (hexP k n).length = k := by
  induction k generalizing n with
  | zero => rfl
  | succ k ih => simp [hexP, ih]
theorem rep48 (c : Nat) : Lib.repeatL [48] c = List.replicate c 48 := by
  induction c with
  | zero => rfl
  | succ c ih => rw [Lib.repeatL, ih, List.replicate_succ]; rfl
set_option maxRecDepth 20000 in
set_option maxHeartbeats 1000000 in
theorem sumText_any (n : Nat) (hn : n < 4294967296) (w : World) (hc : w.cell? ⟨9, 15, none⟩ = some (.int .u8 4)) :
    Calls Tryz.prog 51 #[.int .i64 n] w fun e w' => e = .returned (.string (bs (hex8 n))) ∧ Below w.heap.size w w' := by
  have hpad := hex8_pad n hn
  have hlen := hexL_len n
  have hf := fmt_any n hn w hc
  generalize hexL n = l at hpad hlen hf
  generalize hex8 n = t at hpad
  obtain ⟨F, hF⟩ : ∃ F, bs l = F := ⟨_, rfl⟩
  have hsz : F.size = l.length := by rw [← hF]; simp [ByteArray.size]
  have hr := fun w1 => Tryz.strings_Repeat ⟨#[48]⟩ (8 - F.size) w1 (by omega) (by rw [show (ByteArray.mk #[48]).size = 1 from rfl]; omega)
  have hE : ByteArray.mk (Lib.repeatL (ByteArray.mk #[48]).data.toList (8 - F.size)).toArray ++ F = bs t := by
    rw [← hpad, ← hF, show (ByteArray.mk #[48]).data.toList = [48] from rfl, rep48, show (bs l).size = l.length by simp [ByteArray.size]]
    exact bs_append _ _
  have hRs : (ByteArray.mk (Lib.repeatL (ByteArray.mk #[48]).data.toList (8 - F.size)).toArray).size = 8 - F.size := by
    rw [show (ByteArray.mk #[48]).data.toList = [48] from rfl, rep48]
    exact List.size_toArray.trans List.length_replicate
  generalize ByteArray.mk (Lib.repeatL (ByteArray.mk #[48]).data.toList (8 - F.size)).toArray = R at hr hE hRs
  rw [hF] at hf
  rw [show ((8 - F.size : Nat) : Int) = 8 - (F.size : Int) by omega] at hr
  generalize bs t = T at *
  have big : ¬ (9223372036854775807 : Int) < (R.size : Int) + (F.size : Int) := by omega
  have hEH : Hid (R ++ F = T) := hE
  have hrH : Hid _ := hr
  clear hE hpad hF hRs hsz hlen hr hn
  go_enter Tryz.func51, Tryz.ntmps51
  go_wp2_with fail
  refine hf.mono ?_
  rintro e w1 ⟨rfl, b1⟩
  clear hf
  go_wp2_with fail
  refine (hrH.out w1).mono ?_
  rintro e w2 ⟨rfl, b2⟩
  have B2 := btrans b1 b2
  clear hrH
  go_wp2
  go_ret
  exact ⟨by rw [hEH.out]; rfl, B2⟩
end Go.Proofs.YtibnojbhoepcdaaGreatDoor.S
