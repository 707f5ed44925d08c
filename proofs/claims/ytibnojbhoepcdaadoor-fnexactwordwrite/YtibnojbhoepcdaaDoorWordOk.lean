/- Words that are ok, whole. -/
import Derived.Test.YtibnojbhoepcdaaDoorWord
namespace Go.Proofs.YtibnojbhoepcdaaDoor
open Go.ChangeShapes Go.WideShapes Go.ChangeAt Go.RowKit
attribute [local go_sem ↓] Go.wp_at_zero Go.wp_at_succ
theorem ste_eq (n : Int) : IntKind.i64.wrap (n.tdiv 4) = ste n := by unfold ste wrap64; exact IntKind.wrap_i64 _
theorem nodeOk_lit (n : Int) (b : Bool) (h : inb n 0 7 = b) (w : World) : Calls Tryd.prog 37 #[.int .i64 n] w fun e w' => e = .returned (.bool b) ∧ w' = w := h ▸ nodeOk_any n w
theorem fcok_lit (x y h e : Int) (b : Bool) (hb : cok x y h e = b) (w : World) :
    Calls Tryd.prog 38 #[.agg #[.int .i64 x, .int .i64 y, .int .i64 h, .int .i64 e]] w fun r w' => r = .returned (.bool b) ∧ Below w.heap.size w w' := hb ▸ fcok_any x y h e w
theorem scoord_lit (x y h e : Int) (b : Bool) (hb : cok x y h e = b) (w : World) :
    Calls Tryd.prog 27 #[.agg #[.int .i64 x, .int .i64 y, .int .i64 h, .int .i64 e]] w fun r w' => r = .returned (.bool b) ∧ Below w.heap.size w w' := hb ▸ scoord_any x y h e w
set_option maxRecDepth 10000 in
set_option maxHeartbeats 8000000 in
theorem wok_any (p k f t s q x y z e : Int) (a : Option Addr) (len cap : Nat) (F : Nat → Fc) (w : World) (h : FSl w a len F) (hl : len ≤ 1048576) :
    Calls Tryd.prog 16 #[.agg #[.int .i64 p, .int .i64 k, .int .i64 f, .int .i64 t, .int .i64 s, .int .i64 q, .int .i64 x, .int .i64 y, .int .i64 z, .int .i64 e, (.slice a len cap)]] w fun r w' => r = .returned (.bool (wokB p k f t s q x y z e len F)) ∧ Below w.heap.size w w' := by
  go_enter Tryd.func16, Tryd.ntmps16
  go_wp2_with fail
  have bw := balloc (.cells #[.int .i64 p, .int .i64 k, .int .i64 f, .int .i64 t, .int .i64 s, .int .i64 q, .int .i64 x, .int .i64 y, .int .i64 z, .int .i64 e, (.slice a len cap)] 32) (Below.refl w.heap.size w)
  have c0 : (w.alloc (.cells #[.int .i64 p, .int .i64 k, .int .i64 f, .int .i64 t, .int .i64 s, .int .i64 q, .int .i64 x, .int .i64 y, .int .i64 z, .int .i64 e, (.slice a len cap)] 32)).cell? ⟨w.heap.size, 0, none⟩ = some (.int .i64 p) := by simp [go_sem]
  have c1 : (w.alloc (.cells #[.int .i64 p, .int .i64 k, .int .i64 f, .int .i64 t, .int .i64 s, .int .i64 q, .int .i64 x, .int .i64 y, .int .i64 z, .int .i64 e, (.slice a len cap)] 32)).cell? ⟨w.heap.size, 1, none⟩ = some (.int .i64 k) := by simp [go_sem]
  have c2 : (w.alloc (.cells #[.int .i64 p, .int .i64 k, .int .i64 f, .int .i64 t, .int .i64 s, .int .i64 q, .int .i64 x, .int .i64 y, .int .i64 z, .int .i64 e, (.slice a len cap)] 32)).cell? ⟨w.heap.size, 2, none⟩ = some (.int .i64 f) := by simp [go_sem]
  have c3 : (w.alloc (.cells #[.int .i64 p, .int .i64 k, .int .i64 f, .int .i64 t, .int .i64 s, .int .i64 q, .int .i64 x, .int .i64 y, .int .i64 z, .int .i64 e, (.slice a len cap)] 32)).cell? ⟨w.heap.size, 3, none⟩ = some (.int .i64 t) := by simp [go_sem]
  have c4 : (w.alloc (.cells #[.int .i64 p, .int .i64 k, .int .i64 f, .int .i64 t, .int .i64 s, .int .i64 q, .int .i64 x, .int .i64 y, .int .i64 z, .int .i64 e, (.slice a len cap)] 32)).cell? ⟨w.heap.size, 4, none⟩ = some (.int .i64 s) := by simp [go_sem]
  have c5 : (w.alloc (.cells #[.int .i64 p, .int .i64 k, .int .i64 f, .int .i64 t, .int .i64 s, .int .i64 q, .int .i64 x, .int .i64 y, .int .i64 z, .int .i64 e, (.slice a len cap)] 32)).cell? ⟨w.heap.size, 5, none⟩ = some (.int .i64 q) := by simp [go_sem]
  have c6 : (w.alloc (.cells #[.int .i64 p, .int .i64 k, .int .i64 f, .int .i64 t, .int .i64 s, .int .i64 q, .int .i64 x, .int .i64 y, .int .i64 z, .int .i64 e, (.slice a len cap)] 32)).cell? ⟨w.heap.size, 6, none⟩ = some (.int .i64 x) := by simp [go_sem]
  have c7 : (w.alloc (.cells #[.int .i64 p, .int .i64 k, .int .i64 f, .int .i64 t, .int .i64 s, .int .i64 q, .int .i64 x, .int .i64 y, .int .i64 z, .int .i64 e, (.slice a len cap)] 32)).cell? ⟨w.heap.size, 7, none⟩ = some (.int .i64 y) := by simp [go_sem]
  have c8 : (w.alloc (.cells #[.int .i64 p, .int .i64 k, .int .i64 f, .int .i64 t, .int .i64 s, .int .i64 q, .int .i64 x, .int .i64 y, .int .i64 z, .int .i64 e, (.slice a len cap)] 32)).cell? ⟨w.heap.size, 8, none⟩ = some (.int .i64 z) := by simp [go_sem]
  have c9 : (w.alloc (.cells #[.int .i64 p, .int .i64 k, .int .i64 f, .int .i64 t, .int .i64 s, .int .i64 q, .int .i64 x, .int .i64 y, .int .i64 z, .int .i64 e, (.slice a len cap)] 32)).cell? ⟨w.heap.size, 9, none⟩ = some (.int .i64 e) := by simp [go_sem]
  have c10 : (w.alloc (.cells #[.int .i64 p, .int .i64 k, .int .i64 f, .int .i64 t, .int .i64 s, .int .i64 q, .int .i64 x, .int .i64 y, .int .i64 z, .int .i64 e, (.slice a len cap)] 32)).cell? ⟨w.heap.size, 10, none⟩ = some (.slice a len cap) := by simp [go_sem]
  have hfw := h.below bw
  generalize (w.alloc (.cells #[.int .i64 p, .int .i64 k, .int .i64 f, .int .i64 t, .int .i64 s, .int .i64 q, .int .i64 x, .int .i64 y, .int .i64 z, .int .i64 e, (.slice a len cap)] 32)) = W at *
  refine (within_any p 1 2 _).mono ?_
  rintro r w1 ⟨rfl, hw1⟩
  obtain rfl := hw1.symm
  clear hw1
  cases z1 : inb p 1 2
  · have y1 : Hid (inb p 1 2 = false) := z1
    clear z1 c0 c1 c2 c3 c4 c5 c6 c7 c8 c9 c10 hfw
    go_wp2
    go_ret
    refine ⟨ret_bool ?_, bw⟩
    unfold wokB preB
    rw [y1.out]
    simp
  · have y1 : Hid (inb p 1 2 = true) := z1
    clear z1
    go_wp2_with fail
    refine (within_any k 1 6 _).mono ?_
    rintro r w2 ⟨rfl, hw2⟩
    obtain rfl := hw2.symm
    clear hw2
    cases z2 : inb k 1 6
    · have y2 : Hid (inb k 1 6 = false) := z2
      clear z2 c0 c1 c2 c3 c4 c5 c6 c7 c8 c9 c10 hfw
      go_wp2
      go_ret
      refine ⟨ret_bool ?_, bw⟩
      unfold wokB preB
      rw [y2.out]
      simp
    · have y2 : Hid (inb k 1 6 = true) := z2
      clear z2
      go_wp2_with fail
      refine (nodeOk_any f _).mono ?_
      rintro r w3 ⟨rfl, hw3⟩
      obtain rfl := hw3.symm
      clear hw3
      cases z3 : inb f 0 7
      · have y3 : Hid (inb f 0 7 = false) := z3
        clear z3 c0 c1 c2 c3 c4 c5 c6 c7 c8 c9 c10 hfw
        go_wp2
        go_ret
        refine ⟨ret_bool ?_, bw⟩
        unfold wokB preB
        rw [y3.out]
        simp
      · have y3 : Hid (inb f 0 7 = true) := z3
        clear z3
        go_wp2_with fail
        refine (nodeOk_any t _).mono ?_
        rintro r w4 ⟨rfl, hw4⟩
        obtain rfl := hw4.symm
        clear hw4
        cases z4 : inb t 0 7
        · have y4 : Hid (inb t 0 7 = false) := z4
          clear z4 c0 c1 c2 c3 c4 c5 c6 c7 c8 c9 c10 hfw
          go_wp2
          go_ret
          refine ⟨ret_bool ?_, bw⟩
          unfold wokB preB
          rw [y4.out]
          simp
        · have y4 : Hid (inb t 0 7 = true) := z4
          clear z4
          go_wp2_with fail
          refine (nodeOk_any q _).mono ?_
          rintro r w5 ⟨rfl, hw5⟩
          obtain rfl := hw5.symm
          clear hw5
          cases z5 : inb q 0 7
          · have y5 : Hid (inb q 0 7 = false) := z5
            clear z5 c0 c1 c2 c3 c4 c5 c6 c7 c8 c9 c10 hfw
            go_wp2
            go_ret
            refine ⟨ret_bool ?_, bw⟩
            unfold wokB preB
            rw [y5.out]
            simp
          · have y5 : Hid (inb q 0 7 = true) := z5
            clear z5
            go_wp2_with fail
            refine (within_any s 0 999999 _).mono ?_
            rintro r w6 ⟨rfl, hw6⟩
            obtain rfl := hw6.symm
            clear hw6
            cases z6 : inb s 0 999999
            · have y6 : Hid (inb s 0 999999 = false) := z6
              clear z6 c0 c1 c2 c3 c4 c5 c6 c7 c8 c9 c10 hfw
              go_wp2
              go_ret
              refine ⟨ret_bool ?_, bw⟩
              unfold wokB preB
              rw [y6.out]
              simp
            · have y6 : Hid (inb s 0 999999 = true) := z6
              clear z6
              go_wp2_with fail
              refine (fcok_any x y z e _).mono ?_
              rintro r w7 ⟨rfl, b7⟩
              replace c0 := keep_below b7 c0
              replace c1 := keep_below b7 c1
              replace c2 := keep_below b7 c2
              replace c3 := keep_below b7 c3
              replace c4 := keep_below b7 c4
              replace c5 := keep_below b7 c5
              replace c6 := keep_below b7 c6
              replace c7 := keep_below b7 c7
              replace c8 := keep_below b7 c8
              replace c9 := keep_below b7 c9
              replace c10 := keep_below b7 c10
              have B7 := btrans bw b7
              have hf7 := hfw.below b7
              clear b7 hfw bw
              cases z7 : cok x y z e
              · have y7 : Hid (cok x y z e = false) := z7
                clear z7 c0 c1 c2 c3 c4 c5 c6 c7 c8 c9 c10 hf7
                go_wp2
                go_ret
                refine ⟨ret_bool ?_, B7⟩
                unfold wokB preB
                rw [y7.out]
                simp
              · have y7 : Hid (cok x y z e = true) := z7
                clear z7
                go_wp2_with fail
                refine (tok_any a len cap F _ hf7 hl).mono ?_
                rintro r w8 ⟨rfl, b8⟩
                replace c0 := keep_below b8 c0
                replace c1 := keep_below b8 c1
                replace c2 := keep_below b8 c2
                replace c3 := keep_below b8 c3
                replace c4 := keep_below b8 c4
                replace c5 := keep_below b8 c5
                replace c6 := keep_below b8 c6
                replace c7 := keep_below b8 c7
                replace c8 := keep_below b8 c8
                replace c9 := keep_below b8 c9
                replace c10 := keep_below b8 c10
                have B8 := btrans B7 b8
                have hf8 := hf7.below b8
                clear b8 hf7 B7
                cases z8 : tokB len F
                · have y8 : Hid (tokB len F = false) := z8
                  clear z8 c0 c1 c2 c3 c4 c5 c6 c7 c8 c9 c10 hf8
                  go_wp2
                  go_ret
                  refine ⟨ret_bool ?_, B8⟩
                  unfold wokB preB
                  rw [y8.out]
                  simp
                · have y8 : Hid (tokB len F = true) := z8
                  clear z8
                  go_wp2_with fail
                  refine (sites_any p k f t s q x y z e a len cap F _ hf8 hl).mono ?_
                  rintro r w9 ⟨rfl, b9⟩
                  go_wp2
                  go_ret
                  refine ⟨ret_bool ?_, btrans B8 b9⟩
                  unfold wokB preB
                  rw [y1.out, y2.out, y3.out, y4.out, y5.out, y6.out, y7.out, y8.out]
                  simp
set_option maxRecDepth 10000 in
set_option maxHeartbeats 8000000 in
theorem swok_any (p k f t s q x y z e : Int) (a : Option Addr) (len cap : Nat) (F : Nat → Fc) (w : World) (h : FSl w a len F) (hl : len ≤ 1048576) :
    Calls Tryd.prog 10 #[.agg #[.int .i64 p, .int .i64 k, .int .i64 f, .int .i64 t, .int .i64 s, .int .i64 q, .int .i64 x, .int .i64 y, .int .i64 z, .int .i64 e, (.slice a len cap)]] w fun r w' => r = .returned (.bool (wokB p k f t s q x y z e len F)) ∧ Below w.heap.size w w' := by
  go_enter Tryd.func10, Tryd.ntmps10
  go_wp2_with fail
  have bw := balloc (.cells #[.int .i64 p, .int .i64 k, .int .i64 f, .int .i64 t, .int .i64 s, .int .i64 q, .int .i64 x, .int .i64 y, .int .i64 z, .int .i64 e, (.slice a len cap)] 32) (Below.refl w.heap.size w)
  have c0 : (w.alloc (.cells #[.int .i64 p, .int .i64 k, .int .i64 f, .int .i64 t, .int .i64 s, .int .i64 q, .int .i64 x, .int .i64 y, .int .i64 z, .int .i64 e, (.slice a len cap)] 32)).cell? ⟨w.heap.size, 0, none⟩ = some (.int .i64 p) := by simp [go_sem]
  have c1 : (w.alloc (.cells #[.int .i64 p, .int .i64 k, .int .i64 f, .int .i64 t, .int .i64 s, .int .i64 q, .int .i64 x, .int .i64 y, .int .i64 z, .int .i64 e, (.slice a len cap)] 32)).cell? ⟨w.heap.size, 1, none⟩ = some (.int .i64 k) := by simp [go_sem]
  have c2 : (w.alloc (.cells #[.int .i64 p, .int .i64 k, .int .i64 f, .int .i64 t, .int .i64 s, .int .i64 q, .int .i64 x, .int .i64 y, .int .i64 z, .int .i64 e, (.slice a len cap)] 32)).cell? ⟨w.heap.size, 2, none⟩ = some (.int .i64 f) := by simp [go_sem]
  have c3 : (w.alloc (.cells #[.int .i64 p, .int .i64 k, .int .i64 f, .int .i64 t, .int .i64 s, .int .i64 q, .int .i64 x, .int .i64 y, .int .i64 z, .int .i64 e, (.slice a len cap)] 32)).cell? ⟨w.heap.size, 3, none⟩ = some (.int .i64 t) := by simp [go_sem]
  have c4 : (w.alloc (.cells #[.int .i64 p, .int .i64 k, .int .i64 f, .int .i64 t, .int .i64 s, .int .i64 q, .int .i64 x, .int .i64 y, .int .i64 z, .int .i64 e, (.slice a len cap)] 32)).cell? ⟨w.heap.size, 4, none⟩ = some (.int .i64 s) := by simp [go_sem]
  have c5 : (w.alloc (.cells #[.int .i64 p, .int .i64 k, .int .i64 f, .int .i64 t, .int .i64 s, .int .i64 q, .int .i64 x, .int .i64 y, .int .i64 z, .int .i64 e, (.slice a len cap)] 32)).cell? ⟨w.heap.size, 5, none⟩ = some (.int .i64 q) := by simp [go_sem]
  have c6 : (w.alloc (.cells #[.int .i64 p, .int .i64 k, .int .i64 f, .int .i64 t, .int .i64 s, .int .i64 q, .int .i64 x, .int .i64 y, .int .i64 z, .int .i64 e, (.slice a len cap)] 32)).cell? ⟨w.heap.size, 6, none⟩ = some (.int .i64 x) := by simp [go_sem]
  have c7 : (w.alloc (.cells #[.int .i64 p, .int .i64 k, .int .i64 f, .int .i64 t, .int .i64 s, .int .i64 q, .int .i64 x, .int .i64 y, .int .i64 z, .int .i64 e, (.slice a len cap)] 32)).cell? ⟨w.heap.size, 7, none⟩ = some (.int .i64 y) := by simp [go_sem]
  have c8 : (w.alloc (.cells #[.int .i64 p, .int .i64 k, .int .i64 f, .int .i64 t, .int .i64 s, .int .i64 q, .int .i64 x, .int .i64 y, .int .i64 z, .int .i64 e, (.slice a len cap)] 32)).cell? ⟨w.heap.size, 8, none⟩ = some (.int .i64 z) := by simp [go_sem]
  have c9 : (w.alloc (.cells #[.int .i64 p, .int .i64 k, .int .i64 f, .int .i64 t, .int .i64 s, .int .i64 q, .int .i64 x, .int .i64 y, .int .i64 z, .int .i64 e, (.slice a len cap)] 32)).cell? ⟨w.heap.size, 9, none⟩ = some (.int .i64 e) := by simp [go_sem]
  have c10 : (w.alloc (.cells #[.int .i64 p, .int .i64 k, .int .i64 f, .int .i64 t, .int .i64 s, .int .i64 q, .int .i64 x, .int .i64 y, .int .i64 z, .int .i64 e, (.slice a len cap)] 32)).cell? ⟨w.heap.size, 10, none⟩ = some (.slice a len cap) := by simp [go_sem]
  have hfw := h.below bw
  generalize (w.alloc (.cells #[.int .i64 p, .int .i64 k, .int .i64 f, .int .i64 t, .int .i64 s, .int .i64 q, .int .i64 x, .int .i64 y, .int .i64 z, .int .i64 e, (.slice a len cap)] 32)) = W at *
  refine (lin_any p 1 2 _).mono ?_
  rintro r w1 ⟨rfl, hw1⟩
  obtain rfl := hw1.symm
  clear hw1
  cases z1 : inb p 1 2
  · have y1 : Hid (inb p 1 2 = false) := z1
    clear z1 c0 c1 c2 c3 c4 c5 c6 c7 c8 c9 c10 hfw
    go_wp2
    go_ret
    refine ⟨ret_bool ?_, bw⟩
    unfold wokB preB
    rw [y1.out]
    simp
  · have y1 : Hid (inb p 1 2 = true) := z1
    clear z1
    go_wp2_with fail
    refine (lin_any k 1 6 _).mono ?_
    rintro r w2 ⟨rfl, hw2⟩
    obtain rfl := hw2.symm
    clear hw2
    cases z2 : inb k 1 6
    · have y2 : Hid (inb k 1 6 = false) := z2
      clear z2 c0 c1 c2 c3 c4 c5 c6 c7 c8 c9 c10 hfw
      go_wp2
      go_ret
      refine ⟨ret_bool ?_, bw⟩
      unfold wokB preB
      rw [y2.out]
      simp
    · have y2 : Hid (inb k 1 6 = true) := z2
      clear z2
      go_wp2_with fail
      refine (lin_any f 0 7 _).mono ?_
      rintro r w3 ⟨rfl, hw3⟩
      obtain rfl := hw3.symm
      clear hw3
      cases z3 : inb f 0 7
      · have y3 : Hid (inb f 0 7 = false) := z3
        clear z3 c0 c1 c2 c3 c4 c5 c6 c7 c8 c9 c10 hfw
        go_wp2
        go_ret
        refine ⟨ret_bool ?_, bw⟩
        unfold wokB preB
        rw [y3.out]
        simp
      · have y3 : Hid (inb f 0 7 = true) := z3
        clear z3
        go_wp2_with fail
        refine (lin_any t 0 7 _).mono ?_
        rintro r w4 ⟨rfl, hw4⟩
        obtain rfl := hw4.symm
        clear hw4
        cases z4 : inb t 0 7
        · have y4 : Hid (inb t 0 7 = false) := z4
          clear z4 c0 c1 c2 c3 c4 c5 c6 c7 c8 c9 c10 hfw
          go_wp2
          go_ret
          refine ⟨ret_bool ?_, bw⟩
          unfold wokB preB
          rw [y4.out]
          simp
        · have y4 : Hid (inb t 0 7 = true) := z4
          clear z4
          go_wp2_with fail
          refine (lin_any s 0 999999 _).mono ?_
          rintro r w5 ⟨rfl, hw5⟩
          obtain rfl := hw5.symm
          clear hw5
          cases z5 : inb s 0 999999
          · have y5 : Hid (inb s 0 999999 = false) := z5
            clear z5 c0 c1 c2 c3 c4 c5 c6 c7 c8 c9 c10 hfw
            go_wp2
            go_ret
            refine ⟨ret_bool ?_, bw⟩
            unfold wokB preB
            rw [y5.out]
            simp
          · have y5 : Hid (inb s 0 999999 = true) := z5
            clear z5
            go_wp2_with fail
            refine (lin_any q 0 7 _).mono ?_
            rintro r w6 ⟨rfl, hw6⟩
            obtain rfl := hw6.symm
            clear hw6
            cases z6 : inb q 0 7
            · have y6 : Hid (inb q 0 7 = false) := z6
              clear z6 c0 c1 c2 c3 c4 c5 c6 c7 c8 c9 c10 hfw
              go_wp2
              go_ret
              refine ⟨ret_bool ?_, bw⟩
              unfold wokB preB
              rw [y6.out]
              simp
            · have y6 : Hid (inb q 0 7 = true) := z6
              clear z6
              go_wp2_with fail
              refine (scoord_any x y z e _).mono ?_
              rintro r w7 ⟨rfl, b7⟩
              replace c0 := keep_below b7 c0
              replace c1 := keep_below b7 c1
              replace c2 := keep_below b7 c2
              replace c3 := keep_below b7 c3
              replace c4 := keep_below b7 c4
              replace c5 := keep_below b7 c5
              replace c6 := keep_below b7 c6
              replace c7 := keep_below b7 c7
              replace c8 := keep_below b7 c8
              replace c9 := keep_below b7 c9
              replace c10 := keep_below b7 c10
              have B7 := btrans bw b7
              have hf7 := hfw.below b7
              clear b7 hfw bw
              cases z7 : cok x y z e
              · have y7 : Hid (cok x y z e = false) := z7
                clear z7 c0 c1 c2 c3 c4 c5 c6 c7 c8 c9 c10 hf7
                go_wp2
                go_ret
                refine ⟨ret_bool ?_, B7⟩
                unfold wokB preB
                rw [y7.out]
                simp
              · have y7 : Hid (cok x y z e = true) := z7
                clear z7
                go_wp2_with fail
                refine (stok_any a len cap F _ hf7 hl).mono ?_
                rintro r w8 ⟨rfl, b8⟩
                replace c0 := keep_below b8 c0
                replace c1 := keep_below b8 c1
                replace c2 := keep_below b8 c2
                replace c3 := keep_below b8 c3
                replace c4 := keep_below b8 c4
                replace c5 := keep_below b8 c5
                replace c6 := keep_below b8 c6
                replace c7 := keep_below b8 c7
                replace c8 := keep_below b8 c8
                replace c9 := keep_below b8 c9
                replace c10 := keep_below b8 c10
                have B8 := btrans B7 b8
                have hf8 := hf7.below b8
                clear b8 hf7 B7
                cases z8 : tokB len F
                · have y8 : Hid (tokB len F = false) := z8
                  clear z8 c0 c1 c2 c3 c4 c5 c6 c7 c8 c9 c10 hf8
                  go_wp2
                  go_ret
                  refine ⟨ret_bool ?_, B8⟩
                  unfold wokB preB
                  rw [y8.out]
                  simp
                · have y8 : Hid (tokB len F = true) := z8
                  clear z8
                  have hwo : wokB p k f t s q x y z e len F = wsB len F k f := by
                    unfold wokB preB
                    rw [y1.out, y2.out, y3.out, y4.out, y5.out, y6.out, y7.out, y8.out]
                    simp
                  replace hwo : Hid (wokB p k f t s q x y z e len F = wsB len F k f) := hwo
                  by_cases hk : k = 6
                  · subst hk
                    rcases Nat.eq_zero_or_pos len with h0 | h0
                    · subst h0
                      go_wp2_with fail
                      refine wp_region_held_drew (S := (fun w' => w'.cell? ⟨w.heap.size, 0, none⟩ = some (.int .i64 p) ∧ w'.cell? ⟨w.heap.size, 1, none⟩ = some (.int .i64 6) ∧ w'.cell? ⟨w.heap.size, 2, none⟩ = some (.int .i64 f) ∧ w'.cell? ⟨w.heap.size, 3, none⟩ = some (.int .i64 t) ∧ w'.cell? ⟨w.heap.size, 4, none⟩ = some (.int .i64 s) ∧ w'.cell? ⟨w.heap.size, 5, none⟩ = some (.int .i64 q) ∧ w'.cell? ⟨w.heap.size, 6, none⟩ = some (.int .i64 x) ∧ w'.cell? ⟨w.heap.size, 7, none⟩ = some (.int .i64 y) ∧ w'.cell? ⟨w.heap.size, 8, none⟩ = some (.int .i64 z) ∧ w'.cell? ⟨w.heap.size, 9, none⟩ = some (.int .i64 e) ∧ w'.cell? ⟨w.heap.size, 10, none⟩ = some (.slice a 0 cap))) (by kernel_rfl) ?_ (fun hHeld => ?_)
                      · (try dsimp only); (refine ⟨?_, ?_, ?_, ?_, ?_, ?_, ?_, ?_, ?_, ?_, ?_⟩ <;> (repeat (first | with_reducible assumption | with_reducible refine keep_drew ?_ | with_reducible refine keep_below (by assumption) ?_)))
                      refine wpAnyH_take (i := 0) (oi := { dst := some 52, op := Go.Op.fieldAddr 32 (Go.Operand.tmp 1) 7, type := 0, pos := "l4_word.go:58", after := #[], guard := none }) (v := ?_) rfl (by kernel_rfl) (by kernel_rfl) (by kernel_rfl) (fun _ _ _ h => h) (Or.inl ⟨by rfl, ?_⟩) (by assumption) ?_
                      rotate_left 1
                      · (intro w hSw; (try dsimp only at hSw); go_simp; try with_reducible rfl)
                      (try simp only [Act.put, List.setIfInBounds_toArray, List.set_cons_zero, List.set_cons_succ])
                      refine wpAnyH_take (i := 1) (oi := { dst := some 53, op := Go.Op.load 30 (Go.Operand.tmp 52), type := 30, pos := "l4_word.go:58", after := #[{ on := 0, ground := Go.Ground.data }], guard := none }) (v := ?_) rfl (by kernel_rfl) (by kernel_rfl) (by kernel_rfl) (fun _ _ _ h => h) (Or.inl ⟨by rfl, ?_⟩) (by assumption) ?_
                      rotate_left 1
                      · (intro w hSw; (try dsimp only at hSw); go_simp; try with_reducible rfl)
                      (try simp only [Act.put, List.setIfInBounds_toArray, List.set_cons_zero, List.set_cons_succ])
                      refine wpAnyH_take (i := 2) (oi := { dst := some 54, op := Go.Op.call { callee := Go.Callee.builtin Go.Builtin.len, args := #[Go.Operand.tmp 53], argTypes := #[30] }, type := 3, pos := "l4_word.go:58", after := #[{ on := 1, ground := Go.Ground.data }], guard := none }) (v := ?_) rfl (by kernel_rfl) (by kernel_rfl) (by kernel_rfl) (fun _ _ _ h => h) (Or.inl ⟨by rfl, ?_⟩) (by assumption) ?_
                      rotate_left 1
                      · (intro w hSw; (try dsimp only at hSw); go_simp; try with_reducible rfl)
                      (try simp only [Act.put, List.setIfInBounds_toArray, List.set_cons_zero, List.set_cons_succ])
                      refine wpAnyH_take (i := 3) (oi := { dst := some 55, op := Go.Op.binOp Go.BinOp.gtr 3 (Go.Operand.tmp 54) (Go.Operand.const (Go.Value.int Go.IntKind.i64 0)) 3, type := 4, pos := "l4_word.go:58", after := #[{ on := 2, ground := Go.Ground.data }], guard := none }) (v := ?_) rfl (by kernel_rfl) (by kernel_rfl) (by kernel_rfl) (fun _ _ _ h => h) (Or.inl ⟨by rfl, ?_⟩) (by assumption) ?_
                      rotate_left 1
                      · (intro w hSw; (try dsimp only at hSw); go_simp; try with_reducible rfl)
                      (try simp only [Act.put, List.setIfInBounds_toArray, List.set_cons_zero, List.set_cons_succ])
                      refine wpAnyH_take (i := 4) (oi := { dst := some 56, op := Go.Op.move (Go.Operand.tmp 55), type := 4, pos := "l4_word.go:58", after := #[{ on := 3, ground := Go.Ground.data }], guard := none }) (v := ?_) rfl (by kernel_rfl) (by kernel_rfl) (by kernel_rfl) (fun _ _ _ h => h) (Or.inl ⟨by rfl, ?_⟩) (by assumption) ?_
                      rotate_left 1
                      · (intro w hSw; (try dsimp only at hSw); go_simp; try with_reducible rfl)
                      (try simp only [Act.put, List.setIfInBounds_toArray, List.set_cons_zero, List.set_cons_succ])
                      refine wpAnyH_take (i := 5) (oi := { dst := some 57, op := Go.Op.fieldAddr 32 (Go.Operand.tmp 1) 7, type := 0, pos := "l4_word.go:58", after := #[{ on := 4, ground := Go.Ground.guard }], guard := some (4, true) }) (v := undef) rfl (by kernel_rfl) (by kernel_rfl) (by kernel_rfl) (fun _ _ _ h => h) (Or.inr ⟨by rfl, rfl⟩) (by assumption) ?_
                      (try simp only [Act.put, List.setIfInBounds_toArray, List.set_cons_zero, List.set_cons_succ])
                      refine wpAnyH_take (i := 6) (oi := { dst := some 58, op := Go.Op.load 30 (Go.Operand.tmp 57), type := 30, pos := "l4_word.go:58", after := #[{ on := 5, ground := Go.Ground.data }, { on := 4, ground := Go.Ground.guard }], guard := some (4, true) }) (v := undef) rfl (by kernel_rfl) (by kernel_rfl) (by kernel_rfl) (fun _ _ _ h => h) (Or.inr ⟨by rfl, rfl⟩) (by assumption) ?_
                      (try simp only [Act.put, List.setIfInBounds_toArray, List.set_cons_zero, List.set_cons_succ])
                      refine wpAnyH_take (i := 7) (oi := { dst := some 59, op := Go.Op.fieldAddr 32 (Go.Operand.tmp 1) 7, type := 0, pos := "l4_word.go:58", after := #[{ on := 4, ground := Go.Ground.guard }], guard := some (4, true) }) (v := undef) rfl (by kernel_rfl) (by kernel_rfl) (by kernel_rfl) (fun _ _ _ h => h) (Or.inr ⟨by rfl, rfl⟩) (by assumption) ?_
                      (try simp only [Act.put, List.setIfInBounds_toArray, List.set_cons_zero, List.set_cons_succ])
                      refine wpAnyH_take (i := 8) (oi := { dst := some 60, op := Go.Op.load 30 (Go.Operand.tmp 59), type := 30, pos := "l4_word.go:58", after := #[{ on := 7, ground := Go.Ground.data }, { on := 4, ground := Go.Ground.guard }], guard := some (4, true) }) (v := undef) rfl (by kernel_rfl) (by kernel_rfl) (by kernel_rfl) (fun _ _ _ h => h) (Or.inr ⟨by rfl, rfl⟩) (by assumption) ?_
                      (try simp only [Act.put, List.setIfInBounds_toArray, List.set_cons_zero, List.set_cons_succ])
                      refine wpAnyH_take (i := 9) (oi := { dst := some 61, op := Go.Op.indexAddr 30 (Go.Operand.tmp 60) (Go.Operand.const (Go.Value.int Go.IntKind.i64 0)), type := 0, pos := "l4_word.go:58", after := #[{ on := 8, ground := Go.Ground.data }, { on := 4, ground := Go.Ground.guard }], guard := some (4, true) }) (v := undef) rfl (by kernel_rfl) (by kernel_rfl) (by kernel_rfl) (fun _ _ _ h => h) (Or.inr ⟨by rfl, rfl⟩) (by assumption) ?_
                      (try simp only [Act.put, List.setIfInBounds_toArray, List.set_cons_zero, List.set_cons_succ])
                      refine wpAnyH_take (i := 10) (oi := { dst := some 62, op := Go.Op.fieldAddr 53 (Go.Operand.tmp 61) 0, type := 0, pos := "l4_word.go:58", after := #[{ on := 9, ground := Go.Ground.data }, { on := 4, ground := Go.Ground.guard }], guard := some (4, true) }) (v := undef) rfl (by kernel_rfl) (by kernel_rfl) (by kernel_rfl) (fun _ _ _ h => h) (Or.inr ⟨by rfl, rfl⟩) (by assumption) ?_
                      (try simp only [Act.put, List.setIfInBounds_toArray, List.set_cons_zero, List.set_cons_succ])
                      refine wpAnyH_take (i := 11) (oi := { dst := some 63, op := Go.Op.load 3 (Go.Operand.tmp 62), type := 3, pos := "l4_word.go:58", after := #[{ on := 10, ground := Go.Ground.data }, { on := 4, ground := Go.Ground.guard }], guard := some (4, true) }) (v := undef) rfl (by kernel_rfl) (by kernel_rfl) (by kernel_rfl) (fun _ _ _ h => h) (Or.inr ⟨by rfl, rfl⟩) (by assumption) ?_
                      (try simp only [Act.put, List.setIfInBounds_toArray, List.set_cons_zero, List.set_cons_succ])
                      refine wpAnyH_take (i := 12) (oi := { dst := some 64, op := Go.Op.binOp Go.BinOp.quo 3 (Go.Operand.tmp 63) (Go.Operand.const (Go.Value.int Go.IntKind.i64 4)) 3, type := 3, pos := "l4_word.go:58", after := #[{ on := 11, ground := Go.Ground.data }, { on := 4, ground := Go.Ground.guard }], guard := some (4, true) }) (v := undef) rfl (by kernel_rfl) (by kernel_rfl) (by kernel_rfl) (fun _ _ _ h => h) (Or.inr ⟨by rfl, rfl⟩) (by assumption) ?_
                      (try simp only [Act.put, List.setIfInBounds_toArray, List.set_cons_zero, List.set_cons_succ])
                      refine wpAnyH_take (i := 13) (oi := { dst := some 65, op := Go.Op.call { callee := Go.Callee.value (Go.Operand.func 29), args := #[Go.Operand.tmp 58, Go.Operand.tmp 64], argTypes := #[30, 3] }, type := 4, pos := "l4_word.go:58", after := #[{ on := 6, ground := Go.Ground.data }, { on := 12, ground := Go.Ground.data }, { on := 4, ground := Go.Ground.chain }, { on := 4, ground := Go.Ground.guard }], guard := some (4, true) }) (v := undef) rfl (by kernel_rfl) (by kernel_rfl) (by kernel_rfl) (fun _ _ _ h => h) (Or.inr ⟨by rfl, rfl⟩) (by assumption) ?_
                      (try simp only [Act.put, List.setIfInBounds_toArray, List.set_cons_zero, List.set_cons_succ])
                      refine wpAnyH_take (i := 14) (oi := { dst := some 66, op := Go.Op.pick (Go.Operand.tmp 56) (Go.Operand.tmp 65) (Go.Operand.const (Go.Value.bool false)), type := 4, pos := "l4_word.go:58", after := #[{ on := 4, ground := Go.Ground.data }, { on := 13, ground := Go.Ground.data }], guard := none }) (v := ?_) rfl (by kernel_rfl) (by kernel_rfl) (by kernel_rfl) (fun _ _ _ h => h) (Or.inl ⟨by rfl, ?_⟩) (by assumption) ?_
                      rotate_left 1
                      · (intro w hSw; (try dsimp only at hSw); go_simp; try with_reducible rfl)
                      (try simp only [Act.put, List.setIfInBounds_toArray, List.set_cons_zero, List.set_cons_succ])
                      refine wpAnyH_take (i := 15) (oi := { dst := some 2, op := Go.Op.assign (Go.Operand.tmp 66), type := 4, pos := "l4_word.go:58", after := #[{ on := 14, ground := Go.Ground.data }, { on := 13, ground := Go.Ground.chain }, { on := 0, ground := Go.Ground.phase }, { on := 1, ground := Go.Ground.phase }, { on := 2, ground := Go.Ground.phase }, { on := 3, ground := Go.Ground.phase }, { on := 4, ground := Go.Ground.phase }, { on := 5, ground := Go.Ground.phase }, { on := 6, ground := Go.Ground.phase }, { on := 7, ground := Go.Ground.phase }, { on := 8, ground := Go.Ground.phase }, { on := 9, ground := Go.Ground.phase }, { on := 10, ground := Go.Ground.phase }, { on := 11, ground := Go.Ground.phase }, { on := 12, ground := Go.Ground.phase }, { on := 13, ground := Go.Ground.phase }, { on := 14, ground := Go.Ground.phase }], guard := none }) (v := ?_) rfl (by kernel_rfl) (by kernel_rfl) (by kernel_rfl) (fun _ _ _ h => h) (Or.inl ⟨by rfl, ?_⟩) (by assumption) ?_
                      rotate_left 1
                      · (intro w hSw; (try dsimp only at hSw); go_simp; try with_reducible rfl)
                      (try simp only [Act.put, List.setIfInBounds_toArray, List.set_cons_zero, List.set_cons_succ])
                      refine wpAnyH_done (by kernel_rfl) ?_ _
                      go_wp2
                      go_ret
                      refine ⟨ret_bool ?_, B8.drew⟩
                      rw [hwo.out]
                      unfold wsB
                      simp
                    · obtain ⟨b, off, rfl, hbl, hff⟩ := hf8 h0
                      have i1 : (0 : Int) < (len : Int) := by omega
                      have c11 := first_cell hff h0
                      have hfd := hf8.below (Below.drew (Below.refl _ _))
                      clear hff hf8 h
                      go_wp2_with fail
                      refine wp_region_held_drew (S := (fun w' => w'.cell? ⟨w.heap.size, 0, none⟩ = some (.int .i64 p) ∧ w'.cell? ⟨w.heap.size, 1, none⟩ = some (.int .i64 6) ∧ w'.cell? ⟨w.heap.size, 2, none⟩ = some (.int .i64 f) ∧ w'.cell? ⟨w.heap.size, 3, none⟩ = some (.int .i64 t) ∧ w'.cell? ⟨w.heap.size, 4, none⟩ = some (.int .i64 s) ∧ w'.cell? ⟨w.heap.size, 5, none⟩ = some (.int .i64 q) ∧ w'.cell? ⟨w.heap.size, 6, none⟩ = some (.int .i64 x) ∧ w'.cell? ⟨w.heap.size, 7, none⟩ = some (.int .i64 y) ∧ w'.cell? ⟨w.heap.size, 8, none⟩ = some (.int .i64 z) ∧ w'.cell? ⟨w.heap.size, 9, none⟩ = some (.int .i64 e) ∧ w'.cell? ⟨w.heap.size, 10, none⟩ = some (.slice (some ⟨b, off, none⟩) len cap) ∧ w'.cell? ⟨b, off, none⟩ = some (.int .i64 (F 0).n))) (by kernel_rfl) ?_ (fun hHeld => ?_)
                      · (try dsimp only); (refine ⟨?_, ?_, ?_, ?_, ?_, ?_, ?_, ?_, ?_, ?_, ?_, ?_⟩ <;> (repeat (first | with_reducible assumption | with_reducible refine keep_drew ?_ | with_reducible refine keep_below (by assumption) ?_)))
                      refine wpAnyH_take (i := 0) (oi := { dst := some 52, op := Go.Op.fieldAddr 32 (Go.Operand.tmp 1) 7, type := 0, pos := "l4_word.go:58", after := #[], guard := none }) (v := ?_) rfl (by kernel_rfl) (by kernel_rfl) (by kernel_rfl) (fun _ _ _ h => h) (Or.inl ⟨by rfl, ?_⟩) (by assumption) ?_
                      rotate_left 1
                      · (intro w hSw; (try dsimp only at hSw); go_simp; try with_reducible rfl)
                      (try simp only [Act.put, List.setIfInBounds_toArray, List.set_cons_zero, List.set_cons_succ])
                      refine wpAnyH_take (i := 1) (oi := { dst := some 53, op := Go.Op.load 30 (Go.Operand.tmp 52), type := 30, pos := "l4_word.go:58", after := #[{ on := 0, ground := Go.Ground.data }], guard := none }) (v := ?_) rfl (by kernel_rfl) (by kernel_rfl) (by kernel_rfl) (fun _ _ _ h => h) (Or.inl ⟨by rfl, ?_⟩) (by assumption) ?_
                      rotate_left 1
                      · (intro w hSw; (try dsimp only at hSw); go_simp; try with_reducible rfl)
                      (try simp only [Act.put, List.setIfInBounds_toArray, List.set_cons_zero, List.set_cons_succ])
                      refine wpAnyH_take (i := 2) (oi := { dst := some 54, op := Go.Op.call { callee := Go.Callee.builtin Go.Builtin.len, args := #[Go.Operand.tmp 53], argTypes := #[30] }, type := 3, pos := "l4_word.go:58", after := #[{ on := 1, ground := Go.Ground.data }], guard := none }) (v := ?_) rfl (by kernel_rfl) (by kernel_rfl) (by kernel_rfl) (fun _ _ _ h => h) (Or.inl ⟨by rfl, ?_⟩) (by assumption) ?_
                      rotate_left 1
                      · (intro w hSw; (try dsimp only at hSw); go_simp; try with_reducible rfl)
                      (try simp only [Act.put, List.setIfInBounds_toArray, List.set_cons_zero, List.set_cons_succ])
                      refine wpAnyH_take (i := 3) (oi := { dst := some 55, op := Go.Op.binOp Go.BinOp.gtr 3 (Go.Operand.tmp 54) (Go.Operand.const (Go.Value.int Go.IntKind.i64 0)) 3, type := 4, pos := "l4_word.go:58", after := #[{ on := 2, ground := Go.Ground.data }], guard := none }) (v := ?_) rfl (by kernel_rfl) (by kernel_rfl) (by kernel_rfl) (fun _ _ _ h => h) (Or.inl ⟨by rfl, ?_⟩) (by assumption) ?_
                      rotate_left 1
                      · (intro w hSw; (try dsimp only at hSw); go_simp; try with_reducible rfl)
                      (try simp only [Act.put, List.setIfInBounds_toArray, List.set_cons_zero, List.set_cons_succ])
                      refine wpAnyH_take (i := 4) (oi := { dst := some 56, op := Go.Op.move (Go.Operand.tmp 55), type := 4, pos := "l4_word.go:58", after := #[{ on := 3, ground := Go.Ground.data }], guard := none }) (v := ?_) rfl (by kernel_rfl) (by kernel_rfl) (by kernel_rfl) (fun _ _ _ h => h) (Or.inl ⟨by rfl, ?_⟩) (by assumption) ?_
                      rotate_left 1
                      · (intro w hSw; (try dsimp only at hSw); go_simp; try with_reducible rfl)
                      (try simp only [Act.put, List.setIfInBounds_toArray, List.set_cons_zero, List.set_cons_succ])
                      refine wpAnyH_take (i := 5) (oi := { dst := some 57, op := Go.Op.fieldAddr 32 (Go.Operand.tmp 1) 7, type := 0, pos := "l4_word.go:58", after := #[{ on := 4, ground := Go.Ground.guard }], guard := some (4, true) }) (v := ?_) rfl (by kernel_rfl) (by kernel_rfl) (by kernel_rfl) (fun _ _ _ h => h) (Or.inl ⟨by rfl, ?_⟩) (by assumption) ?_
                      rotate_left 1
                      · (intro w hSw; (try dsimp only at hSw); go_simp; try with_reducible rfl)
                      (try simp only [Act.put, List.setIfInBounds_toArray, List.set_cons_zero, List.set_cons_succ])
                      refine wpAnyH_take (i := 6) (oi := { dst := some 58, op := Go.Op.load 30 (Go.Operand.tmp 57), type := 30, pos := "l4_word.go:58", after := #[{ on := 5, ground := Go.Ground.data }, { on := 4, ground := Go.Ground.guard }], guard := some (4, true) }) (v := ?_) rfl (by kernel_rfl) (by kernel_rfl) (by kernel_rfl) (fun _ _ _ h => h) (Or.inl ⟨by rfl, ?_⟩) (by assumption) ?_
                      rotate_left 1
                      · (intro w hSw; (try dsimp only at hSw); go_simp; try with_reducible rfl)
                      (try simp only [Act.put, List.setIfInBounds_toArray, List.set_cons_zero, List.set_cons_succ])
                      refine wpAnyH_take (i := 7) (oi := { dst := some 59, op := Go.Op.fieldAddr 32 (Go.Operand.tmp 1) 7, type := 0, pos := "l4_word.go:58", after := #[{ on := 4, ground := Go.Ground.guard }], guard := some (4, true) }) (v := ?_) rfl (by kernel_rfl) (by kernel_rfl) (by kernel_rfl) (fun _ _ _ h => h) (Or.inl ⟨by rfl, ?_⟩) (by assumption) ?_
                      rotate_left 1
                      · (intro w hSw; (try dsimp only at hSw); go_simp; try with_reducible rfl)
                      (try simp only [Act.put, List.setIfInBounds_toArray, List.set_cons_zero, List.set_cons_succ])
                      refine wpAnyH_take (i := 8) (oi := { dst := some 60, op := Go.Op.load 30 (Go.Operand.tmp 59), type := 30, pos := "l4_word.go:58", after := #[{ on := 7, ground := Go.Ground.data }, { on := 4, ground := Go.Ground.guard }], guard := some (4, true) }) (v := ?_) rfl (by kernel_rfl) (by kernel_rfl) (by kernel_rfl) (fun _ _ _ h => h) (Or.inl ⟨by rfl, ?_⟩) (by assumption) ?_
                      rotate_left 1
                      · (intro w hSw; (try dsimp only at hSw); go_simp; try with_reducible rfl)
                      (try simp only [Act.put, List.setIfInBounds_toArray, List.set_cons_zero, List.set_cons_succ])
                      refine wpAnyH_take (i := 9) (oi := { dst := some 61, op := Go.Op.indexAddr 30 (Go.Operand.tmp 60) (Go.Operand.const (Go.Value.int Go.IntKind.i64 0)), type := 0, pos := "l4_word.go:58", after := #[{ on := 8, ground := Go.Ground.data }, { on := 4, ground := Go.Ground.guard }], guard := some (4, true) }) (v := ?_) rfl (by kernel_rfl) (by kernel_rfl) (by kernel_rfl) (fun _ _ _ h => h) (Or.inl ⟨by rfl, ?_⟩) (by assumption) ?_
                      rotate_left 1
                      · (intro w hSw; (try dsimp only at hSw); go_simp; try with_reducible rfl)
                      (try simp only [Act.put, List.setIfInBounds_toArray, List.set_cons_zero, List.set_cons_succ])
                      refine wpAnyH_take (i := 10) (oi := { dst := some 62, op := Go.Op.fieldAddr 53 (Go.Operand.tmp 61) 0, type := 0, pos := "l4_word.go:58", after := #[{ on := 9, ground := Go.Ground.data }, { on := 4, ground := Go.Ground.guard }], guard := some (4, true) }) (v := ?_) rfl (by kernel_rfl) (by kernel_rfl) (by kernel_rfl) (fun _ _ _ h => h) (Or.inl ⟨by rfl, ?_⟩) (by assumption) ?_
                      rotate_left 1
                      · (intro w hSw; (try dsimp only at hSw); go_simp; try with_reducible rfl)
                      (try simp only [Act.put, List.setIfInBounds_toArray, List.set_cons_zero, List.set_cons_succ])
                      refine wpAnyH_take (i := 11) (oi := { dst := some 63, op := Go.Op.load 3 (Go.Operand.tmp 62), type := 3, pos := "l4_word.go:58", after := #[{ on := 10, ground := Go.Ground.data }, { on := 4, ground := Go.Ground.guard }], guard := some (4, true) }) (v := ?_) rfl (by kernel_rfl) (by kernel_rfl) (by kernel_rfl) (fun _ _ _ h => h) (Or.inl ⟨by rfl, ?_⟩) (by assumption) ?_
                      rotate_left 1
                      · (intro w hSw; (try dsimp only at hSw); go_simp; try with_reducible rfl)
                      (try simp only [Act.put, List.setIfInBounds_toArray, List.set_cons_zero, List.set_cons_succ])
                      refine wpAnyH_take (i := 12) (oi := { dst := some 64, op := Go.Op.binOp Go.BinOp.quo 3 (Go.Operand.tmp 63) (Go.Operand.const (Go.Value.int Go.IntKind.i64 4)) 3, type := 3, pos := "l4_word.go:58", after := #[{ on := 11, ground := Go.Ground.data }, { on := 4, ground := Go.Ground.guard }], guard := some (4, true) }) (v := ?_) rfl (by kernel_rfl) (by kernel_rfl) (by kernel_rfl) (fun _ _ _ h => h) (Or.inl ⟨by rfl, ?_⟩) (by assumption) ?_
                      rotate_left 1
                      · (intro w hSw; (try dsimp only at hSw); go_simp; try with_reducible rfl)
                      (try simp only [Act.put, List.setIfInBounds_toArray, List.set_cons_zero, List.set_cons_succ])
                      refine wpAnyH_ready (rs := [13]) (by kernel_rfl) (by simp) ?_
                      refine AllReadyH.cons (o := { dst := some 65, op := Go.Op.call { callee := Go.Callee.value (Go.Operand.func 29), args := #[Go.Operand.tmp 58, Go.Operand.tmp 64], argTypes := #[30, 3] }, type := 4, pos := "l4_word.go:58", after := #[{ on := 6, ground := Go.Ground.data }, { on := 12, ground := Go.Ground.data }, { on := 4, ground := Go.Ground.chain }, { on := 4, ground := Go.Ground.guard }], guard := some (4, true) }) rfl (fun K hK => ?_) AllReadyH.nil
                      go_simp
                      (rw [ste_eq]; refine (ssite_any _ len cap F (ste (F 0).n) _ hfd hl).mono ?_; rintro e w9 ⟨rfl, b9⟩)
                      go_wp2_with fail
                      refine hK.out _ _ ?_ (fun hHeld => ?_)
                      · (try dsimp only); (refine ⟨?_, ?_, ?_, ?_, ?_, ?_, ?_, ?_, ?_, ?_, ?_, ?_⟩ <;> (repeat (first | with_reducible assumption | with_reducible refine keep_drew ?_ | with_reducible refine keep_below (by assumption) ?_)))
                      clear hK K
                      (try simp only [Act.put, List.setIfInBounds_toArray, List.set_cons_zero, List.set_cons_succ])
                      refine wpAnyH_take (i := 14) (oi := { dst := some 66, op := Go.Op.pick (Go.Operand.tmp 56) (Go.Operand.tmp 65) (Go.Operand.const (Go.Value.bool false)), type := 4, pos := "l4_word.go:58", after := #[{ on := 4, ground := Go.Ground.data }, { on := 13, ground := Go.Ground.data }], guard := none }) (v := ?_) rfl (by kernel_rfl) (by kernel_rfl) (by kernel_rfl) (fun _ _ _ h => h) (Or.inl ⟨by rfl, ?_⟩) (by assumption) ?_
                      rotate_left 1
                      · (intro w hSw; (try dsimp only at hSw); go_simp; try with_reducible rfl)
                      (try simp only [Act.put, List.setIfInBounds_toArray, List.set_cons_zero, List.set_cons_succ])
                      refine wpAnyH_take (i := 15) (oi := { dst := some 2, op := Go.Op.assign (Go.Operand.tmp 66), type := 4, pos := "l4_word.go:58", after := #[{ on := 14, ground := Go.Ground.data }, { on := 13, ground := Go.Ground.chain }, { on := 0, ground := Go.Ground.phase }, { on := 1, ground := Go.Ground.phase }, { on := 2, ground := Go.Ground.phase }, { on := 3, ground := Go.Ground.phase }, { on := 4, ground := Go.Ground.phase }, { on := 5, ground := Go.Ground.phase }, { on := 6, ground := Go.Ground.phase }, { on := 7, ground := Go.Ground.phase }, { on := 8, ground := Go.Ground.phase }, { on := 9, ground := Go.Ground.phase }, { on := 10, ground := Go.Ground.phase }, { on := 11, ground := Go.Ground.phase }, { on := 12, ground := Go.Ground.phase }, { on := 13, ground := Go.Ground.phase }, { on := 14, ground := Go.Ground.phase }], guard := none }) (v := ?_) rfl (by kernel_rfl) (by kernel_rfl) (by kernel_rfl) (fun _ _ _ h => h) (Or.inl ⟨by rfl, ?_⟩) (by assumption) ?_
                      rotate_left 1
                      · (intro w hSw; (try dsimp only at hSw); go_simp; try with_reducible rfl)
                      (try simp only [Act.put, List.setIfInBounds_toArray, List.set_cons_zero, List.set_cons_succ])
                      refine wpAnyH_done (by kernel_rfl) ?_ _
                      go_wp2
                      go_ret
                      refine ⟨ret_bool ?_, btrans B8.drew b9⟩
                      rw [hwo.out]
                      unfold wsB
                      simp [h0]
                  · go_wp2_with fail
                    refine (ssite_any _ len cap F (ste f) _ hf8 hl).mono ?_
                    rintro r w9 ⟨rfl, b9⟩
                    go_wp2
                    go_ret
                    refine ⟨ret_bool ?_, btrans B8 b9⟩
                    rw [hwo.out]
                    unfold wsB
                    rw [if_neg hk]
end Go.Proofs.YtibnojbhoepcdaaDoor
