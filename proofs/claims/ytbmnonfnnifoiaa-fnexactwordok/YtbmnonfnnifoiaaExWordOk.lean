/- The exact law of WordOk, walked. -/
import Derived.Test.YtbmnonfnnifoiaaExWord
namespace Go.Proofs.Ytbmnonfnnifoiaa
open Go.ChangeShapes Go.WideShapes Go.ChangeAt Go.RowKit
attribute [local go_sem ↓] Go.wp_at_zero Go.wp_at_succ
set_option maxHeartbeats 2000000 in
theorem eqWord_same (p k f t s q x y z e : Int) (a a' : Option Addr) (len cap cap' : Nat) (F : Nat → Fc) (w : World) (h : FSl w a len F) (h' : FSl w a' len F) (hl : len ≤ 1048576) :
    Calls Try.prog 35 #[.agg #[.int .i64 p, .int .i64 k, .int .i64 f, .int .i64 t, .int .i64 s, .int .i64 q, .int .i64 x, .int .i64 y, .int .i64 z, .int .i64 e, (.slice a len cap)], .agg #[.int .i64 p, .int .i64 k, .int .i64 f, .int .i64 t, .int .i64 s, .int .i64 q, .int .i64 x, .int .i64 y, .int .i64 z, .int .i64 e, (.slice a' len cap')]] w fun r w' => r = .returned (.bool true) ∧ Below w.heap.size w w' := by
  go_enter Try.func35, Try.ntmps35
  go_wp2_with fail
  have c0 : ((w.alloc (.cells #[.int .i64 p, .int .i64 k, .int .i64 f, .int .i64 t, .int .i64 s, .int .i64 q, .int .i64 x, .int .i64 y, .int .i64 z, .int .i64 e, (.slice a len cap)] 55)).alloc (.cells #[.int .i64 p, .int .i64 k, .int .i64 f, .int .i64 t, .int .i64 s, .int .i64 q, .int .i64 x, .int .i64 y, .int .i64 z, .int .i64 e, (.slice a' len cap')] 55)).cell? ⟨w.heap.size, 10, none⟩ = some (.slice a len cap) := by simp [go_sem]
  have c1 : ((w.alloc (.cells #[.int .i64 p, .int .i64 k, .int .i64 f, .int .i64 t, .int .i64 s, .int .i64 q, .int .i64 x, .int .i64 y, .int .i64 z, .int .i64 e, (.slice a len cap)] 55)).alloc (.cells #[.int .i64 p, .int .i64 k, .int .i64 f, .int .i64 t, .int .i64 s, .int .i64 q, .int .i64 x, .int .i64 y, .int .i64 z, .int .i64 e, (.slice a' len cap')] 55)).cell? ⟨w.heap.size + 1, 10, none⟩ = some (.slice a' len cap') := by simp [go_sem]
  have bw : Below w.heap.size w ((w.alloc (.cells #[.int .i64 p, .int .i64 k, .int .i64 f, .int .i64 t, .int .i64 s, .int .i64 q, .int .i64 x, .int .i64 y, .int .i64 z, .int .i64 e, (.slice a len cap)] 55)).alloc (.cells #[.int .i64 p, .int .i64 k, .int .i64 f, .int .i64 t, .int .i64 s, .int .i64 q, .int .i64 x, .int .i64 y, .int .i64 z, .int .i64 e, (.slice a' len cap')] 55)) := balloc _ (balloc _ (Below.refl _ _))
  generalize ((w.alloc (.cells #[.int .i64 p, .int .i64 k, .int .i64 f, .int .i64 t, .int .i64 s, .int .i64 q, .int .i64 x, .int .i64 y, .int .i64 z, .int .i64 e, (.slice a len cap)] 55)).alloc (.cells #[.int .i64 p, .int .i64 k, .int .i64 f, .int .i64 t, .int .i64 s, .int .i64 q, .int .i64 x, .int .i64 y, .int .i64 z, .int .i64 e, (.slice a' len cap')] 55)) = W at *
  refine (eqCoord_same _ _ _ _ _).mono ?_
  rintro r w1 ⟨rfl, b1⟩
  replace c0 := keep_below b1 c0
  replace c1 := keep_below b1 c1
  have B1 := btrans bw b1
  clear bw b1
  go_wp2_with fail
  refine (eqFactS_same a a' len cap cap' F _ (h.below B1) (h'.below B1) hl).mono ?_
  rintro r w2 ⟨rfl, b2⟩
  go_wp2
  go_ret
  exact ⟨rfl, btrans B1 b2⟩
set_option maxRecDepth 10000 in
set_option maxHeartbeats 8000000 in
theorem exWord_walk (p k f t s q x y z e : Int) (a : Option Addr) (len cap : Nat) (F : Nat → Fc) (w : World) (h : FSl w a len F) (hc : len ≤ cap) (hm : len ≤ maxLen) :
    Calls Try.prog 9 #[.agg #[.int .i64 p, .int .i64 k, .int .i64 f, .int .i64 t, .int .i64 s, .int .i64 q, .int .i64 x, .int .i64 y, .int .i64 z, .int .i64 e, (.slice a len cap)]] w fun r w' => r = .returned (.bool true) ∧ Below w.heap.size w w' := by
  by_cases hl : 1048576 < len
  · go_enter Try.func9, Try.ntmps9
    go_wp2_with fail
    refine (szWord_over p k f t s q x y z e a len cap _ hl hm).mono ?_
    rintro r w1 ⟨rfl, b1⟩
    have B1 := btrans (balloc (.cells #[.int .i64 p, .int .i64 k, .int .i64 f, .int .i64 t, .int .i64 s, .int .i64 q, .int .i64 x, .int .i64 y, .int .i64 z, .int .i64 e, (.slice a len cap)] 50) (Below.refl w.heap.size w)) b1
    go_wp2
    go_ret
    exact ⟨rfl, B1⟩
  have hl' : len ≤ 1048576 := by omega
  have e0 : (wokB p k f t s q x y z e len F != wokB p k f t s q x y z e len F) = false := by simp
  clear hl hm
  go_enter Try.func9, Try.ntmps9
  go_wp2_with fail
  have P0 : (w.alloc (.cells #[.int .i64 p, .int .i64 k, .int .i64 f, .int .i64 t, .int .i64 s, .int .i64 q, .int .i64 x, .int .i64 y, .int .i64 z, .int .i64 e, (.slice a len cap)] 50)).cell? ⟨w.heap.size, 0, none⟩ = some (.int .i64 p) := by simp [go_sem]
  have P1 : (w.alloc (.cells #[.int .i64 p, .int .i64 k, .int .i64 f, .int .i64 t, .int .i64 s, .int .i64 q, .int .i64 x, .int .i64 y, .int .i64 z, .int .i64 e, (.slice a len cap)] 50)).cell? ⟨w.heap.size, 1, none⟩ = some (.int .i64 k) := by simp [go_sem]
  have P2 : (w.alloc (.cells #[.int .i64 p, .int .i64 k, .int .i64 f, .int .i64 t, .int .i64 s, .int .i64 q, .int .i64 x, .int .i64 y, .int .i64 z, .int .i64 e, (.slice a len cap)] 50)).cell? ⟨w.heap.size, 2, none⟩ = some (.int .i64 f) := by simp [go_sem]
  have P3 : (w.alloc (.cells #[.int .i64 p, .int .i64 k, .int .i64 f, .int .i64 t, .int .i64 s, .int .i64 q, .int .i64 x, .int .i64 y, .int .i64 z, .int .i64 e, (.slice a len cap)] 50)).cell? ⟨w.heap.size, 3, none⟩ = some (.int .i64 t) := by simp [go_sem]
  have P4 : (w.alloc (.cells #[.int .i64 p, .int .i64 k, .int .i64 f, .int .i64 t, .int .i64 s, .int .i64 q, .int .i64 x, .int .i64 y, .int .i64 z, .int .i64 e, (.slice a len cap)] 50)).cell? ⟨w.heap.size, 4, none⟩ = some (.int .i64 s) := by simp [go_sem]
  have P5 : (w.alloc (.cells #[.int .i64 p, .int .i64 k, .int .i64 f, .int .i64 t, .int .i64 s, .int .i64 q, .int .i64 x, .int .i64 y, .int .i64 z, .int .i64 e, (.slice a len cap)] 50)).cell? ⟨w.heap.size, 5, none⟩ = some (.int .i64 q) := by simp [go_sem]
  have P6 : (w.alloc (.cells #[.int .i64 p, .int .i64 k, .int .i64 f, .int .i64 t, .int .i64 s, .int .i64 q, .int .i64 x, .int .i64 y, .int .i64 z, .int .i64 e, (.slice a len cap)] 50)).cell? ⟨w.heap.size, 6, none⟩ = some (.int .i64 x) := by simp [go_sem]
  have P7 : (w.alloc (.cells #[.int .i64 p, .int .i64 k, .int .i64 f, .int .i64 t, .int .i64 s, .int .i64 q, .int .i64 x, .int .i64 y, .int .i64 z, .int .i64 e, (.slice a len cap)] 50)).cell? ⟨w.heap.size, 7, none⟩ = some (.int .i64 y) := by simp [go_sem]
  have P8 : (w.alloc (.cells #[.int .i64 p, .int .i64 k, .int .i64 f, .int .i64 t, .int .i64 s, .int .i64 q, .int .i64 x, .int .i64 y, .int .i64 z, .int .i64 e, (.slice a len cap)] 50)).cell? ⟨w.heap.size, 8, none⟩ = some (.int .i64 z) := by simp [go_sem]
  have P9 : (w.alloc (.cells #[.int .i64 p, .int .i64 k, .int .i64 f, .int .i64 t, .int .i64 s, .int .i64 q, .int .i64 x, .int .i64 y, .int .i64 z, .int .i64 e, (.slice a len cap)] 50)).cell? ⟨w.heap.size, 9, none⟩ = some (.int .i64 e) := by simp [go_sem]
  have P10 : (w.alloc (.cells #[.int .i64 p, .int .i64 k, .int .i64 f, .int .i64 t, .int .i64 s, .int .i64 q, .int .i64 x, .int .i64 y, .int .i64 z, .int .i64 e, (.slice a len cap)] 50)).cell? ⟨w.heap.size, 10, none⟩ = some (.slice a len cap) := by simp [go_sem]
  have bw : Below w.heap.size w (w.alloc (.cells #[.int .i64 p, .int .i64 k, .int .i64 f, .int .i64 t, .int .i64 s, .int .i64 q, .int .i64 x, .int .i64 y, .int .i64 z, .int .i64 e, (.slice a len cap)] 50)) := balloc _ (Below.refl _ _)
  generalize (w.alloc (.cells #[.int .i64 p, .int .i64 k, .int .i64 f, .int .i64 t, .int .i64 s, .int .i64 q, .int .i64 x, .int .i64 y, .int .i64 z, .int .i64 e, (.slice a len cap)] 50)) = W at *
  refine (szWord_in p k f t s q x y z e a len cap _ hl').mono ?_
  rintro r w1 ⟨n, rfl, b1⟩
  have n0 : ¬ ((n : Int) < 0) := by omega
  replace P0 := keep_below b1 P0
  replace P1 := keep_below b1 P1
  replace P2 := keep_below b1 P2
  replace P3 := keep_below b1 P3
  replace P4 := keep_below b1 P4
  replace P5 := keep_below b1 P5
  replace P6 := keep_below b1 P6
  replace P7 := keep_below b1 P7
  replace P8 := keep_below b1 P8
  replace P9 := keep_below b1 P9
  replace P10 := keep_below b1 P10
  have B1 := btrans bw b1
  clear bw b1
  go_wp2_with fail
  refine (toWord_any p k f t s q x y z e a len cap F _ (h.below B1) hl' hc).mono ?_
  rintro r w2 ⟨b2, rfl, f2, bb2⟩
  replace P0 := keep_below bb2 P0
  replace P1 := keep_below bb2 P1
  replace P2 := keep_below bb2 P2
  replace P3 := keep_below bb2 P3
  replace P4 := keep_below bb2 P4
  replace P5 := keep_below bb2 P5
  replace P6 := keep_below bb2 P6
  replace P7 := keep_below bb2 P7
  replace P8 := keep_below bb2 P8
  replace P9 := keep_below bb2 P9
  replace P10 := keep_below bb2 P10
  have B2 := btrans B1 bb2
  clear B1 bb2
  go_wp2_with fail
  refine (swok_any p k f t s q x y z e _ len len F _ f2 hl').mono ?_
  rintro r w22 ⟨rfl, bb22⟩
  replace P0 := keep_below bb22 P0
  replace P1 := keep_below bb22 P1
  replace P2 := keep_below bb22 P2
  replace P3 := keep_below bb22 P3
  replace P4 := keep_below bb22 P4
  replace P5 := keep_below bb22 P5
  replace P6 := keep_below bb22 P6
  replace P7 := keep_below bb22 P7
  replace P8 := keep_below bb22 P8
  replace P9 := keep_below bb22 P9
  replace P10 := keep_below bb22 P10
  have B22 := btrans B2 bb22
  clear B2 bb22 f2
  go_wp2_with fail
  refine (toWord_any p k f t s q x y z e a len cap F _ (h.below B22) hl' hc).mono ?_
  rintro r w3 ⟨b3, rfl, f3, bb3⟩
  replace P0 := keep_below bb3 P0
  replace P1 := keep_below bb3 P1
  replace P2 := keep_below bb3 P2
  replace P3 := keep_below bb3 P3
  replace P4 := keep_below bb3 P4
  replace P5 := keep_below bb3 P5
  replace P6 := keep_below bb3 P6
  replace P7 := keep_below bb3 P7
  replace P8 := keep_below bb3 P8
  replace P9 := keep_below bb3 P9
  replace P10 := keep_below bb3 P10
  have B3 := balloc (.cells #[.int .i64 p, .int .i64 k, .int .i64 f, .int .i64 t, .int .i64 s, .int .i64 q, .int .i64 x, .int .i64 y, .int .i64 z, .int .i64 e, (.slice (some ⟨b3, 0, none⟩) len len)] 55) (btrans B22 bb3)
  replace P0 := keep_alloc (.cells #[.int .i64 p, .int .i64 k, .int .i64 f, .int .i64 t, .int .i64 s, .int .i64 q, .int .i64 x, .int .i64 y, .int .i64 z, .int .i64 e, (.slice (some ⟨b3, 0, none⟩) len len)] 55) P0
  replace P1 := keep_alloc (.cells #[.int .i64 p, .int .i64 k, .int .i64 f, .int .i64 t, .int .i64 s, .int .i64 q, .int .i64 x, .int .i64 y, .int .i64 z, .int .i64 e, (.slice (some ⟨b3, 0, none⟩) len len)] 55) P1
  replace P2 := keep_alloc (.cells #[.int .i64 p, .int .i64 k, .int .i64 f, .int .i64 t, .int .i64 s, .int .i64 q, .int .i64 x, .int .i64 y, .int .i64 z, .int .i64 e, (.slice (some ⟨b3, 0, none⟩) len len)] 55) P2
  replace P3 := keep_alloc (.cells #[.int .i64 p, .int .i64 k, .int .i64 f, .int .i64 t, .int .i64 s, .int .i64 q, .int .i64 x, .int .i64 y, .int .i64 z, .int .i64 e, (.slice (some ⟨b3, 0, none⟩) len len)] 55) P3
  replace P4 := keep_alloc (.cells #[.int .i64 p, .int .i64 k, .int .i64 f, .int .i64 t, .int .i64 s, .int .i64 q, .int .i64 x, .int .i64 y, .int .i64 z, .int .i64 e, (.slice (some ⟨b3, 0, none⟩) len len)] 55) P4
  replace P5 := keep_alloc (.cells #[.int .i64 p, .int .i64 k, .int .i64 f, .int .i64 t, .int .i64 s, .int .i64 q, .int .i64 x, .int .i64 y, .int .i64 z, .int .i64 e, (.slice (some ⟨b3, 0, none⟩) len len)] 55) P5
  replace P6 := keep_alloc (.cells #[.int .i64 p, .int .i64 k, .int .i64 f, .int .i64 t, .int .i64 s, .int .i64 q, .int .i64 x, .int .i64 y, .int .i64 z, .int .i64 e, (.slice (some ⟨b3, 0, none⟩) len len)] 55) P6
  replace P7 := keep_alloc (.cells #[.int .i64 p, .int .i64 k, .int .i64 f, .int .i64 t, .int .i64 s, .int .i64 q, .int .i64 x, .int .i64 y, .int .i64 z, .int .i64 e, (.slice (some ⟨b3, 0, none⟩) len len)] 55) P7
  replace P8 := keep_alloc (.cells #[.int .i64 p, .int .i64 k, .int .i64 f, .int .i64 t, .int .i64 s, .int .i64 q, .int .i64 x, .int .i64 y, .int .i64 z, .int .i64 e, (.slice (some ⟨b3, 0, none⟩) len len)] 55) P8
  replace P9 := keep_alloc (.cells #[.int .i64 p, .int .i64 k, .int .i64 f, .int .i64 t, .int .i64 s, .int .i64 q, .int .i64 x, .int .i64 y, .int .i64 z, .int .i64 e, (.slice (some ⟨b3, 0, none⟩) len len)] 55) P9
  replace P10 := keep_alloc (.cells #[.int .i64 p, .int .i64 k, .int .i64 f, .int .i64 t, .int .i64 s, .int .i64 q, .int .i64 x, .int .i64 y, .int .i64 z, .int .i64 e, (.slice (some ⟨b3, 0, none⟩) len len)] 55) P10
  have f4 := f3.below (balloc (.cells #[.int .i64 p, .int .i64 k, .int .i64 f, .int .i64 t, .int .i64 s, .int .i64 q, .int .i64 x, .int .i64 y, .int .i64 z, .int .i64 e, (.slice (some ⟨b3, 0, none⟩) len len)] 55) (Below.refl _ _))
  clear B22 bb3 f3
  go_wp2_with fail
  have Q0 : (w3.alloc (.cells #[.int .i64 p, .int .i64 k, .int .i64 f, .int .i64 t, .int .i64 s, .int .i64 q, .int .i64 x, .int .i64 y, .int .i64 z, .int .i64 e, (.slice (some ⟨b3, 0, none⟩) len len)] 55)).cell? ⟨w3.heap.size, 0, none⟩ = some (.int .i64 p) := by simp [go_sem]
  have Q1 : (w3.alloc (.cells #[.int .i64 p, .int .i64 k, .int .i64 f, .int .i64 t, .int .i64 s, .int .i64 q, .int .i64 x, .int .i64 y, .int .i64 z, .int .i64 e, (.slice (some ⟨b3, 0, none⟩) len len)] 55)).cell? ⟨w3.heap.size, 1, none⟩ = some (.int .i64 k) := by simp [go_sem]
  have Q2 : (w3.alloc (.cells #[.int .i64 p, .int .i64 k, .int .i64 f, .int .i64 t, .int .i64 s, .int .i64 q, .int .i64 x, .int .i64 y, .int .i64 z, .int .i64 e, (.slice (some ⟨b3, 0, none⟩) len len)] 55)).cell? ⟨w3.heap.size, 2, none⟩ = some (.int .i64 f) := by simp [go_sem]
  have Q3 : (w3.alloc (.cells #[.int .i64 p, .int .i64 k, .int .i64 f, .int .i64 t, .int .i64 s, .int .i64 q, .int .i64 x, .int .i64 y, .int .i64 z, .int .i64 e, (.slice (some ⟨b3, 0, none⟩) len len)] 55)).cell? ⟨w3.heap.size, 3, none⟩ = some (.int .i64 t) := by simp [go_sem]
  have Q4 : (w3.alloc (.cells #[.int .i64 p, .int .i64 k, .int .i64 f, .int .i64 t, .int .i64 s, .int .i64 q, .int .i64 x, .int .i64 y, .int .i64 z, .int .i64 e, (.slice (some ⟨b3, 0, none⟩) len len)] 55)).cell? ⟨w3.heap.size, 4, none⟩ = some (.int .i64 s) := by simp [go_sem]
  have Q5 : (w3.alloc (.cells #[.int .i64 p, .int .i64 k, .int .i64 f, .int .i64 t, .int .i64 s, .int .i64 q, .int .i64 x, .int .i64 y, .int .i64 z, .int .i64 e, (.slice (some ⟨b3, 0, none⟩) len len)] 55)).cell? ⟨w3.heap.size, 5, none⟩ = some (.int .i64 q) := by simp [go_sem]
  have Q6 : (w3.alloc (.cells #[.int .i64 p, .int .i64 k, .int .i64 f, .int .i64 t, .int .i64 s, .int .i64 q, .int .i64 x, .int .i64 y, .int .i64 z, .int .i64 e, (.slice (some ⟨b3, 0, none⟩) len len)] 55)).cell? ⟨w3.heap.size, 6, none⟩ = some (.int .i64 x) := by simp [go_sem]
  have Q7 : (w3.alloc (.cells #[.int .i64 p, .int .i64 k, .int .i64 f, .int .i64 t, .int .i64 s, .int .i64 q, .int .i64 x, .int .i64 y, .int .i64 z, .int .i64 e, (.slice (some ⟨b3, 0, none⟩) len len)] 55)).cell? ⟨w3.heap.size, 7, none⟩ = some (.int .i64 y) := by simp [go_sem]
  have Q8 : (w3.alloc (.cells #[.int .i64 p, .int .i64 k, .int .i64 f, .int .i64 t, .int .i64 s, .int .i64 q, .int .i64 x, .int .i64 y, .int .i64 z, .int .i64 e, (.slice (some ⟨b3, 0, none⟩) len len)] 55)).cell? ⟨w3.heap.size, 8, none⟩ = some (.int .i64 z) := by simp [go_sem]
  have Q9 : (w3.alloc (.cells #[.int .i64 p, .int .i64 k, .int .i64 f, .int .i64 t, .int .i64 s, .int .i64 q, .int .i64 x, .int .i64 y, .int .i64 z, .int .i64 e, (.slice (some ⟨b3, 0, none⟩) len len)] 55)).cell? ⟨w3.heap.size, 9, none⟩ = some (.int .i64 e) := by simp [go_sem]
  have Q10 : (w3.alloc (.cells #[.int .i64 p, .int .i64 k, .int .i64 f, .int .i64 t, .int .i64 s, .int .i64 q, .int .i64 x, .int .i64 y, .int .i64 z, .int .i64 e, (.slice (some ⟨b3, 0, none⟩) len len)] 55)).cell? ⟨w3.heap.size, 10, none⟩ = some (.slice (some ⟨b3, 0, none⟩) len len) := by simp [go_sem]
  generalize (w3.alloc (.cells #[.int .i64 p, .int .i64 k, .int .i64 f, .int .i64 t, .int .i64 s, .int .i64 q, .int .i64 x, .int .i64 y, .int .i64 z, .int .i64 e, (.slice (some ⟨b3, 0, none⟩) len len)] 55)) = W4 at *
  generalize w3.heap.size = KX at *
  refine (wok_any p k f t s q x y z e _ len len F _ f4 hl').mono ?_
  rintro r w5 ⟨rfl, bb5⟩
  replace P0 := keep_below bb5 P0
  replace P1 := keep_below bb5 P1
  replace P2 := keep_below bb5 P2
  replace P3 := keep_below bb5 P3
  replace P4 := keep_below bb5 P4
  replace P5 := keep_below bb5 P5
  replace P6 := keep_below bb5 P6
  replace P7 := keep_below bb5 P7
  replace P8 := keep_below bb5 P8
  replace P9 := keep_below bb5 P9
  replace P10 := keep_below bb5 P10
  replace Q0 := keep_below bb5 Q0
  replace Q1 := keep_below bb5 Q1
  replace Q2 := keep_below bb5 Q2
  replace Q3 := keep_below bb5 Q3
  replace Q4 := keep_below bb5 Q4
  replace Q5 := keep_below bb5 Q5
  replace Q6 := keep_below bb5 Q6
  replace Q7 := keep_below bb5 Q7
  replace Q8 := keep_below bb5 Q8
  replace Q9 := keep_below bb5 Q9
  replace Q10 := keep_below bb5 Q10
  have B5 := btrans B3 bb5
  have f5 := f4.below bb5
  clear B3 bb5 f4
  go_wp2_with fail
  have hfd := h.below (Below.drew B5)
  have f5d := f5.below (Below.drew (Below.refl _ _))
  refine wp_region_held_drew (S := (fun w' => w'.cell? ⟨w.heap.size, 0, none⟩ = some (.int .i64 p) ∧ w'.cell? ⟨w.heap.size, 1, none⟩ = some (.int .i64 k) ∧ w'.cell? ⟨w.heap.size, 2, none⟩ = some (.int .i64 f) ∧ w'.cell? ⟨w.heap.size, 3, none⟩ = some (.int .i64 t) ∧ w'.cell? ⟨w.heap.size, 4, none⟩ = some (.int .i64 s) ∧ w'.cell? ⟨w.heap.size, 5, none⟩ = some (.int .i64 q) ∧ w'.cell? ⟨w.heap.size, 6, none⟩ = some (.int .i64 x) ∧ w'.cell? ⟨w.heap.size, 7, none⟩ = some (.int .i64 y) ∧ w'.cell? ⟨w.heap.size, 8, none⟩ = some (.int .i64 z) ∧ w'.cell? ⟨w.heap.size, 9, none⟩ = some (.int .i64 e) ∧ w'.cell? ⟨w.heap.size, 10, none⟩ = some (.slice a len cap) ∧ w'.cell? ⟨KX, 0, none⟩ = some (.int .i64 p) ∧ w'.cell? ⟨KX, 1, none⟩ = some (.int .i64 k) ∧ w'.cell? ⟨KX, 2, none⟩ = some (.int .i64 f) ∧ w'.cell? ⟨KX, 3, none⟩ = some (.int .i64 t) ∧ w'.cell? ⟨KX, 4, none⟩ = some (.int .i64 s) ∧ w'.cell? ⟨KX, 5, none⟩ = some (.int .i64 q) ∧ w'.cell? ⟨KX, 6, none⟩ = some (.int .i64 x) ∧ w'.cell? ⟨KX, 7, none⟩ = some (.int .i64 y) ∧ w'.cell? ⟨KX, 8, none⟩ = some (.int .i64 z) ∧ w'.cell? ⟨KX, 9, none⟩ = some (.int .i64 e) ∧ w'.cell? ⟨KX, 10, none⟩ = some (.slice (some ⟨b3, 0, none⟩) len len))) (by kernel_rfl) ?_ (fun hHeld => ?_)
  · (try dsimp only); (refine ⟨?_, ?_, ?_, ?_, ?_, ?_, ?_, ?_, ?_, ?_, ?_, ?_, ?_, ?_, ?_, ?_, ?_, ?_, ?_, ?_, ?_, ?_⟩ <;> (repeat (first | with_reducible assumption | with_reducible refine keep_drew ?_ | with_reducible refine keep_below (by assumption) ?_)))
  refine wpAnyH_take (i := 0) (oi := { dst := some 22, op := Go.Op.load 55 (Go.Operand.tmp 5), type := 55, pos := "exact.go:2580", after := #[], guard := none }) (v := ?_) rfl (by kernel_rfl) (by kernel_rfl) (by kernel_rfl) (fun _ _ _ h => h) (Or.inl ⟨by rfl, ?_⟩) (by assumption) ?_
  rotate_left 1
  · (intro w hSw; (try dsimp only at hSw); go_simp; try with_reducible rfl)
  (try simp only [Act.put, List.setIfInBounds_toArray, List.set_cons_zero, List.set_cons_succ])
  refine wpAnyH_take (i := 1) (oi := { dst := some 23, op := Go.Op.load 50 (Go.Operand.tmp 1), type := 50, pos := "exact.go:2580", after := #[], guard := none }) (v := ?_) rfl (by kernel_rfl) (by kernel_rfl) (by kernel_rfl) (fun _ _ _ h => h) (Or.inl ⟨by rfl, ?_⟩) (by assumption) ?_
  rotate_left 1
  · (intro w hSw; (try dsimp only at hSw); go_simp; try with_reducible rfl)
  (try simp only [Act.put, List.setIfInBounds_toArray, List.set_cons_zero, List.set_cons_succ])
  refine wpAnyH_ready (rs := [2]) (by kernel_rfl) (by simp) ?_
  refine AllReadyH.cons (o := { dst := some 24, op := Go.Op.call { callee := Go.Callee.value (Go.Operand.func 33), args := #[Go.Operand.tmp 23], argTypes := #[50] }, type := 55, pos := "exact.go:2580", after := #[{ on := 1, ground := Go.Ground.data }], guard := none }) rfl (fun K hK => ?_) AllReadyH.nil
  go_simp
  (refine (toWord_any p k f t s q x y z e a len cap F _ hfd hl' hc).mono ?_; rintro r w6 ⟨b6, rfl, f6, bb6⟩)
  go_wp2_with fail
  refine hK.out _ _ ?_ (fun hHeld => ?_)
  · (try dsimp only); (refine ⟨?_, ?_, ?_, ?_, ?_, ?_, ?_, ?_, ?_, ?_, ?_, ?_, ?_, ?_, ?_, ?_, ?_, ?_, ?_, ?_, ?_, ?_⟩ <;> (repeat (first | with_reducible assumption | with_reducible refine keep_drew ?_ | with_reducible refine keep_below (by assumption) ?_)))
  clear hK K
  (try simp only [Act.put, List.setIfInBounds_toArray, List.set_cons_zero, List.set_cons_succ])
  refine wpAnyH_ready (rs := [3]) (by kernel_rfl) (by simp) ?_
  refine AllReadyH.cons (o := { dst := some 25, op := Go.Op.call { callee := Go.Callee.value (Go.Operand.func 35), args := #[Go.Operand.tmp 22, Go.Operand.tmp 24], argTypes := #[55, 55] }, type := 4, pos := "exact.go:2580", after := #[{ on := 0, ground := Go.Ground.data }, { on := 2, ground := Go.Ground.data }, { on := 2, ground := Go.Ground.chain }], guard := none }) rfl (fun K hK => ?_) AllReadyH.nil
  go_simp
  (refine (eqWord_same p k f t s q x y z e _ _ len len len F _ (f5d.below bb6) f6 hl').mono ?_; rintro r w7 ⟨rfl, bb7⟩)
  go_wp2_with fail
  refine hK.out _ _ ?_ (fun hHeld => ?_)
  · (try dsimp only); (refine ⟨?_, ?_, ?_, ?_, ?_, ?_, ?_, ?_, ?_, ?_, ?_, ?_, ?_, ?_, ?_, ?_, ?_, ?_, ?_, ?_, ?_, ?_⟩ <;> (repeat (first | with_reducible assumption | with_reducible refine keep_drew ?_ | with_reducible refine keep_below (by assumption) ?_)))
  clear hK K
  (try simp only [Act.put, List.setIfInBounds_toArray, List.set_cons_zero, List.set_cons_succ])
  refine wpAnyH_take (i := 4) (oi := { dst := some 26, op := Go.Op.unOp Go.UnOp.not 4 (Go.Operand.tmp 25), type := 4, pos := "exact.go:2580", after := #[{ on := 3, ground := Go.Ground.data }], guard := none }) (v := ?_) rfl (by kernel_rfl) (by kernel_rfl) (by kernel_rfl) (fun _ _ _ h => h) (Or.inl ⟨by rfl, ?_⟩) (by assumption) ?_
  rotate_left 1
  · (intro w hSw; (try dsimp only at hSw); go_simp; try with_reducible rfl)
  (try simp only [Act.put, List.setIfInBounds_toArray, List.set_cons_zero, List.set_cons_succ])
  refine wpAnyH_done (by kernel_rfl) ?_ _
  have B7 := btrans (btrans B5.drew bb6) bb7
  go_wp2
  go_ret
  exact ⟨rfl, B7⟩
end Go.Proofs.Ytbmnonfnnifoiaa
