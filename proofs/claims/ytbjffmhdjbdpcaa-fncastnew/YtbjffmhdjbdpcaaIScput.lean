/- Items with a fact more: the model's answer. -/
import Derived.Test.YtbjffmhdjbdpcaaIL5
namespace Go.Proofs.Ytbjffmhdjbdpcaa.I
open Go.ChangeShapes Go.WideShapes Go.ChangeAt Go.RowKit
attribute [local go_sem ↓] Go.wp_at_zero Go.wp_at_succ
theorem scok_lit (a : Option Addr) (len cap : Nat) (F : Nat → It) (q : Bool) (w : World) (h : TSl w a len F) (hl : len ≤ 1048576) (hq : cokB len F = q) :
    Calls Try.prog 11 #[.slice a len cap] w fun e w' => e = .returned (.bool q) ∧ Below w.heap.size w w' := hq ▸ scok_any a len cap F w h hl
set_option maxRecDepth 20000 in
set_option maxHeartbeats 4000000 in
theorem scput_any (a : Option Addr) (len cap : Nat) (F : Nat → It) (f : Fc) (w : World) (h : TSl w a len F) (hl : len ≤ 1048576) (hc : len ≤ cap) :
    Calls Try.prog 8 #[.slice a len cap, .agg #[.int .i64 f.n, .int .i64 f.i, .int .i64 f.s, .bool f.g]] w fun e w' => ∃ v, e = .returned v ∧ w'.ownsRow w.heap.size 33 5 v (cpT len F f).length (fl (cpT len F f)) ∧ Below w.heap.size w w' := by
  have p0 : (w.alloc (.cells #[.int .i64 f.n, .int .i64 f.i, .int .i64 f.s, .bool f.g] 25)).heap[w.heap.size]? = some (.cells #[.int .i64 f.n, .int .i64 f.i, .int .i64 f.s, .bool f.g] 25 (0, 0)) := heap_alloc_new _ _
  have B0 : Below w.heap.size w (w.alloc (.cells #[.int .i64 f.n, .int .i64 f.i, .int .i64 f.s, .bool f.g] 25)) := balloc _ (Below.refl _ _)
  cases hok0 : cokB len F
  · have hok : Hid (cokB len F = false) := hok0
    have e1 : cpT len F f = [] := by unfold cpT; rw [hok0]; rfl
    rw [e1]
    clear hok0 e1
    go_enter Try.func8, Try.ntmps8
    go_wp2_with fail
    generalize (w.alloc (.cells #[.int .i64 f.n, .int .i64 f.i, .int .i64 f.s, .bool f.g] 25)) = W0 at *
    refine (scok_lit a len cap F false _ (h.below B0) hl hok.out).mono ?_
    rintro r w1 ⟨rfl, b1⟩
    have B1 := btrans B0 b1
    clear p0 b1 B0
    go_wp2
    go_ret
    exact ⟨_, rfl, own_emptyF _ _ B1.size, balloc _ B1⟩
  · have hok : Hid (cokB len F = true) := hok0
    cases hfk0 : fokB f.n f.i f.s
    · have hfk : Hid (fokB f.n f.i f.s = false) := hfk0
      have e1 : cpT len F f = [] := by unfold cpT; rw [hok0, hfk0]; rfl
      rw [e1]
      clear hok0 hfk0 e1
      go_enter Try.func8, Try.ntmps8
      go_wp2_with fail
      generalize (w.alloc (.cells #[.int .i64 f.n, .int .i64 f.i, .int .i64 f.s, .bool f.g] 25)) = W0 at *
      refine (scok_lit a len cap F true _ (h.below B0) hl hok.out).mono ?_
      rintro r w1 ⟨rfl, b1⟩
      have B1 := btrans B0 b1
      have p1 := blk_below b1 p0
      have c0 : w1.cell? ⟨w.heap.size, 0, none⟩ = some (.int .i64 f.n) := cell_block (o := 0) p1 rfl
      have c1 : w1.cell? ⟨w.heap.size, 1, none⟩ = some (.int .i64 f.i) := cell_block (o := 1) p1 rfl
      have c2 : w1.cell? ⟨w.heap.size, 2, none⟩ = some (.int .i64 f.s) := cell_block (o := 2) p1 rfl
      have c3 : w1.cell? ⟨w.heap.size, 3, none⟩ = some (.bool f.g) := cell_block (o := 3) p1 rfl
      clear p0 b1 B0
      go_wp2_with fail
      refine (sfok_lit _ _ _ _ false hfk.out _).mono ?_
      rintro r w2 ⟨rfl, b2⟩
      have B2 := btrans B1 b2
      clear p1 c0 c1 c2 c3 B1 b2
      go_wp2
      go_ret
      exact ⟨_, rfl, own_emptyF _ _ B2.size, balloc _ B2⟩
    · have hfk : Hid (fokB f.n f.i f.s = true) := hfk0
      have e1 : cpT len F f = tput (seqF F len) (tIt f) := by unfold cpT; rw [hok0, hfk0]; rfl
      rw [e1]
      have hl8 := tok_len hok0
      obtain ⟨t1, t2⟩ := tok_all hok0
      clear hok0 hfk0 e1
      go_enter Try.func8, Try.ntmps8
      go_wp2_with fail
      generalize (w.alloc (.cells #[.int .i64 f.n, .int .i64 f.i, .int .i64 f.s, .bool f.g] 25)) = W0 at *
      refine (scok_lit a len cap F true _ (h.below B0) hl hok.out).mono ?_
      rintro r w1 ⟨rfl, b1⟩
      have B1 := btrans B0 b1
      have p1 := blk_below b1 p0
      have c0 : w1.cell? ⟨w.heap.size, 0, none⟩ = some (.int .i64 f.n) := cell_block (o := 0) p1 rfl
      have c1 : w1.cell? ⟨w.heap.size, 1, none⟩ = some (.int .i64 f.i) := cell_block (o := 1) p1 rfl
      have c2 : w1.cell? ⟨w.heap.size, 2, none⟩ = some (.int .i64 f.s) := cell_block (o := 2) p1 rfl
      have c3 : w1.cell? ⟨w.heap.size, 3, none⟩ = some (.bool f.g) := cell_block (o := 3) p1 rfl
      clear p0 b1 B0
      go_wp2_with fail
      refine (sfok_lit _ _ _ _ true hfk.out _).mono ?_
      rintro r w2 ⟨rfl, b2⟩
      have B2 := btrans B1 b2
      have d0 := keep_below b2 c0
      have d1 := keep_below b2 c1
      have d2 := keep_below b2 c2
      have d3 := keep_below b2 c3
      clear c0 c1 c2 c3 B1 b2 p1
      have e0 := keep_alloc (.cells #[] 33) d0
      have e1 := keep_alloc (.cells #[] 33) d1
      have e2 := keep_alloc (.cells #[] 33) d2
      have e3 := keep_alloc (.cells #[] 33) d3
      have O2 := own_emptyF w2 w.heap.size B2.size
      clear d0 d1 d2 d3
      go_wp2_with fail
      refine (l5_any a len cap F f _ (h.below (balloc _ B2)) hc hl t2).mono ?_
      rintro r w3 ⟨a3, n3, c3, rfl, hn3, hl3, hS3, b3⟩
      have B3 := btrans (balloc (.cells #[] 33) B2) b3
      have O3 := own_below O2 b3
      have hpos := tput_ne (seqF F len) (tIt f)
      have hle := tput_len_le (seqF F len) (tIt f)
      rw [seqF_len] at hle
      obtain ⟨g, o', rfl, _, hf3⟩ := hS3 (by omega)
      clear e0 e1 e2 e3 b3 O2 B2
      generalize hT0 : tput (seqF F len) (tIt f) = T at *
      have hT : Hid (tput (seqF F len) (tIt f) = T) := hT0
      clear hT0
      go_wp2_with (at_builtin; refine wpList_appF rfl _ _ rfl w.heap.size (.slice (some ⟨w2.heap.size, 0, none⟩) 0 0) 0 [] rfl (by simp) O3 g o' n3 c3 T rfl hl3 hf3 n3 (Nat.zero_add _) (by omega) B3.size ?_; intro g5 cap5 w5 o5 gr5 hc5)
      have B5 := own_grow B3 B3.size O3 gr5
      go_ret
      exact ⟨_, rfl, by rw [hT.out, hl3]; exact o5, B5⟩
end Go.Proofs.Ytbjffmhdjbdpcaa.I
