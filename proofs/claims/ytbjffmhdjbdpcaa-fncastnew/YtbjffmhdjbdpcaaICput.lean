/- Items with a fact more: the program's way. -/
import Derived.Test.YtbjffmhdjbdpcaaIJoin
namespace Go.Proofs.Ytbjffmhdjbdpcaa.I
open Go.ChangeShapes Go.WideShapes Go.ChangeAt Go.RowKit
attribute [local go_sem ↓] Go.wp_at_zero Go.wp_at_succ
/-- a fact that is to be told -/
def tIt (f : Fc) : It := ⟨f.n, f.i, f.s, f.g, 4⟩
def cpT (len : Nat) (F : Nat → It) (f : Fc) : List It := if (cokB len F && fokB f.n f.i f.s) = true then tput (seqF F len) (tIt f) else []
theorem cok_lit (a : Option Addr) (len cap : Nat) (F : Nat → It) (q : Bool) (w : World) (h : TSl w a len F) (hl : len ≤ 1048576) (hq : cokB len F = q) :
    Calls Try.prog 10 #[.slice a len cap] w fun e w' => e = .returned (.bool q) ∧ Below w.heap.size w w' := hq ▸ cok_any a len cap F w h hl
theorem cok_one (f : Fc) (h : fokB f.n f.i f.s = true) : cokB 1 (fun _ => tIt f) = true := by
  unfold cokB callB tascB risB iokB
  rw [Bool.and_eq_true]
  refine ⟨decide_eq_true fun k _ => ?_, decide_eq_true fun k h1 h2 => by omega⟩
  show (fokB f.n f.i f.s && inb 4 1 4) = true
  rw [h]
  rfl
set_option maxRecDepth 20000 in
set_option maxHeartbeats 4000000 in
theorem cput_any (a : Option Addr) (len cap : Nat) (F : Nat → It) (f : Fc) (w : World) (h : TSl w a len F) (hl : len ≤ 1048576) :
    Calls Try.prog 7 #[.slice a len cap, .agg #[.int .i64 f.n, .int .i64 f.i, .int .i64 f.s, .bool f.g]] w fun e w' => ∃ v, e = .returned v ∧ w'.ownsRow w.heap.size 33 5 v (cpT len F f).length (fl (cpT len F f)) ∧ Below w.heap.size w w' := by
  have p0 : (w.alloc (.cells #[.int .i64 f.n, .int .i64 f.i, .int .i64 f.s, .bool f.g] 25)).heap[w.heap.size]? = some (.cells #[.int .i64 f.n, .int .i64 f.i, .int .i64 f.s, .bool f.g] 25 (0, 0)) := heap_alloc_new _ _
  have B0 : Below w.heap.size w (w.alloc (.cells #[.int .i64 f.n, .int .i64 f.i, .int .i64 f.s, .bool f.g] 25)) := balloc _ (Below.refl _ _)
  cases hok0 : cokB len F
  · have hok : Hid (cokB len F = false) := hok0
    have e1 : cpT len F f = [] := by unfold cpT; rw [hok0]; rfl
    rw [e1]
    clear hok0 e1
    go_enter Try.func7, Try.ntmps7
    go_wp2_with fail
    generalize (w.alloc (.cells #[.int .i64 f.n, .int .i64 f.i, .int .i64 f.s, .bool f.g] 25)) = W0 at *
    refine (cok_lit a len cap F false _ (h.below B0) hl hok.out).mono ?_
    rintro r w1 ⟨rfl, b1⟩
    have B1 := btrans B0 b1
    clear p0 b1 B0
    go_wp2
    go_ret
    exact ⟨_, rfl, World.ownsRow_nil _ _ _ _, B1⟩
  · have hok : Hid (cokB len F = true) := hok0
    cases hfk0 : fokB f.n f.i f.s
    · have hfk : Hid (fokB f.n f.i f.s = false) := hfk0
      have e1 : cpT len F f = [] := by unfold cpT; rw [hok0, hfk0]; rfl
      rw [e1]
      clear hok0 hfk0 e1
      go_enter Try.func7, Try.ntmps7
      go_wp2_with fail
      generalize (w.alloc (.cells #[.int .i64 f.n, .int .i64 f.i, .int .i64 f.s, .bool f.g] 25)) = W0 at *
      refine (cok_lit a len cap F true _ (h.below B0) hl hok.out).mono ?_
      rintro r w1 ⟨rfl, b1⟩
      have B1 := btrans B0 b1
      have p1 := blk_below b1 p0
      have c0 : w1.cell? ⟨w.heap.size, 0, none⟩ = some (.int .i64 f.n) := cell_block (o := 0) p1 rfl
      have c1 : w1.cell? ⟨w.heap.size, 1, none⟩ = some (.int .i64 f.i) := cell_block (o := 1) p1 rfl
      have c2 : w1.cell? ⟨w.heap.size, 2, none⟩ = some (.int .i64 f.s) := cell_block (o := 2) p1 rfl
      have c3 : w1.cell? ⟨w.heap.size, 3, none⟩ = some (.bool f.g) := cell_block (o := 3) p1 rfl
      clear p0 b1 B0
      go_wp2_with fail
      refine (fok_lit _ _ _ _ false hfk.out _).mono ?_
      rintro r w2 ⟨rfl, b2⟩
      have B2 := btrans B1 b2
      clear p1 c0 c1 c2 c3 B1 b2
      go_wp2
      go_ret
      exact ⟨_, rfl, World.ownsRow_nil _ _ _ _, B2⟩
    · have hfk : Hid (fokB f.n f.i f.s = true) := hfk0
      have e1 : cpT len F f = tput (seqF F len) (tIt f) := by unfold cpT; rw [hok0, hfk0]; rfl
      rw [e1]
      have hl8 := tok_len hok0
      clear hok0 hfk0 e1
      go_enter Try.func7, Try.ntmps7
      go_wp2_with fail
      generalize (w.alloc (.cells #[.int .i64 f.n, .int .i64 f.i, .int .i64 f.s, .bool f.g] 25)) = W0 at *
      refine (cok_lit a len cap F true _ (h.below B0) hl hok.out).mono ?_
      rintro r w1 ⟨rfl, b1⟩
      have B1 := btrans B0 b1
      have p1 := blk_below b1 p0
      have c0 : w1.cell? ⟨w.heap.size, 0, none⟩ = some (.int .i64 f.n) := cell_block (o := 0) p1 rfl
      have c1 : w1.cell? ⟨w.heap.size, 1, none⟩ = some (.int .i64 f.i) := cell_block (o := 1) p1 rfl
      have c2 : w1.cell? ⟨w.heap.size, 2, none⟩ = some (.int .i64 f.s) := cell_block (o := 2) p1 rfl
      have c3 : w1.cell? ⟨w.heap.size, 3, none⟩ = some (.bool f.g) := cell_block (o := 3) p1 rfl
      clear p0 b1 B0
      go_wp2_with fail
      refine (fok_lit _ _ _ _ true hfk.out _).mono ?_
      rintro r w2 ⟨rfl, b2⟩
      have B2 := btrans B1 b2
      have d0 := keep_below b2 c0
      have d1 := keep_below b2 c1
      have d2 := keep_below b2 c2
      have d3 := keep_below b2 c3
      clear c0 c1 c2 c3 B1 b2 p1
      go_wp2_with fail
      refine (joined_any a len cap F _ 1 1 (fun _ => tIt f) _ (h.below (balloc _ B2)) (fun _ => ⟨w2.heap.size, 0, rfl, by simp, fun k hk => ?_⟩) hok.out (cok_one f hfk.out)).mono ?_
      · obtain rfl : k = 0 := by omega
        simp [go_sem, tIt]
      rintro r w3 ⟨v, rfl, o3, b3⟩
      have B3 := btrans (balloc _ B2) b3
      clear d0 d1 d2 d3 b3
      go_wp2
      go_ret
      exact ⟨v, rfl, own_mono (by have := B2.size; simp; omega) o3, B3⟩
end Go.Proofs.Ytbjffmhdjbdpcaa.I
