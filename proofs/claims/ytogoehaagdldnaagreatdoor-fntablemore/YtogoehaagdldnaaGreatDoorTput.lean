/- A table with a fact more: the program's way and the model's. -/
import Derived.Test.YtogoehaagdldnaaGreatDoorL3b
namespace Go.Proofs.YtogoehaagdldnaaGreatDoor
open Go.ChangeShapes Go.WideShapes Go.ChangeAt Go.RowKit
attribute [local go_sem ↓] Go.wp_at_zero Go.wp_at_succ
set_option maxRecDepth 20000 in
theorem wpList_appF {w : World} {ops : Array Oper} {rest : List Oper} {o : Oper} {a : Act} {Q : Exit → Act → World → Prop} (hgd : o.guard = none) (s x : Operand)
    (ho : o.op = .call { callee := .builtin .append, args := #[s, x], argTypes := #[23, 23] })
    (base : Nat) (v : Value) (n : Nat) (T : List Fc) (hs : a.eval s = v) (hv : v ≠ .slice none 0 0) (hown : w.ownsRow base 33 4 v n (fl T))
    (g o' : Nat) (m c : Nat) (T' : List Fc) (hx : a.eval x = .slice (some ⟨g, o', none⟩) m c) (hl : T'.length = m)
    (hnews : FactsIn w g o' m (fun k => T'.getD k Fc.zero)) (nm : Nat) (hnm : n + m = nm) (hn : nm ≤ 2000000) (hbase : base ≤ w.heap.size)
    (h : ∀ g' cap' w', w'.ownsRow base 33 4 (.slice (some ⟨g', 0, none⟩) nm cap') nm (fl (T ++ T')) → w.grownBy w' v.ownBlock → nm ≤ cap' → wpList Tryz.prog ops Q rest (a.put o.dst (.slice (some ⟨g', 0, none⟩) nm cap')) w') :
    wpList Tryz.prog ops Q (o :: rest) a w := by
  subst hnm
  obtain ⟨ti, hi, hz0, hz1, hz2⟩ := info_parts info24
  refine wpList_append_own w hgd s x 23 ho base 33 ti (fval Fc.zero) 4 32 Tryz.underlying23 hi hz0 hz1 hz2 rfl (by decide) v n (fl T) hs hown ⟨g, o', none⟩ m c (fl T') hx (by rw [fl_len, hl]) (facts_cell hnews hl) fl_one (by unfold maxLen; omega) (by omega) hbase (fun v' w' h1 h2 h3 => ?_)
  rw [← fl_append] at h1
  rcases own_sliceF h1 with ⟨e, _⟩ | ⟨g', cap', rfl, _, _, hc⟩
  · exact absurd (h3.1 e).1 hv
  · exact h g' cap' w' h1 h2 hc
set_option maxRecDepth 20000 in
theorem seqF_getD_self (T : List Fc) : seqF (fun k => T.getD k Fc.zero) T.length = T := by
  apply List.ext_getElem
  · simp [seqF]
  · intro i h1 h2
    simp [seqF, List.getD, h2]
set_option maxRecDepth 20000 in
theorem getD_asc {T : List Fc} (h : Asc T) : ∀ j k, j < k → k < T.length → (T.getD j Fc.zero).n < (T.getD k Fc.zero).n := fun j k hj hk => by
  have := List.pairwise_iff_getElem.1 h j k (by omega) hk hj
  simpa [List.getD, hk, show j < T.length by omega] using this
set_option maxRecDepth 20000 in
/-- a list of the call's own, with a fact more -/
theorem l3put_own (base : Nat) (a : Option Addr) (cap n : Nat) (T : List Fc) (f : Fc) (w : World) (hown : w.ownsRow base 33 4 (.slice a n cap) n (fl T)) (hv : Value.slice a n cap ≠ .slice none 0 0) (hA : Asc T) (hl : n ≤ 1048576) (hb : base ≤ w.heap.size) :
    Calls Tryz.prog 27 #[.slice a n cap, fval f] w fun e w' => ∃ a' c', e = .returned (.tuple #[.slice a' (tput T f).length c', .bool (tnew T f)]) ∧ Value.slice a' (tput T f).length c' ≠ .slice none 0 0 ∧ w'.ownsRow base 33 4 (.slice a' (tput T f).length c') (tput T f).length (fl (tput T f)) ∧ Below w.heap.size w w' := by
  have hT : T.length = n := by have := hown.1; rw [fl_len] at this; omega
  rcases own_sliceF hown with ⟨e, _⟩ | ⟨g, c, e, hg1, hg2, hg3⟩
  · exact absurd e hv
  · simp only [Value.slice.injEq, true_and] at e
    obtain ⟨rfl, rfl⟩ := e
    obtain ⟨a0, c0, e0, _, _, hF⟩ := own_facts hown
    subst hT
    have hin : FactsIn w g 0 T.length (fun k => T.getD k Fc.zero) := fun k hk => by
      obtain ⟨b, off, e, _, h⟩ := hF (by omega)
      simp only [Value.slice.injEq, true_and] at e0
      rw [← e0.1] at e
      simp only [Option.some.injEq, Addr.mk.injEq, and_true] at e
      obtain ⟨rfl, rfl⟩ := e
      exact h k hk
    have h := l3put_any g 0 T.length cap (fun k => T.getD k Fc.zero) f w hin hg2 hg3 hl (getD_asc hA)
    rw [seqF_getD_self] at h
    refine h.mono ?_
    rintro e w' ⟨v', c', n', rfl, rfl, h1 | h1, hb'⟩
    · obtain ⟨rfl, rfl, h2, h3⟩ := h1
      refine ⟨_, _, rfl, by simp, ?_, hb'⟩
      rw [h3]
      exact own_below hown hb'
    · refine ⟨_, _, rfl, ?_, own_mono hb h1, hb'⟩
      intro e
      simp only [Value.slice.injEq] at e
      obtain ⟨rfl, e1, rfl⟩ := e
      rcases h1.2 with ⟨_, _⟩ | ⟨_, _, _, e2, _⟩
      · have h2 : (tput T f).length ≠ 0 := by
          cases T with
          | nil => simp [tput]
          | cons g r => unfold tput; split; simp; split; split <;> simp; simp
        exact h2 e1
      · simp at e2
def tpT (len : Nat) (F : Nat → Fc) (f : Fc) : List Fc := if (tokB len F && fok f) = true then tput (seqF F len) f else []
def tpQ (len : Nat) (F : Nat → Fc) (f : Fc) : Bool := (tokB len F && fok f) && tnew (seqF F len) f
set_option maxRecDepth 20000 in
theorem fok_lit (f : Fc) (q : Bool) (w : World) (h : fok f = q) :
    Calls Tryz.prog 31 #[.agg #[.int .i64 f.n, .int .i64 f.i, .int .i64 f.s, .bool f.g]] w fun r w' => r = .returned (.bool q) ∧ Below w.heap.size w w' := h ▸ fok_below f.n f.i f.s f.g w
set_option maxRecDepth 20000 in
theorem sfok_litF (f : Fc) (q : Bool) (w : World) (h : fok f = q) :
    Calls Tryz.prog 20 #[.agg #[.int .i64 f.n, .int .i64 f.i, .int .i64 f.s, .bool f.g]] w fun r w' => r = .returned (.bool q) ∧ Below w.heap.size w w' := h ▸ sfok_below f.n f.i f.s f.g w
set_option maxRecDepth 20000 in
theorem own_emptyF (w : World) (base : Nat) (h : base ≤ w.heap.size) : (w.alloc (.cells #[] 33)).ownsRow base 33 4 (.slice (some ⟨w.heap.size, 0, none⟩) 0 0) 0 (fl []) := World.ownsRow_lit w #[] 0 h (by unfold maxLen; omega) rfl
set_option maxRecDepth 20000 in
theorem tput_ne (T : List Fc) (f : Fc) : (tput T f).length ≠ 0 := by
  cases T with
  | nil => simp [tput]
  | cons g r => unfold tput; split; simp; split; split <;> simp; simp
set_option maxRecDepth 20000 in
set_option maxHeartbeats 4000000 in
theorem fput_any (a : Option Addr) (len cap : Nat) (F : Nat → Fc) (f : Fc) (w : World) (h : FSl w a len F) (hl : len ≤ 1048576) :
    Calls Tryz.prog 18 #[.slice a len cap, fval f] w fun e w' => ∃ v, e = .returned (.tuple #[v, .bool (tpQ len F f)]) ∧ w'.ownsRow w.heap.size 33 4 v (tpT len F f).length (fl (tpT len F f)) ∧ Below w.heap.size w w' := by
  have p0 : (w.alloc (.cells #[.int .i64 f.n, .int .i64 f.i, .int .i64 f.s, .bool f.g] 33)).heap[w.heap.size]? = some (.cells #[.int .i64 f.n, .int .i64 f.i, .int .i64 f.s, .bool f.g] 33 (0, 0)) := heap_alloc_new _ _
  have B0 : Below w.heap.size w (w.alloc (.cells #[.int .i64 f.n, .int .i64 f.i, .int .i64 f.s, .bool f.g] 33)) := balloc _ (Below.refl _ _)
  cases hok0 : tokB len F
  · have hok : Hid (tokB len F = false) := hok0
    have e1 : tpT len F f = [] := by unfold tpT; rw [hok0]; rfl
    have e2 : tpQ len F f = false := by unfold tpQ; rw [hok0]; rfl
    rw [e1, e2]
    clear hok0 e1 e2
    go_enter Tryz.func18, Tryz.ntmps18
    go_wp2_with fail
    generalize (w.alloc (.cells #[.int .i64 f.n, .int .i64 f.i, .int .i64 f.s, .bool f.g] 33)) = W0 at *
    refine (tok_lit a len cap F false _ (h.below B0) hl hok.out).mono ?_
    rintro r w1 ⟨rfl, b1⟩
    have B1 := btrans B0 b1
    have p1 := blk_below b1 p0
    have c0 : w1.cell? ⟨w.heap.size, 0, none⟩ = some (.int .i64 f.n) := cell_block (o := 0) p1 rfl
    have c1 : w1.cell? ⟨w.heap.size, 1, none⟩ = some (.int .i64 f.i) := cell_block (o := 1) p1 rfl
    have c2 : w1.cell? ⟨w.heap.size, 2, none⟩ = some (.int .i64 f.s) := cell_block (o := 2) p1 rfl
    have c3 : w1.cell? ⟨w.heap.size, 3, none⟩ = some (.bool f.g) := cell_block (o := 3) p1 rfl
    clear p0 b1 B0
    clear p1 c0 c1 c2 c3
    go_wp2
    go_ret2
    exact ⟨_, rfl, World.ownsRow_nil _ _ _ _, B1⟩
  · have hok : Hid (tokB len F = true) := hok0
    cases hfk0 : fok f
    · have hfk : Hid (fok f = false) := hfk0
      have e1 : tpT len F f = [] := by unfold tpT; rw [hok0, hfk0]; rfl
      have e2 : tpQ len F f = false := by unfold tpQ; rw [hok0, hfk0]; rfl
      rw [e1, e2]
      clear hok0 hfk0 e1 e2
      go_enter Tryz.func18, Tryz.ntmps18
      go_wp2_with fail
      generalize (w.alloc (.cells #[.int .i64 f.n, .int .i64 f.i, .int .i64 f.s, .bool f.g] 33)) = W0 at *
      refine (tok_lit a len cap F true _ (h.below B0) hl hok.out).mono ?_
      rintro r w1 ⟨rfl, b1⟩
      have B1 := btrans B0 b1
      have p1 := blk_below b1 p0
      have c0 : w1.cell? ⟨w.heap.size, 0, none⟩ = some (.int .i64 f.n) := cell_block (o := 0) p1 rfl
      have c1 : w1.cell? ⟨w.heap.size, 1, none⟩ = some (.int .i64 f.i) := cell_block (o := 1) p1 rfl
      have c2 : w1.cell? ⟨w.heap.size, 2, none⟩ = some (.int .i64 f.s) := cell_block (o := 2) p1 rfl
      have c3 : w1.cell? ⟨w.heap.size, 3, none⟩ = some (.bool f.g) := cell_block (o := 3) p1 rfl
      clear p0 b1 B0
      go_wp2_with fail
      refine (fok_lit f false _ hfk.out).mono ?_
      rintro r w2 ⟨rfl, b2⟩
      have B2 := btrans B1 b2
      clear p1 c0 c1 c2 c3 B1 b2
      go_wp2
      go_ret2
      exact ⟨_, rfl, World.ownsRow_nil _ _ _ _, B2⟩
    · have hfk : Hid (fok f = true) := hfk0
      have e1 : tpT len F f = tput (seqF F len) f := by unfold tpT; rw [hok0, hfk0]; rfl
      have e2 : tpQ len F f = tnew (seqF F len) f := by unfold tpQ; rw [hok0, hfk0]; rfl
      rw [e1, e2]
      obtain ⟨t1, t2⟩ := tok_all hok0
      have hl8 := tok_len hok0
      clear hok0 hfk0 e1 e2
      go_enter Tryz.func18, Tryz.ntmps18
      go_wp2_with fail
      generalize (w.alloc (.cells #[.int .i64 f.n, .int .i64 f.i, .int .i64 f.s, .bool f.g] 33)) = W0 at *
      refine (tok_lit a len cap F true _ (h.below B0) hl hok.out).mono ?_
      rintro r w1 ⟨rfl, b1⟩
      have B1 := btrans B0 b1
      have p1 := blk_below b1 p0
      have c0 : w1.cell? ⟨w.heap.size, 0, none⟩ = some (.int .i64 f.n) := cell_block (o := 0) p1 rfl
      have c1 : w1.cell? ⟨w.heap.size, 1, none⟩ = some (.int .i64 f.i) := cell_block (o := 1) p1 rfl
      have c2 : w1.cell? ⟨w.heap.size, 2, none⟩ = some (.int .i64 f.s) := cell_block (o := 2) p1 rfl
      have c3 : w1.cell? ⟨w.heap.size, 3, none⟩ = some (.bool f.g) := cell_block (o := 3) p1 rfl
      clear p0 b1 B0
      go_wp2_with fail
      refine (fok_lit f true _ hfk.out).mono ?_
      rintro r w2 ⟨rfl, b2⟩
      have B2 := btrans B1 b2
      have d0 := keep_below b2 c0
      have d1 := keep_below b2 c1
      have d2 := keep_below b2 c2
      have d3 := keep_below b2 c3
      replace p1 := blk_below b2 p1
      clear c0 c1 c2 c3 B1 b2
      go_wp2_with fail
      refine (regOf_any a len cap F _ (h.below B2) hok.out).mono ?_
      rintro r w3 ⟨rb, rfl, R3, b3⟩
      have B3 := btrans B2 b3
      have e0 := keep_below b3 d0
      have e1 := keep_below b3 d1
      have e2 := keep_below b3 d2
      have e3 := keep_below b3 d3
      clear d0 d1 d2 d3 p1 
      go_wp2_with fail
      refine (put_any w2.heap.size rb len (seqF F len) f _ R3 (seqF_asc t2 len (Nat.le_refl _)) (fun g hg => by obtain ⟨k, hk, rfl⟩ := seqF_mem hg; exact t1 k hk) hfk.out b3.size (by omega)).mono ?_
      rintro r w4 ⟨rfl, R4, b4⟩
      have B4 := B2.trans ((b3.trans b4).mono B2.size)
      clear e0 e1 e2 e3 R3 b4 b3 B3
      have hal : ∀ g ∈ tput (seqF F len) f, fok g = true := fun g hg => by
        rcases tput_mem hg with rfl | hg
        · exact hfk.out
        · obtain ⟨k, hk, rfl⟩ := seqF_mem hg; exact t1 k hk
      have hll := tput_len_le (seqF F len) f
      rw [seqF_len] at hll
      go_wp2_with fail
      refine (list_any w2.heap.size rb (len + 1) (tput (seqF F len) f) _ R4 (tput_asc (seqF_asc t2 len (Nat.le_refl _))) hal (by omega)).mono ?_
      rintro r w5 ⟨v, rfl, o5, b5⟩
      have B5 := btrans B4 b5
      clear R4 b5
      go_wp2
      go_ret2
      exact ⟨v, rfl, own_mono B4.size o5, B5⟩
set_option maxRecDepth 20000 in
set_option maxHeartbeats 4000000 in
theorem sput_any (a : Option Addr) (len cap : Nat) (F : Nat → Fc) (f : Fc) (w : World) (h : FSl w a len F) (hl : len ≤ 1048576) (ha : ∃ b off, a = some ⟨b, off, none⟩ ∧ b < w.heap.size) (hc : len ≤ cap) :
    Calls Tryz.prog 19 #[.slice a len cap, fval f] w fun e w' => ∃ v, e = .returned (.tuple #[v, .bool (tpQ len F f)]) ∧ w'.ownsRow w.heap.size 33 4 v (tpT len F f).length (fl (tpT len F f)) ∧ Below w.heap.size w w' := by
  have p0 : (w.alloc (.cells #[.int .i64 f.n, .int .i64 f.i, .int .i64 f.s, .bool f.g] 33)).heap[w.heap.size]? = some (.cells #[.int .i64 f.n, .int .i64 f.i, .int .i64 f.s, .bool f.g] 33 (0, 0)) := heap_alloc_new _ _
  have B0 : Below w.heap.size w (w.alloc (.cells #[.int .i64 f.n, .int .i64 f.i, .int .i64 f.s, .bool f.g] 33)) := balloc _ (Below.refl _ _)
  cases hok0 : tokB len F
  · have hok : Hid (tokB len F = false) := hok0
    have e1 : tpT len F f = [] := by unfold tpT; rw [hok0]; rfl
    have e2 : tpQ len F f = false := by unfold tpQ; rw [hok0]; rfl
    rw [e1, e2]
    clear hok0 e1 e2
    go_enter Tryz.func19, Tryz.ntmps19
    go_wp2_with fail
    generalize (w.alloc (.cells #[.int .i64 f.n, .int .i64 f.i, .int .i64 f.s, .bool f.g] 33)) = W0 at *
    refine (stok_lit a len cap F false _ (h.below B0) hl hok.out).mono ?_
    rintro r w1 ⟨rfl, b1⟩
    have B1 := btrans B0 b1
    have p1 := blk_below b1 p0
    have c0 : w1.cell? ⟨w.heap.size, 0, none⟩ = some (.int .i64 f.n) := cell_block (o := 0) p1 rfl
    have c1 : w1.cell? ⟨w.heap.size, 1, none⟩ = some (.int .i64 f.i) := cell_block (o := 1) p1 rfl
    have c2 : w1.cell? ⟨w.heap.size, 2, none⟩ = some (.int .i64 f.s) := cell_block (o := 2) p1 rfl
    have c3 : w1.cell? ⟨w.heap.size, 3, none⟩ = some (.bool f.g) := cell_block (o := 3) p1 rfl
    clear p0 b1 B0
    clear p1 c0 c1 c2 c3
    go_wp2
    go_ret2
    exact ⟨_, rfl, own_emptyF _ _ B1.size, balloc _ B1⟩
  · have hok : Hid (tokB len F = true) := hok0
    cases hfk0 : fok f
    · have hfk : Hid (fok f = false) := hfk0
      have e1 : tpT len F f = [] := by unfold tpT; rw [hok0, hfk0]; rfl
      have e2 : tpQ len F f = false := by unfold tpQ; rw [hok0, hfk0]; rfl
      rw [e1, e2]
      clear hok0 hfk0 e1 e2
      go_enter Tryz.func19, Tryz.ntmps19
      go_wp2_with fail
      generalize (w.alloc (.cells #[.int .i64 f.n, .int .i64 f.i, .int .i64 f.s, .bool f.g] 33)) = W0 at *
      refine (stok_lit a len cap F true _ (h.below B0) hl hok.out).mono ?_
      rintro r w1 ⟨rfl, b1⟩
      have B1 := btrans B0 b1
      have p1 := blk_below b1 p0
      have c0 : w1.cell? ⟨w.heap.size, 0, none⟩ = some (.int .i64 f.n) := cell_block (o := 0) p1 rfl
      have c1 : w1.cell? ⟨w.heap.size, 1, none⟩ = some (.int .i64 f.i) := cell_block (o := 1) p1 rfl
      have c2 : w1.cell? ⟨w.heap.size, 2, none⟩ = some (.int .i64 f.s) := cell_block (o := 2) p1 rfl
      have c3 : w1.cell? ⟨w.heap.size, 3, none⟩ = some (.bool f.g) := cell_block (o := 3) p1 rfl
      clear p0 b1 B0
      go_wp2_with fail
      refine (sfok_litF f false _ hfk.out).mono ?_
      rintro r w2 ⟨rfl, b2⟩
      have B2 := btrans B1 b2
      clear p1 c0 c1 c2 c3 B1 b2
      go_wp2
      go_ret2
      exact ⟨_, rfl, own_emptyF _ _ B2.size, balloc _ B2⟩
    · have hfk : Hid (fok f = true) := hfk0
      have e1 : tpT len F f = tput (seqF F len) f := by unfold tpT; rw [hok0, hfk0]; rfl
      have e2 : tpQ len F f = tnew (seqF F len) f := by unfold tpQ; rw [hok0, hfk0]; rfl
      rw [e1, e2]
      obtain ⟨t1, t2⟩ := tok_all hok0
      have hl8 := tok_len hok0
      clear hok0 hfk0 e1 e2
      go_enter Tryz.func19, Tryz.ntmps19
      go_wp2_with fail
      generalize (w.alloc (.cells #[.int .i64 f.n, .int .i64 f.i, .int .i64 f.s, .bool f.g] 33)) = W0 at *
      refine (stok_lit a len cap F true _ (h.below B0) hl hok.out).mono ?_
      rintro r w1 ⟨rfl, b1⟩
      have B1 := btrans B0 b1
      have p1 := blk_below b1 p0
      have c0 : w1.cell? ⟨w.heap.size, 0, none⟩ = some (.int .i64 f.n) := cell_block (o := 0) p1 rfl
      have c1 : w1.cell? ⟨w.heap.size, 1, none⟩ = some (.int .i64 f.i) := cell_block (o := 1) p1 rfl
      have c2 : w1.cell? ⟨w.heap.size, 2, none⟩ = some (.int .i64 f.s) := cell_block (o := 2) p1 rfl
      have c3 : w1.cell? ⟨w.heap.size, 3, none⟩ = some (.bool f.g) := cell_block (o := 3) p1 rfl
      clear p0 b1 B0
      go_wp2_with fail
      refine (sfok_litF f true _ hfk.out).mono ?_
      rintro r w2 ⟨rfl, b2⟩
      have B2 := btrans B1 b2
      have d0 := keep_below b2 c0
      have d1 := keep_below b2 c1
      have d2 := keep_below b2 c2
      have d3 := keep_below b2 c3
      replace p1 := blk_below b2 p1
      clear c0 c1 c2 c3 B1 b2
      go_wp2_with fail
      obtain ⟨b, off, rfl, hbl⟩ := ha
      have hF : FactsIn w2 b off len F := fun k hk => by
        obtain ⟨b', off', e, _, hh⟩ := (h.below B2) (by omega)
        simp only [Option.some.injEq, Addr.mk.injEq, and_true] at e
        obtain ⟨rfl, rfl⟩ := e
        exact hh k hk
      refine (l3put_any b off len cap F f _ hF (by have := B2.size; omega) hc hl t2).mono ?_
      rintro r w3 ⟨v', c', n', rfl, hn', hvv, b3⟩
      have B3 := btrans B2 b3
      have hs : ∃ g o', v' = some ⟨g, o', none⟩ ∧ g < w3.heap.size ∧ FactsIn w3 g o' n' (fun k => (tput (seqF F len) f).getD k Fc.zero) := by
        rcases hvv with ⟨rfl, rfl, rfl, e⟩ | o3
        · exact ⟨b, off, rfl, by have := B3.size; omega, fun k hk => by rw [e]; simp only [seqF_getD F hk]; exact (hF.below b3 (by have := B2.size; omega)) k hk⟩
        · rcases own_sliceF o3 with ⟨e, e0⟩ | ⟨g, c, e, _, hg2, _⟩
          · exfalso
            have : (tput (seqF F len) f).length ≠ 0 := tput_ne _ _
            omega
          · simp only [Value.slice.injEq, true_and] at e
            obtain ⟨rfl, rfl⟩ := e
            obtain ⟨a0, c0, e0, _, _, hG⟩ := own_facts o3
            simp only [Value.slice.injEq, true_and] at e0
            refine ⟨g, 0, rfl, hg2, fun k hk => ?_⟩
            obtain ⟨b1, off1, e1, _, hh⟩ := hG (by omega)
            rw [← e0.1] at e1
            simp only [Option.some.injEq, Addr.mk.injEq, and_true] at e1
            obtain ⟨rfl, rfl⟩ := e1
            exact hh k hk
      obtain ⟨g, o', rfl, hg2, hin⟩ := hs
      have hll := tput_len_le (seqF F len) f
      rw [seqF_len] at hll
      have hnH : Hid (n' = (tput (seqF F len) f).length) := hn'
      have hn1 : n' ≤ 9 := by omega
      clear d0 d1 d2 d3 p1 hvv b3 B2 hF hn'
      go_wp2_with (at_builtin; refine wpList_appF rfl _ _ rfl w3.heap.size (.slice (some ⟨w3.heap.size, 0, none⟩) 0 0) 0 [] rfl (by simp) (own_emptyF w3 _ (Nat.le_refl _)) g o' n' c' (tput (seqF F len) f) rfl hnH.out.symm (hin.alloc _) n' (Nat.zero_add _) (by omega) (by simp) ?_; intro g' cap' w4 o4 g4 hc4)
      have B4 := own_grow (balloc (.cells #[] 33) (Below.refl _ w3)) (by simp) (own_emptyF w3 _ (Nat.le_refl _)) g4
      rw [List.nil_append] at o4
      clear g4 hin
      go_wp2
      go_ret2
      exact ⟨_, rfl, by rw [← hnH.out]; exact own_mono B3.size o4, btrans B3 B4⟩
end Go.Proofs.YtogoehaagdldnaaGreatDoor
