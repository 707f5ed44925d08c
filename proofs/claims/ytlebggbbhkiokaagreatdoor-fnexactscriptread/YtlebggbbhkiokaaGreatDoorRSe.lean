/- The events of a script: the program's way. -/
import Derived.Test.YtlebggbbhkiokaaGreatDoorRIt
namespace Go.Proofs.YtlebggbbhkiokaaGreatDoor
open Go.RowKit Go.Shelf
attribute [local go_sem] Oper.semAt_some
/-- events in memory -/
def fl (l : List Fc) : List Value := l.flatMap fun f => [.int .i64 f.n, .int .i64 f.i, .int .i64 f.s, .bool f.g]
theorem fl_append (a b : List Fc) : fl (a ++ b) = fl a ++ fl b := by simp [fl]
theorem fl_one (f : Fc) : ∀ u ∈ fl [f], u.oneCell' = true := by
  intro u hu
  simp [fl] at hu
  rcases hu with rfl | rfl | rfl | rfl <;> rfl
/-- the events that lines are -/
def evs (l : List (Nat × List UInt8)) : List Fc := l.map fun x => (sevP (x.2.take 4001)).1
def good (x : Nat × List UInt8) : Prop := (sevP (x.2.take 4001)).2 = true
theorem new_cells (W : World) (f : Fc) : ∀ j u, (fl [f])[j]? = some u → (W.alloc (.cells #[.int .i64 f.n, .int .i64 f.i, .int .i64 f.s, .bool f.g] 31)).cell? ((⟨W.heap.size, 0, none⟩ : Addr).add j) = some u := by
  intro j u hu
  have hj : j < 4 := by
    have := (List.getElem?_eq_some_iff.1 hu).1
    simpa [fl] using this
  have hb : (W.alloc (.cells #[.int .i64 f.n, .int .i64 f.i, .int .i64 f.s, .bool f.g] 31)).heap[W.heap.size]? = some (.cells #[.int .i64 f.n, .int .i64 f.i, .int .i64 f.s, .bool f.g] 31 (0, 0)) := World.alloc_heap_new W _
  match j, hj with
  | 0, _ => exact (cell_block (o := 0) hb rfl).trans (by simpa [fl] using hu)
  | 1, _ => exact (cell_block (o := 1) hb rfl).trans (by simpa [fl] using hu)
  | 2, _ => exact (cell_block (o := 2) hb rfl).trans (by simpa [fl] using hu)
  | 3, _ => exact (cell_block (o := 3) hb rfl).trans (by simpa [fl] using hu)
theorem numbered_in (F : Fence) (n : Nat) (hF : F.fn 18) (hro : F.round = none) (x : ByteArray) (w : World) :
    CallsIn F n Tryz.prog 18 #[.string x] w fun e w' => e = .returned (.func (.func 25) #[] #[.pointer (some ⟨w.heap.size, 0, none⟩)]) ∧ w' = w.alloc (.cells #[.string x] 9) := by
  refine callsIn_of_wp Tryz.func18 rfl hF ?_ hro
  simp only [Tryz.ntmps18, List.size_toArray, List.length_cons, List.length_nil, Nat.reduceAdd, Nat.reduceSub, Array.replicate_succ, Array.replicate_zero, List.push_toArray, List.append_toArray, List.nil_append, List.cons_append]
  gi_wp2
  go_ret
  exact ⟨rfl, rfl⟩
theorem sev_lit (s : ByteArray) (f : Fc) (q : Bool) (hs : s.size ≤ 1048576) (hv : sevP s.data.toList = (f, q)) (w : World) (hp : Pst w) :
    Calls Tryz.prog 19 #[.string s] w fun e w' => e = .returned (.tuple #[.agg #[.int .i64 f.n, .int .i64 f.i, .int .i64 f.s, .bool f.g], .bool q]) ∧ Below w.heap.size w w' := by
  have := sev_any s hs w hp
  rw [hv] at this
  exact this
theorem boxed_below {W W' : World} {B : Nat} {t : TypeId} {v : Value} (h : Boxed W B t v) (hb : Below W.heap.size W W') : Boxed W' B t v := (hb.block B h.lt).trans h
theorem keeps_below {W W' : World} (hb : Below W.heap.size W W') : KeepsOthers W W' := ⟨hb.size, fun k _ hk _ => (hb.block k (Array.getElem?_eq_some_iff.1 hk).1).trans hk⟩
theorem deferred_set {W : World} {D B : Nat} {t : TypeId} {v u : Value} (h : W.heap[D]? = some (.deferred (some []))) (hb : Boxed W B t v) : (W.setCell ⟨B, 0, none⟩ u).heap[D]? = some (.deferred (some [])) := by
  have hne : D ≠ B := fun e => by
    subst e
    rw [show W.heap[D]? = _ from hb] at h
    cases h
  exact (Below.heap_setCell _ _ _ _ (fun e => hne e)).trans h
theorem boxed_put {W : World} {D B : Nat} {t : TypeId} {v : Value} (h : Boxed W B t v) (hK : W.heap[D]? = some (.deferred (some []))) (o : Obj) : Boxed (W.putObj D o) B t v :=
  h.kept (grownBy_putObj' W D o) (fun e => by
    cases e
    rw [show W.heap[D]? = _ from h] at hK
    cases hK)
/-- what scriptEvents answers -/
def Sevs (T : List UInt8) (w : World) (e : Ending) (W' : World) : Prop :=
  (∃ v, e = .returned (.tuple #[v, .nilIface]) ∧ (∀ y ∈ lnsK (cutL 10 T) (lnM (cutL 10 T)), good y) ∧ W'.ownsRow w.heap.size 31 4 v (lnM (cutL 10 T)) (fl (evs (lnsK (cutL 10 T) (lnM (cutL 10 T))))) ∧ Below w.heap.size w W') ∨
  (∃ pre y r, lnsK (cutL 10 T) (lnM (cutL 10 T)) = pre ++ [y] ++ r ∧ (∀ z ∈ pre, good z) ∧ ¬ good y ∧ e = .returned (.tuple #[.slice none 0 0, .iface 40 (.agg #[.int .i64 ((y.1 : Int) + 1)])]) ∧ Below w.heap.size w W')
set_option maxRecDepth 100000 in
set_option maxHeartbeats 4000000 in
theorem sevs_in (n : Nat) (hn : 3 ≤ n) (T : List UInt8) (hT : T.length ≤ 4000) (w : World) (hp : Pst w) (h2w : 2 < w.heap.size) :
    CallsIn Fence.wide n Tryz.prog 12 #[.string (bs T)] w (Sevs T w) := by
  have h1 : 1 ≤ n := by omega
  obtain ⟨i0, hi, hz0, hz1, hz2⟩ := info_parts info24
  obtain ⟨x, hx⟩ : ∃ x, Hid (bs T = x) := ⟨bs T, Eq.refl _⟩
  have g0 : ¬ (4000 : Int) < (x.size : Int) := by rw [← hx.out, bs_size]; omega
  rw [hx.out]
  refine callsIn_of_wp_marks Tryz.func12 rfl trivial ?_ rfl
  simp only [Tryz.ntmps12, List.size_toArray, List.length_cons, List.length_nil, Nat.reduceAdd, Nat.reduceSub, Array.replicate_succ, Array.replicate_zero, List.push_toArray, List.append_toArray, List.nil_append, List.cons_append]
  gi_wp2_with fail
  refine ⟨trivial, ?_⟩
  refine (numbered_in Fence.wide _ trivial rfl x _).mono ?_
  rintro e W0 ⟨rfl, rfl⟩
  gi_wp2_with fail
  obtain ⟨W0, hW0'⟩ : ∃ W0, (((w.alloc (.cells #[.slice none 0 0] 22)).alloc (.cells #[.nilIface] 36)).alloc (.cells #[.slice none 0 0] 22)).alloc (.cells #[.string x] 9) = W0 := ⟨_, rfl⟩
  have hW0 := hW0'.symm
  try simp only [World.size_alloc]
  rw [hW0']
  have B2 : Boxed W0 w.heap.size 22 (.slice none 0 0) := by rw [hW0]; exact (((Boxed.new w 22 (.slice none 0 0)).alloc _).alloc _).alloc _
  have B3 : Boxed W0 (w.heap.size + 1) 36 .nilIface := by
    rw [hW0]
    have := Boxed.new (w.alloc (.cells #[.slice none 0 0] 22)) 36 .nilIface
    rw [World.size_alloc] at this
    exact (this.alloc _).alloc _
  have B4 : Boxed W0 (w.heap.size + 1 + 1) 22 (.slice none 0 0) := by
    rw [hW0]
    have := Boxed.new ((w.alloc (.cells #[.slice none 0 0] 22)).alloc (.cells #[.nilIface] 36)) 22 (.slice none 0 0)
    rw [World.size_alloc, World.size_alloc] at this
    exact this.alloc _
  have BT : Boxed W0 (w.heap.size + 1 + 1 + 1) 9 (.string x) := by
    rw [hW0]
    have := Boxed.new (((w.alloc (.cells #[.slice none 0 0] 22)).alloc (.cells #[.nilIface] 36)).alloc (.cells #[.slice none 0 0] 22)) 9 (.string x)
    rw [World.size_alloc, World.size_alloc, World.size_alloc] at this
    exact this
  have hB0 : Below w.heap.size w W0 := by rw [hW0]; exact balloc _ (balloc _ (balloc _ (balloc _ (Below.refl _ _))))
  have hsz : W0.heap.size = w.heap.size + 1 + 1 + 1 + 1 := by rw [hW0]; simp
  clear hW0 hW0'
  obtain ⟨m, hm⟩ := hp.m
  have hm0 := (hB0.cell (p := ⟨2, 0, none⟩) h2w).trans hm
  have hseq : SeqStopsK Fence.wide (n - 1) Tryz.prog 25 #[.pointer (some ⟨w.heap.size + 1 + 1 + 1, 0, none⟩)] (fun y : Nat × List UInt8 => #[.int .i64 ((y.1 : Int) + 1), .string (bs (y.2.take 4001))]) (Below w.heap.size) (fun ys => ys = lnsK (cutL 10 T) (lnM (cutL 10 T))) (fun pre => ∃ r, lnsK (cutL 10 T) (lnM (cutL 10 T)) = pre ++ r) 4002 W0 := by
    intro l J Jx W hW hJ hJx hY h0
    refine num1_in (n - 1) l _ w.heap.size T W0 hT hB0.size m h2w hm0 (by rw [BT.cell, hx.out]) BT.lt J Jx W hW hJ ?_ h0
    intro pre y W1 hy hJ1 hl1
    have := hY pre y W1 hJ1 hl1
    dsimp only at this
    rw [List.take_of_length_le hy] at this
    exact this
  refine wpIn_rangeFunc_ownH rfl h1 (gf := 25) (lb := #[.pointer (some ⟨w.heap.size + 1 + 1 + 1, 0, none⟩)]) rfl trivial (enters_of Tryz.func25 (by kernel_rfl) rfl) hseq belowK_t (belowK_b (by omega)) (Below.refl _ _) (fun _ => rfl)
    (fun pre W => ((∃ v, Boxed W (w.heap.size + 1 + 1) 22 v ∧ W.ownsRow w.heap.size 31 4 v pre.length (fl (evs pre)) ∧ True) ∧ Boxed W w.heap.size 22 (.slice none 0 0) ∧ Boxed W (w.heap.size + 1) 36 .nilIface ∧ (∀ y ∈ pre, good y)) ∧ Below w.heap.size w W)
    (fun c pre W => (c = .ret ∧ ∃ p y, pre = p ++ [y] ∧ (∀ z ∈ p, good z) ∧ ¬ good y ∧ Boxed W w.heap.size 22 (.slice none 0 0) ∧ Boxed W (w.heap.size + 1) 36 (.iface 40 (.agg #[.int .i64 ((y.1 : Int) + 1)]))) ∧ Below w.heap.size w W)
    ?ownI ?ownX
    ⟨⟨⟨_, B4, World.ownsRow_nil _ _ _ _, trivial⟩, B2, B3, fun y hy => by simp at hy⟩, hB0⟩
    (fun y a' W => a' = { tmps := #[.string x, undef, .pointer (some ⟨w.heap.size, 0, none⟩), .pointer (some ⟨w.heap.size + 1, 0, none⟩), .pointer (some ⟨w.heap.size + 1 + 1, 0, none⟩), .int .i64 ((y.1 : Int) + 1), .string (bs (y.2.take 4001)), undef, undef, .string x, .int .i64 (x.size : Int), .bool false, undef, .string x, .func (.func 25) #[] #[.pointer (some ⟨w.heap.size + 1 + 1 + 1, 0, none⟩)], .int .i64 ((y.1 : Int) + 1), .string (bs (y.2.take 4001)), undef, undef, undef, undef, undef, undef, undef, undef, undef, undef, undef, undef, undef, undef, undef], defers := [] })
    (fun y a' _ X Y row hs hg hr => hs)
    ?assign ?body ?done ?stop
  case ownI =>
    refine OwnFrom.and ?_ (ownFrom_below (Nat.le_refl _) (by omega))
    refine OwnFrom.and (Own.from (holdsRow_own w.heap.size (w.heap.size + 1 + 1) 22 31 4 (fun pre => pre.length) (fun pre => fl (evs pre)) (fun _ _ => True)) _) ?_
    refine OwnFrom.and (Own.from (boxed_own _ _ _) _) (OwnFrom.and (Own.from (boxed_own _ _ _) _) (ownFrom_pure _ _))
  case ownX =>
    intro c
    refine OwnFrom.and ?_ (ownFrom_below (Nat.le_refl _) (by omega))
    rintro s X Y row ⟨hc, p, y, e1, e2, e3, e4, e5⟩ hg hr
    exact ⟨hc, p, y, e1, e2, e3, boxed_own (β := Unit) _ _ (fun _ => _) () X Y row e4 hg (fun r e => (hr r e).2), boxed_own (β := Unit) _ _ (fun _ => _) () X Y row e5 hg (fun r e => (hr r e).2)⟩
  case assign =>
    rintro l pre y W K hI hK
    gi_wp2
    exact hK _ _ ((KeepsOthers.refl _).from _) (Below.refl _ W) hI rfl
  case body =>
    rintro l pre y a' W hl ⟨r, hr⟩ ⟨⟨⟨v, hv, hrow, _⟩, hb2, hb3, hall⟩, hB⟩ rfl hlt
    obtain ⟨f, hf⟩ : ∃ f, (sevP (y.2.take 4001)).1 = f := ⟨_, rfl⟩
    obtain ⟨q, hq⟩ : ∃ q, (sevP (y.2.take 4001)).2 = q := ⟨_, rfl⟩
    have hsv : Hid (sevP (y.2.take 4001) = (f, q)) := by unfold Hid; rw [← hf, ← hq]
    have hls : (bs (y.2.take 4001)).size ≤ 1048576 := by rw [bs_size, List.length_take]; omega
    have hC := fun q' (e : q = q') => sev_lit (bs (y.2.take 4001)) f q' hls (by subst e; exact hsv.out) W (hp.below hB)
    generalize bs (y.2.take 4001) = xl at *
    cases q
    · have hng : ¬ good y := by unfold good; rw [hq]; simp
      have hC0 := hC false rfl
      clear hC hsv
      gi_wp2_with fail
      refine ⟨trivial, by simp [Fence.wide], ?_⟩
      refine (CallsIn.inRound l (callsIn_wide.2 hC0)).mono ?_
      rintro e W1 ⟨rfl, b1⟩
      have k2 := (boxed_below hb2 b1).alloc (.cells #[.int .i64 f.n, .int .i64 f.i, .int .i64 f.s, .bool f.g] 31)
      have k3 := (boxed_below hb3 b1).alloc (.cells #[.int .i64 f.n, .int .i64 f.i, .int .i64 f.s, .bool f.g] 31)
      have hB1 : Below w.heap.size w (W1.alloc (.cells #[.int .i64 f.n, .int .i64 f.i, .int .i64 f.s, .bool f.g] 31)) := (hB.trans (b1.mono hB.size)).alloc (by have := hB.size; have := b1.size; omega) _
      have hk1 : KeepsOthers W (W1.alloc (.cells #[.int .i64 f.n, .int .i64 f.i, .int .i64 f.s, .bool f.g] 31)) := (keeps_below b1).trans (KeepsOthers.alloc _ _)
      have c2 := k2.cell
      have c3 := k3.cell
      have f2 := k2.frozen
      have f3 := k3.frozen
      gi_wp2_with fail
      generalize (W1.alloc (.cells #[.int .i64 f.n, .int .i64 f.i, .int .i64 f.s, .bool f.g] 31)) = W2 at *
      gi_wp2
      exact ⟨((hk1.trans (KeepsOthers.setCell _ _ _)).trans (KeepsOthers.setCell _ _ _)).from _, ⟨rfl, pre, y, rfl, hall, hng, (k2.set _).other (by omega) _, (k3.other (by omega) _).set _⟩, (hB1.setCell (p := ⟨w.heap.size, 0, none⟩) (Nat.le_refl _) _).setCell (p := ⟨w.heap.size + 1, 0, none⟩) (by show w.heap.size ≤ w.heap.size + 1; omega) _⟩
    · have hg : good y := hq
      have hC0 := hC true rfl
      have hev : evs (pre ++ [y]) = evs pre ++ [f] := by simp [evs, hf]
      clear hC hsv
      gi_wp2_with fail
      refine ⟨trivial, by simp [Fence.wide], ?_⟩
      refine (CallsIn.inRound l (callsIn_wide.2 hC0)).mono ?_
      rintro e W1 ⟨rfl, b1⟩
      have k2 := (boxed_below hb2 b1).alloc (.cells #[.int .i64 f.n, .int .i64 f.i, .int .i64 f.s, .bool f.g] 31)
      have k3 := (boxed_below hb3 b1).alloc (.cells #[.int .i64 f.n, .int .i64 f.i, .int .i64 f.s, .bool f.g] 31)
      have k4 := (boxed_below hv b1).alloc (.cells #[.int .i64 f.n, .int .i64 f.i, .int .i64 f.s, .bool f.g] 31)
      have hr1 := (own_below hrow b1).alloc (.cells #[.int .i64 f.n, .int .i64 f.i, .int .i64 f.s, .bool f.g] 31)
      have hB1 : Below w.heap.size w (W1.alloc (.cells #[.int .i64 f.n, .int .i64 f.i, .int .i64 f.s, .bool f.g] 31)) := (hB.trans (b1.mono hB.size)).alloc (by have := hB.size; have := b1.size; omega) _
      have hB1' : Below w.heap.size W (W1.alloc (.cells #[.int .i64 f.n, .int .i64 f.i, .int .i64 f.s, .bool f.g] 31)) := (b1.mono hB.size).alloc (by have := hB.size; have := b1.size; omega) _
      have hk1 : KeepsOthers W (W1.alloc (.cells #[.int .i64 f.n, .int .i64 f.i, .int .i64 f.s, .bool f.g] 31)) := (keeps_below b1).trans (KeepsOthers.alloc _ _)
      have pe : (W1.alloc (.cells #[.int .i64 f.n, .int .i64 f.i, .int .i64 f.s, .bool f.g] 31)).heap[W1.heap.size]? = some (.cells #[.int .i64 f.n, .int .i64 f.i, .int .i64 f.s, .bool f.g] 31 (0, 0)) := World.alloc_heap_new W1 _
      have hc := k4.cell
      have c0 := cell_block (o := 0) (v := .int .i64 f.n) pe rfl
      have c1 := cell_block (o := 1) (v := .int .i64 f.i) pe rfl
      have c2 := cell_block (o := 2) (v := .int .i64 f.s) pe rfl
      have c3 := cell_block (o := 3) (v := .bool f.g) pe rfl
      clear pe hrow hb2 hb3 hv b1
      have hnc : ∀ j u, (fl [f])[j]? = some u → ((W1.alloc (.cells #[.int .i64 f.n, .int .i64 f.i, .int .i64 f.s, .bool f.g] 31)).alloc (.cells #[.int .i64 f.n, .int .i64 f.i, .int .i64 f.s, .bool f.g] 31)).cell? ((⟨W1.heap.size + 1, 0, none⟩ : Addr).add j) = some u := by
        have := new_cells (W1.alloc (.cells #[.int .i64 f.n, .int .i64 f.i, .int .i64 f.s, .bool f.g] 31)) f
        rw [World.size_alloc] at this
        exact this
      gi_wp2_with (gi_at_builtin; refine wpListIn_append_own _ rfl _ _ 22 rfl w.heap.size 31 i0 (.agg #[.int .i64 0, .int .i64 0, .int .i64 0, .bool false]) 4 32 Tryz.underlying22 hi hz0 hz1 hz2 rfl (by decide) _ _ _ rfl (hr1.alloc _) ⟨W1.heap.size + 1, 0, none⟩ 1 1 (fl [f]) rfl rfl hnc (fl_one f) (by unfold maxLen; omega) (by omega) (by have := hB1.size; simp at this ⊢; omega) ?_; intro v' w1 hown' hgrow _; obtain ⟨g', cap', rfl⟩ := ownsRow_succ hown'; obtain ⟨hv1, hv2, hr2, hk2, hb2⟩ := k4.appended (by decide) hr1 hB1.size (by omega) hown' hgrow; have hc1 := hv1.cell; have hf1 := hv1.frozen)
      exact ⟨(hk1.trans hk2).from _, hB1'.trans hb2, ⟨⟨_, hv2, by rw [hev, fl_append]; simpa using hr2, trivial⟩, (((k2.alloc _).kept hgrow (k2.not_row (by decide) hr1)).other (by omega) _), (((k3.alloc _).kept hgrow (k3.not_row (by decide) hr1)).other (by omega) _), fun z hz => by
        rcases List.mem_append.1 hz with h | h
        · exact hall z h
        · simp only [List.mem_cons, List.not_mem_nil, or_false] at h
          rw [h]
          exact hg⟩, hB1.trans hb2⟩
  case done =>
    rintro D ys W hD rfl ⟨⟨⟨v, hv, hrow, _⟩, hb2, hb3, hall⟩, hB⟩ hK
    obtain ⟨v, hvv⟩ : ∃ u, u = v := ⟨_, rfl⟩
    obtain ⟨ao, nn, cp, rfl⟩ : ∃ ao nn cp, v = .slice ao nn cp := by
      rw [hvv]
      rcases hrow.2 with ⟨h, _⟩ | ⟨g, cap, cur, h, _⟩
      · exact ⟨_, _, _, h⟩
      · exact ⟨_, _, _, h⟩
    subst hvv
    have hc := hv.cell
    have c2 := hb2.cell
    have c3 := hb3.cell
    have f2 := hb2.frozen
    have f3 := hb3.frozen
    have hK2 : (((W.setCell ⟨w.heap.size, 0, none⟩ (.slice ao nn cp)).setCell ⟨w.heap.size + 1, 0, none⟩ .nilIface)).heap[D]? = some (.deferred (some [])) := deferred_set (deferred_set hK hb2) (hb3.other (by omega) (.slice ao nn cp))
    have r2 : Boxed ((W.setCell ⟨w.heap.size, 0, none⟩ (.slice ao nn cp)).setCell ⟨w.heap.size + 1, 0, none⟩ .nilIface) w.heap.size 22 (.slice ao nn cp) := (hb2.set _).other (by omega) _
    have r3 : Boxed ((W.setCell ⟨w.heap.size, 0, none⟩ (.slice ao nn cp)).setCell ⟨w.heap.size + 1, 0, none⟩ .nilIface) (w.heap.size + 1) 36 .nilIface := (hb3.other (by omega) _).set _
    have ro : ((W.setCell ⟨w.heap.size, 0, none⟩ (.slice ao nn cp)).setCell ⟨w.heap.size + 1, 0, none⟩ .nilIface).ownsRow w.heap.size 31 4 (.slice ao nn cp) (lnM (cutL 10 T)) (fl (evs (lnsK (cutL 10 T) (lnM (cutL 10 T))))) := by
      have h1 := hrow.kept (grownBy_setCell' W w.heap.size (.slice ao nn cp)) (.inr (hb2.not_row (by decide) hrow).symm)
      have h2 := h1.kept (grownBy_setCell' (W.setCell ⟨w.heap.size, 0, none⟩ (.slice ao nn cp)) (w.heap.size + 1) .nilIface) (.inr ((hb3.other (by omega) (.slice ao nn cp)).not_row (by decide) h1).symm)
      simpa [lnsK_len] using h2
    have rb : Below w.heap.size w ((W.setCell ⟨w.heap.size, 0, none⟩ (.slice ao nn cp)).setCell ⟨w.heap.size + 1, 0, none⟩ .nilIface) := (hB.setCell (p := ⟨w.heap.size, 0, none⟩) (Nat.le_refl _) _).setCell (p := ⟨w.heap.size + 1, 0, none⟩) (by show w.heap.size ≤ w.heap.size + 1; omega) _
    clear hb2 hb3 hrow hK hB
    gi_wp2
    refine ⟨by simp, .inl ⟨_, _, rfl, run_takeDeferred hK2, ?_⟩⟩
    generalize ((W.setCell ⟨w.heap.size, 0, none⟩ (.slice ao nn cp)).setCell ⟨w.heap.size + 1, 0, none⟩ .nilIface) = W5 at *
    have c5 := (boxed_put r2 hK2 (.deferred none)).cell
    have c6 := (boxed_put r3 hK2 (.deferred none)).cell
    exact ⟨.tuple #[.slice ao nn cp, .nilIface], by simp [results, Tryz.results12, go_sem, c5, c6], .inl ⟨_, rfl, hall, ownsRow_putObj ro _ hK2 rfl, rb.trans (belowK_b (w := w) (Nat.le_refl _) W5 D _ _ (by omega) hK2 rfl rfl)⟩⟩
  case stop =>
    rintro D c pre W hD ⟨r, hr⟩ ⟨⟨rfl, p, y, rfl, e2, e3, e4, e5⟩, hB⟩ hK
    gi_wp2
    refine ⟨by simp, .inl ⟨_, _, rfl, run_takeDeferred hK, ?_⟩⟩
    have c5 := (boxed_put e4 hK (.deferred none)).cell
    have c6 := (boxed_put e5 hK (.deferred none)).cell
    exact ⟨.tuple #[.slice none 0 0, .iface 40 (.agg #[.int .i64 ((y.1 : Int) + 1)])], by simp [results, Tryz.results12, go_sem, c5, c6], .inr ⟨p, y, r, hr, e2, e3, rfl, hB.trans (belowK_b (w := w) (Nat.le_refl _) W D _ _ (by omega) hK rfl rfl)⟩⟩
end Go.Proofs.YtlebggbbhkiokaaGreatDoor
