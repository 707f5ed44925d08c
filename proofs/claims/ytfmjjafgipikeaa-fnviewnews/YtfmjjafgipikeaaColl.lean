/- What an iterator of news hands over, collected: slices.AppendSeq and slices.Collect, for whatever iterator keeps to its contract. -/
import Derived.RangeFuncNested
import Derived.RangeFuncBound
import Derived.RangeFuncCalls
import Derived.RangeFuncLeaves
import Derived.Shelf.Abstract
import Derived.Shelf.RegionOpen
import Derived.WalkKit
import Derived.OwnWalkIn
import Derived.TacticsInMore
import Derived.LoopNIn
import Derived.LoopIn
import Derived.Maps.AppendAt
import Derived.Test.YtfmjjafgipikeaaSView
namespace Go.Proofs.Ytfmjjafgipikeaa.W
open Go.RowKit Go.Shelf
attribute [local go_sem] Oper.semAt_some
/-- a block that holds one of the news -/
def Lies (W : World) (B : Nat) (f : It) : Prop := W.heap[B]? = some (.cells #[.int .i64 f.n, .int .i64 f.i, .int .i64 f.s, .bool f.g, .int .i64 f.l] 32 (0, 0))
theorem lies_own (B : Nat) (f : It) : Own (fun (_ : Unit) W => Lies W B f) := by
  rintro s X Y row h hg hrow
  refine (hg.block B (Array.getElem?_eq_some_iff.1 h).1 (fun e => ?_)).trans h
  obtain ⟨o, ho, hc⟩ := hrow B e.symm
  rw [show X.heap[B]? = _ from h] at ho
  cases ho
  cases hc
theorem Lies.alloc {W : World} {B : Nat} {f : It} (h : Lies W B f) (o : Obj) : Lies (W.alloc o) B f := (Below.heap_alloc W o B (Array.getElem?_eq_some_iff.1 h).1).trans h
theorem Lies.c0 {W : World} {B : Nat} {f : It} (h : Lies W B f) : W.cell? ⟨B, 0, none⟩ = some (.int .i64 f.n) := by simp [World.cell?, show W.heap[B]? = _ from h]
theorem Lies.c1 {W : World} {B : Nat} {f : It} (h : Lies W B f) : W.cell? ⟨B, 1, none⟩ = some (.int .i64 f.i) := by simp [World.cell?, show W.heap[B]? = _ from h]
theorem Lies.c2 {W : World} {B : Nat} {f : It} (h : Lies W B f) : W.cell? ⟨B, 2, none⟩ = some (.int .i64 f.s) := by simp [World.cell?, show W.heap[B]? = _ from h]
theorem Lies.c3 {W : World} {B : Nat} {f : It} (h : Lies W B f) : W.cell? ⟨B, 3, none⟩ = some (.bool f.g) := by simp [World.cell?, show W.heap[B]? = _ from h]
theorem Lies.c4 {W : World} {B : Nat} {f : It} (h : Lies W B f) : W.cell? ⟨B, 4, none⟩ = some (.int .i64 f.l) := by simp [World.cell?, show W.heap[B]? = _ from h]
theorem new_cells (W : World) (x : It) : ∀ j u, (fl [x])[j]? = some u → (W.alloc (.cells #[.int .i64 x.n, .int .i64 x.i, .int .i64 x.s, .bool x.g, .int .i64 x.l] 32)).cell? ((⟨W.heap.size, 0, none⟩ : Addr).add j) = some u := by
  intro j u hu
  have hb : Lies (W.alloc (.cells #[.int .i64 x.n, .int .i64 x.i, .int .i64 x.s, .bool x.g, .int .i64 x.l] 32)) W.heap.size x := World.alloc_heap_new W _
  have hj : j < 5 := by
    have := (List.getElem?_eq_some_iff.1 hu).1
    simpa [fl] using this
  match j, hj with
  | 0, _ => exact hb.c0.trans (by simpa [fl] using hu)
  | 1, _ => exact hb.c1.trans (by simpa [fl] using hu)
  | 2, _ => exact hb.c2.trans (by simpa [fl] using hu)
  | 3, _ => exact hb.c3.trans (by simpa [fl] using hu)
  | 4, _ => exact hb.c4.trans (by simpa [fl] using hu)
set_option maxRecDepth 100000 in
set_option maxHeartbeats 4000000 in
theorem appendSeq_in (F : Fence) (n : Nat) (h41 : F.fn 41) (gf : Nat) (hgf : F.fn gf) (eg : ∀ args w, (callFunc gf args).run Try.prog w = .ok (.enter gf args) w) (lb : Array Value) (hro : F.round = none) (hn : 3 ≤ n) (xs : List It) (Sp : List It → Prop) (N : Nat) (hN : N ≤ 1048576) (w : World)
    (hseq : SeqStopsK F (n - 1) Try.prog gf lb (fun x : It => #[.agg #[.int .i64 x.n, .int .i64 x.i, .int .i64 x.s, .bool x.g, .int .i64 x.l]]) (Below w.heap.size) (fun ys => ys = xs) Sp N w) :
    CallsIn F n Try.prog 41 #[.slice none 0 0, .func (.func gf) #[] lb] w fun e W' => ∃ v, e = .returned v ∧ W'.ownsRow w.heap.size 32 5 v xs.length (fl xs) ∧ Below w.heap.size w W' := by
  have h1 : 1 ≤ n := by omega
  obtain ⟨i0, hi, hz0, hz1, hz2⟩ := info_parts info78
  refine callsIn_of_wp_marks Try.func41 rfl h41 ?_ hro
  simp only [Try.ntmps41, List.size_toArray, List.length_cons, List.length_nil, Nat.reduceAdd, Nat.reduceSub, Array.replicate_succ, Array.replicate_zero, List.push_toArray, List.append_toArray, List.nil_append, List.cons_append]
  gi_wp2
  have bO := Boxed.new w 26 (.slice none 0 0)
  have hB0 : Below w.heap.size w (w.alloc (.cells #[.slice none 0 0] 26)) := (Below.refl _ w).alloc (Nat.le_refl _) _
  have hsz : (w.alloc (.cells #[.slice none 0 0] 26)).heap.size = w.heap.size + 1 := by simp
  obtain ⟨W0, hW0⟩ : ∃ W0, w.alloc (.cells #[.slice none 0 0] 26) = W0 := ⟨_, rfl⟩
  rw [hW0] at bO hB0 hsz ⊢
  clear hW0
  refine wpIn_rangeFunc_ownH hro h1 (gf := gf) (lb := lb) rfl hgf eg hseq belowK_t (belowK_b (by omega)) hB0 (fun _ => rfl)
    (fun pre W => (∃ v, Boxed W w.heap.size 26 v ∧ W.ownsRow w.heap.size 32 5 v pre.length (fl pre) ∧ True) ∧ Below w.heap.size w W)
    (fun _ _ _ => False)
    (OwnFrom.and (Own.from (holdsRow_own w.heap.size w.heap.size 26 32 5 (fun pre => pre.length) (fun pre => fl pre) (fun _ _ => True)) _) (ownFrom_below (Nat.le_refl _) (by omega)))
    (fun _ _ _ _ _ hs _ _ => hs)
    ⟨⟨_, bO, World.ownsRow_nil _ _ _ _, trivial⟩, hB0⟩
    (fun x a' W => ∃ Bx, w.heap.size < Bx ∧ Lies W Bx x ∧ a' = { tmps := #[.slice none 0 0, .func (.func gf) #[] lb, .pointer (some ⟨w.heap.size, 0, none⟩), undef, .slice none 0 0, .pointer (some ⟨Bx, 0, none⟩), .func (.func gf) #[] lb, Value.agg #[.int .i64 x.n, .int .i64 x.i, .int .i64 x.s, .bool x.g, .int .i64 x.l], undef, undef, undef, undef, undef], defers := [] })
    (fun x a' _ X Y row hs hg hr => by obtain ⟨Bx, h1, h2, h3⟩ := hs; exact ⟨Bx, h1, lies_own Bx x () X Y row h2 hg (fun r e => (hr r e).2), h3⟩)
    ?assign ?body ?done ?stop
  case assign =>
    rintro l pre x W K ⟨⟨v, hv, hrow, _⟩, hB⟩ hK
    gi_wp2
    exact hK _ _ ((KeepsOthers.alloc _ _).from _) ((Below.refl _ W).alloc hB.size _) ⟨⟨v, hv.alloc _, hrow.alloc _, trivial⟩, hB.alloc hB.size _⟩ ⟨W.heap.size, hv.lt, World.alloc_heap_new W _, rfl⟩
  case body =>
    rintro l pre x a' W hl ⟨r, hr⟩ ⟨⟨v, hv, hrow, _⟩, hB⟩ ⟨Bx, hBx, hx, rfl⟩ hlt
    have hc := hv.cell
    have c0 := hx.c0
    have c1 := hx.c1
    have c2 := hx.c2
    have c3 := hx.c3
    have c4 := hx.c4
    gi_wp2_with (gi_at_builtin; refine wpListIn_append_own _ rfl _ _ 26 rfl w.heap.size 32 i0 (.agg #[.int .i64 0, .int .i64 0, .int .i64 0, .bool false, .int .i64 0]) 5 40 Try.underlying26 hi hz0 hz1 hz2 rfl (by decide) _ _ _ rfl (hrow.alloc _) ⟨W.heap.size, 0, none⟩ 1 1 (fl [x]) rfl rfl (new_cells W x) fl_one (by unfold maxLen; omega) (by omega) (by have := hB.size; simp; omega) ?_; intro v' w1 hown' hgrow _; obtain ⟨g', cap', rfl⟩ := ownsRow_succ hown'; obtain ⟨hv1, hv2, hr2, hk2, hb2⟩ := hv.appended (by decide) hrow hB.size (Nat.le_refl _) hown' hgrow; have hc1 := hv1.cell; have hf1 := hv1.frozen)
    exact ⟨hk2.from _, hb2, ⟨_, hv2, by rw [fl_append]; simpa using hr2, trivial⟩, hB.trans hb2⟩
  case done =>
    rintro D ys W hD rfl ⟨⟨v, hv, hrow, _⟩, hB⟩ hK
    have hc := hv.cell
    gi_wp2
    refine ⟨by simp, .inl ⟨_, _, rfl, run_takeDeferred hK, ?_⟩⟩
    exact ⟨_, results_tmp rfl _ _ _, v, rfl, ownsRow_putObj hrow _ hK rfl, hB.trans (belowK_b (w := w) (Nat.le_refl _) W D _ _ (by omega) hK rfl rfl)⟩
  case stop =>
    rintro D c pre W _ _ h _
    exact h.elim
set_option maxRecDepth 100000 in
set_option maxHeartbeats 4000000 in
theorem collect_in (F : Fence) (n : Nat) (h25 : F.fn 25) (h41 : F.fn 41) (gf : Nat) (hgf : F.fn gf) (eg : ∀ args w, (callFunc gf args).run Try.prog w = .ok (.enter gf args) w) (lb : Array Value) (hro : F.round = none) (hn : 4 ≤ n) (xs : List It) (Sp : List It → Prop) (N : Nat) (hN : N ≤ 1048576) (w : World)
    (hseq : SeqStopsK F (n - 1 - 1) Try.prog gf lb (fun x : It => #[.agg #[.int .i64 x.n, .int .i64 x.i, .int .i64 x.s, .bool x.g, .int .i64 x.l]]) (Below w.heap.size) (fun ys => ys = xs) Sp N w) :
    CallsIn F n Try.prog 25 #[.func (.func gf) #[] lb] w fun e W' => ∃ v, e = .returned v ∧ W'.ownsRow w.heap.size 32 5 v xs.length (fl xs) ∧ Below w.heap.size w W' := by
  have h1 : 1 ≤ n := by omega
  refine callsIn_of_wp Try.func25 rfl h25 ?_ hro
  simp only [Try.ntmps25, List.size_toArray, List.length_cons, List.length_nil, Nat.reduceAdd, Nat.reduceSub, Array.replicate_succ, Array.replicate_zero, List.push_toArray, List.append_toArray, List.nil_append, List.cons_append]
  gi_wp2_with (gi_at_call 41; refine (appendSeq_in F (n - 1) h41 gf hgf eg lb hro (by omega) xs Sp N hN w hseq).mono ?_; rintro e w' ⟨v, rfl, hv, hb⟩)
  go_ret
  exact ⟨v, rfl, hv, hb⟩
/-- news hands back a function that has caught both lists -/
theorem news_in (F : Fence) (n : Nat) (h26 : F.fn 26) (hro : F.round = none) (a : Option Addr) (len cap : Nat) (a2 : Option Addr) (len2 cap2 : Nat) (w : World) :
    CallsIn F n Try.prog 26 #[.slice a len cap, .slice a2 len2 cap2] w fun e w' => e = .returned (.func (.func 42) #[] #[.pointer (some ⟨w.heap.size + 1, 0, none⟩), .pointer (some ⟨w.heap.size, 0, none⟩)]) ∧ w' = (w.alloc (.cells #[.slice a len cap] 23)).alloc (.cells #[.slice a2 len2 cap2] 23) := by
  refine callsIn_of_wp Try.func26 rfl h26 ?_ hro
  simp only [Try.ntmps26, List.size_toArray, List.length_cons, List.length_nil, Nat.reduceAdd, Nat.reduceSub, Array.replicate_succ, Array.replicate_zero, List.push_toArray, List.append_toArray, List.nil_append, List.cons_append]
  gi_wp2
  go_ret
  exact ⟨rfl, rfl⟩
end Go.Proofs.Ytfmjjafgipikeaa.W
