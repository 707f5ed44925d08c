/- A fact more, the model's way. -/
import Derived.Test.YtgcdcfjaeehnbaaGreatL3
import Derived.Laws.AppendOwn
import Derived.Test.YtgcdcfjaeehnbaaGreatCast
import Derived.Test.YtgcdcfjaeehnbaaGreatSort
import Derived.Maps.OwnSet
import Derived.Lib.OwnBridge
import Derived.Sort.OwnSortedInts
import Derived.Sort.LotA
namespace Go.Proofs.YtgcdcfjaeehnbaaGreat
open Go.ChangeShapes Go.WideShapes Go.ChangeAt Go.RowKit
set_option maxRecDepth 20000
set_option linter.unusedSimpArgs false
set_option maxHeartbeats 8000000
attribute [local go_sem ↓] Go.wp_at_zero Go.wp_at_succ
theorem fl_set (T : List Fc) : ∀ (j : Nat) (f : Fc), j < T.length → fl (T.set j f) = ((((fl T).set (j * 4) (.int .i64 f.n)).set (j * 4 + 1) (.int .i64 f.i)).set (j * 4 + 2) (.int .i64 f.s)).set (j * 4 + 3) (.bool f.g) := by
 induction T with
 | nil => intro j f h; simp at h
 | cons g r ih =>
  intro j f h
  have e : ∀ (g : Fc) (r : List Fc), fl (g :: r) = .int .i64 g.n :: .int .i64 g.i :: .int .i64 g.s :: .bool g.g :: fl r := fun g r => by simp [fl]
  match j, h with
  | 0, _ => rw [List.set_cons_zero, e, e]; rfl
  | j + 1, h =>
   rw [List.set_cons_succ, e, e, ih j f (by simpa using h), show (j + 1) * 4 = j * 4 + 4 by omega]
   rfl
theorem l3L_lit (f g : Fc) (q : Bool) (w : World) (h : ovr f g = q) :
  Calls Tryz.prog 141 #[.agg #[.int .i64 f.n, .int .i64 f.i, .int .i64 f.s, .bool f.g], .agg #[.int .i64 g.n, .int .i64 g.i, .int .i64 g.s, .bool g.g]] w fun r w' => r = .returned (.bool q) ∧ Below w.heap.size w w' :=
 (l3_any _ _ _ _ _ _ _ _ w).mono (by rintro r w' ⟨rfl, o1, o2, rfl⟩; exact ⟨by rw [← h]; rfl, balloc _ (balloc _ (Below.refl _ _))⟩)
theorem l3_no (b off len cap : Nat) (F : Nat → Fc) (f : Fc) (j : Nat) (w : World) (hf : FactsIn w b off len F) (hbl : b < w.heap.size) (hl : len ≤ 1048576) (hj : j < len) (hjn : (F j).n = f.n) (hno : ∀ k, k < j → (F k).n ≠ f.n) (ho : Hid (ovr f (F j) = false)) :
  Calls Tryz.prog 191 #[.slice (some ⟨b, off, none⟩) len cap, fval f] w fun e w' => e = .returned (.tuple #[.slice (some ⟨b, off, none⟩) len cap, .bool false]) ∧ Below w.heap.size w w' := by
 go_enter Tryz.func191, Tryz.ntmps191
 go_wp2_with fail
 have p0 : (w.alloc (.cells #[.int .i64 f.n, .int .i64 f.i, .int .i64 f.s, .bool f.g] 96)).heap[w.heap.size]? = some (.cells #[.int .i64 f.n, .int .i64 f.i, .int .i64 f.s, .bool f.g] 96 (0, 0)) := heap_alloc_new _ _
 have B0 : Below w.heap.size w (w.alloc (.cells #[.int .i64 f.n, .int .i64 f.i, .int .i64 f.s, .bool f.g] 96)) := balloc _ (Below.refl _ _)
 generalize (w.alloc (.cells #[.int .i64 f.n, .int .i64 f.i, .int .i64 f.s, .bool f.g] 96)) = W0 at *
 refine (findO_any _ len cap F f.n _ (fun _ => ⟨b, off, rfl, by have := B0.size; omega, hf.below B0 hbl⟩) hl).mono ?_
 rintro r w0 ⟨r0, rfl, hF, hw⟩
 obtain rfl := hw.symm
 obtain rfl : r0 = (j : Int) := by
  rcases hF with ⟨_, h⟩ | ⟨i, hi, rfl, e, h⟩
  ·exact absurd hjn (h j hj)
  ·have h1 : ¬ i < j := fun hh => hno i hh e
   have h2 : ¬ j < i := fun hh => h j hh hjn
   omega
 clear hF hw hjn hno
 obtain ⟨d0, d1, d2, d3⟩ := (hf.below B0 hbl) j hj
 have e0 : W0.cell? ⟨w.heap.size, 0, none⟩ = some (.int .i64 f.n) := cell_block (o := 0) p0 rfl
 have e1 : W0.cell? ⟨w.heap.size, 1, none⟩ = some (.int .i64 f.i) := cell_block (o := 1) p0 rfl
 have e2 : W0.cell? ⟨w.heap.size, 2, none⟩ = some (.int .i64 f.s) := cell_block (o := 2) p0 rfl
 have e3 : W0.cell? ⟨w.heap.size, 3, none⟩ = some (.bool f.g) := cell_block (o := 3) p0 rfl
 have i0 : (0 : Int) ≤ (j : Int) := by omega
 have i1 : (j : Int) < (len : Int) := by omega
 go_wp2_with fail
 refine wp_region_held_drew (S := fun w' => w'.cell? ⟨w.heap.size, 0, none⟩ = some (.int .i64 f.n) ∧ w'.cell? ⟨w.heap.size, 1, none⟩ = some (.int .i64 f.i) ∧ w'.cell? ⟨w.heap.size, 2, none⟩ = some (.int .i64 f.s) ∧ w'.cell? ⟨w.heap.size, 3, none⟩ = some (.bool f.g) ∧ w'.cell? ⟨b, off + j * 4, none⟩ = some (.int .i64 (F j).n) ∧ w'.cell? ⟨b, off + j * 4 + 1, none⟩ = some (.int .i64 (F j).i) ∧ w'.cell? ⟨b, off + j * 4 + 2, none⟩ = some (.int .i64 (F j).s) ∧ w'.cell? ⟨b, off + j * 4 + 3, none⟩ = some (.bool (F j).g)) (by kernel_rfl) ?_ (fun hHeld => ?_)
 ·(try dsimp only); (refine ⟨?_, ?_, ?_, ?_, ?_, ?_, ?_, ?_⟩ <;> (repeat (first | with_reducible assumption | with_reducible refine keep_drew ?_ | with_reducible refine keep_below (by assumption) ?_)))
 refine tlT (i := 0) rfl ?_; refine tlT (i := 1) rfl ?_; refine tlT (i := 2) rfl ?_; refine tlT (i := 3) rfl ?_; refine tlT (i := 4) rfl ?_
 refine wpAnyH_ready (rs := [5]) (by kernel_rfl) (by simp) ?_
 refine AllReadyH.cons (o := _) rfl (fun K hK => ?_) AllReadyH.nil
 go_simp
 refine (l3L_lit f (F j) false _ ho.out).mono ?_; rintro e w1 ⟨rfl, b1⟩
 go_wp2_with fail
 refine hK.out _ _ ?_ (fun hHeld => ?_)
 ·(try dsimp only); (refine ⟨?_, ?_, ?_, ?_, ?_, ?_, ?_, ?_⟩ <;> (repeat (first | with_reducible assumption | with_reducible refine keep_drew ?_ | with_reducible refine keep_below (by assumption) ?_)))
 clear hK K
 (try simp only [putP]); refine tlT (i := 6) rfl ?_
 refine wpAnyH_done (by kernel_rfl) ?_ _
 have BB := btrans B0.drew b1
 go_wp2
 go_ret2
 exact ⟨rfl, BB⟩
theorem l3_yes (b off len cap : Nat) (F : Nat → Fc) (f : Fc) (j : Nat) (w : World) (hf : FactsIn w b off len F) (hbl : b < w.heap.size) (hl : len ≤ 1048576) (hj : j < len) (hjn : (F j).n = f.n) (hno : ∀ k, k < j → (F k).n ≠ f.n) (ho : Hid (ovr f (F j) = true)) :
  Calls Tryz.prog 191 #[.slice (some ⟨b, off, none⟩) len cap, fval f] w fun e w' => ∃ v' c', e = .returned (.tuple #[.slice v' len c', .bool true]) ∧ w'.ownsRow w.heap.size 96 4 (.slice v' len c') len (fl ((seqF F len).set j f)) ∧ Below w.heap.size w w' := by
 go_enter Tryz.func191, Tryz.ntmps191
 go_wp2_with fail
 have p0 : (w.alloc (.cells #[.int .i64 f.n, .int .i64 f.i, .int .i64 f.s, .bool f.g] 96)).heap[w.heap.size]? = some (.cells #[.int .i64 f.n, .int .i64 f.i, .int .i64 f.s, .bool f.g] 96 (0, 0)) := heap_alloc_new _ _
 have B0 : Below w.heap.size w (w.alloc (.cells #[.int .i64 f.n, .int .i64 f.i, .int .i64 f.s, .bool f.g] 96)) := balloc _ (Below.refl _ _)
 generalize (w.alloc (.cells #[.int .i64 f.n, .int .i64 f.i, .int .i64 f.s, .bool f.g] 96)) = W0 at *
 refine (findO_any _ len cap F f.n _ (fun _ => ⟨b, off, rfl, by have := B0.size; omega, hf.below B0 hbl⟩) hl).mono ?_
 rintro r w0 ⟨r0, rfl, hF, hw⟩
 obtain rfl := hw.symm
 obtain rfl : r0 = (j : Int) := by
  rcases hF with ⟨_, h⟩ | ⟨i, hi, rfl, e, h⟩
  ·exact absurd hjn (h j hj)
  ·have h1 : ¬ i < j := fun hh => hno i hh e
   have h2 : ¬ j < i := fun hh => h j hh hjn
   omega
 clear hF hw hjn hno
 obtain ⟨d0, d1, d2, d3⟩ := (hf.below B0 hbl) j hj
 have e0 : W0.cell? ⟨w.heap.size, 0, none⟩ = some (.int .i64 f.n) := cell_block (o := 0) p0 rfl
 have e1 : W0.cell? ⟨w.heap.size, 1, none⟩ = some (.int .i64 f.i) := cell_block (o := 1) p0 rfl
 have e2 : W0.cell? ⟨w.heap.size, 2, none⟩ = some (.int .i64 f.s) := cell_block (o := 2) p0 rfl
 have e3 : W0.cell? ⟨w.heap.size, 3, none⟩ = some (.bool f.g) := cell_block (o := 3) p0 rfl
 have i0 : (0 : Int) ≤ (j : Int) := by omega
 have i1 : (j : Int) < (len : Int) := by omega
 go_wp2_with fail
 refine wp_region_held_drew (S := fun w' => w'.cell? ⟨w.heap.size, 0, none⟩ = some (.int .i64 f.n) ∧ w'.cell? ⟨w.heap.size, 1, none⟩ = some (.int .i64 f.i) ∧ w'.cell? ⟨w.heap.size, 2, none⟩ = some (.int .i64 f.s) ∧ w'.cell? ⟨w.heap.size, 3, none⟩ = some (.bool f.g) ∧ w'.cell? ⟨b, off + j * 4, none⟩ = some (.int .i64 (F j).n) ∧ w'.cell? ⟨b, off + j * 4 + 1, none⟩ = some (.int .i64 (F j).i) ∧ w'.cell? ⟨b, off + j * 4 + 2, none⟩ = some (.int .i64 (F j).s) ∧ w'.cell? ⟨b, off + j * 4 + 3, none⟩ = some (.bool (F j).g)) (by kernel_rfl) ?_ (fun hHeld => ?_)
 ·(try dsimp only); (refine ⟨?_, ?_, ?_, ?_, ?_, ?_, ?_, ?_⟩ <;> (repeat (first | with_reducible assumption | with_reducible refine keep_drew ?_ | with_reducible refine keep_below (by assumption) ?_)))
 refine tlT (i := 0) rfl ?_; refine tlT (i := 1) rfl ?_; refine tlT (i := 2) rfl ?_; refine tlT (i := 3) rfl ?_; refine tlT (i := 4) rfl ?_
 refine wpAnyH_ready (rs := [5]) (by kernel_rfl) (by simp) ?_
 refine AllReadyH.cons (o := _) rfl (fun K hK => ?_) AllReadyH.nil
 go_simp
 refine (l3L_lit f (F j) true _ ho.out).mono ?_; rintro e w1 ⟨rfl, b1⟩
 go_wp2_with fail
 refine hK.out _ _ ?_ (fun hHeld => ?_)
 ·(try dsimp only); (refine ⟨?_, ?_, ?_, ?_, ?_, ?_, ?_, ?_⟩ <;> (repeat (first | with_reducible assumption | with_reducible refine keep_drew ?_ | with_reducible refine keep_below (by assumption) ?_)))
 clear hK K
 (try simp only [putP]); refine tlT (i := 6) rfl ?_
 refine wpAnyH_done (by kernel_rfl) ?_ _
 have BB := btrans B0.drew b1
 have pb := blk_below b1 p0
 clear b1 p0 B0 d0 d1 d2 d3 e0 e1 e2 e3
 have hfW : FactsIn w1 b off len F := hf.below BB hbl
 have hbW : b < w1.heap.size := Nat.lt_of_lt_of_le hbl BB.size
 have hnews : FactsIn (w1.alloc (.cells #[] 96)) b off len (fun k => (seqF F len).getD k Fc.zero) := (fun k hk => by simp only [seqF_getD F hk]; exact hfW.alloc _ k hk)
 obtain ⟨ti, hi, hz0, hz1, hz2⟩ := info_parts info24
 go_wp2_with (at_builtin; refine wpList_append_own _ rfl _ _ 34 rfl w1.heap.size 96 ti (fval Fc.zero) 4 32 Tryz.underlying34 hi hz0 hz1 hz2 rfl (by decide) _ _ _ rfl (World.ownsRow_lit w1 #[] 0 (Nat.le_refl _) (by unfold maxLen; omega) rfl) ⟨b, off, none⟩ len cap (fl (seqF F len)) rfl (by rw [fl_len, seqF_len]) (facts_cell hnews (seqF_len F len)) fl_one ?c3 ?c4 ?c5 ?_)
 case c3 => unfold maxLen; omega
 case c4 => omega
 case c5 => simp
 ·intro v' w2 hown' hgrow hnil
  have o2 : w2.ownsRow w1.heap.size 96 4 v' len (fl (seqF F len)) := by simpa using hown'
  clear hown'
  have B2 : Below w1.heap.size w1 w2 := own_grow (balloc _ (Below.refl _ w1)) (by simp) (show (w1.alloc (.cells #[] 96)).ownsRow w1.heap.size 96 4 (.slice (some ⟨w1.heap.size, 0, none⟩) 0 0) 0 [] from World.ownsRow_lit w1 #[] 0 (Nat.le_refl _) (by unfold maxLen; omega) rfl) hgrow
  have pb2 := blk_below B2 pb
  have B3 := btrans BB B2
  rcases own_sliceF o2 with ⟨e, _⟩ | ⟨g', cap', rfl, hg1, hg2, hg3⟩
  ·exact absurd e hnil
  have q0 : w2.cell? ⟨w.heap.size, 0, none⟩ = some (.int .i64 f.n) := cell_block (o := 0) pb2 rfl
  have q1 : w2.cell? ⟨w.heap.size, 1, none⟩ = some (.int .i64 f.i) := cell_block (o := 1) pb2 rfl
  have q2 : w2.cell? ⟨w.heap.size, 2, none⟩ = some (.int .i64 f.s) := cell_block (o := 2) pb2 rfl
  have q3 : w2.cell? ⟨w.heap.size, 3, none⟩ = some (.bool f.g) := cell_block (o := 3) pb2 rfl
  obtain ⟨t0, t1, t2, t3⟩ := fl_get (seqF F len) j (by rw [seqF_len]; exact hj)
  have c0 := (o2.cellAt (j * 4) (by omega)).trans t0
  have c1 := (o2.cellAt (j * 4 + 1) (by omega)).trans t1
  have c2 := (o2.cellAt (j * 4 + 2) (by omega)).trans t2
  have c3 := (o2.cellAt (j * 4 + 3) (by omega)).trans t3
  have z0 := o2.frozenAt (j * 4)
  have z1 := o2.frozenAt (j * 4 + 1)
  have z2 := o2.frozenAt (j * 4 + 2)
  have z3 := o2.frozenAt (j * 4 + 3)
  obtain ⟨a0, b0⟩ := o2.stored (j * 4) (.int .i64 f.n)
  obtain ⟨a1, b1⟩ := a0.stored (j * 4 + 1) (.int .i64 f.i)
  obtain ⟨a2, b2⟩ := a1.stored (j * 4 + 2) (.int .i64 f.s)
  obtain ⟨a3, b3⟩ := a2.stored (j * 4 + 3) (.bool f.g)
  rw [← fl_set (seqF F len) j f (by rw [seqF_len]; exact hj)] at a3
  have gg := grown_trans (grown_trans (grown_trans b0 b1) b2) b3
  have B4 := B3.grown gg B3.size (fun k hk => by simp only [Option.some.injEq] at hk; have := BB.size; omega)
  clear a0 a1 a2 b0 b1 b2 b3 gg hgrow hnil pb pb2 hnews hfW o2 t0 t1 t2 t3 B2 B3
  go_wp2
  go_ret2
  exact ⟨_, cap', rfl, own_mono BB.size a3, B4⟩
theorem tput_set : ∀ (T : List Fc) (j : Nat) (f : Fc), Asc T → j < T.length → (T.getD j Fc.zero).n = f.n → ovr f (T.getD j Fc.zero) = true → tput T f = T.set j f
 | [], j, f, _, h, _, _ => by simp at h
 | g :: r, 0, f, _, _, h1, h2 => by
  simp at h1 h2
  unfold tput
  rw [if_neg (by omega), if_pos h1, if_pos h2]
  rfl
 | g :: r, j + 1, f, hA, h, h1, h2 => by
  obtain ⟨a1, a2⟩ := asc_cons.1 hA
  have hj : j < r.length := by simpa using h
  have e : (g :: r).getD (j + 1) Fc.zero = r.getD j Fc.zero := by simp
  rw [e] at h1 h2
  have := a1 (r.getD j Fc.zero) (by simp [List.getD, hj])
  unfold tput
  rw [if_pos (by omega), tput_set r j f a2 hj h1 h2]
  rfl
theorem l3put_any (b off len cap : Nat) (F : Nat → Fc) (f : Fc) (w : World) (hf : FactsIn w b off len F) (hbl : b < w.heap.size) (hc : len ≤ cap) (hl : len ≤ 1048576) (hasc : ∀ j k, j < k → k < len → (F j).n < (F k).n) :
  Calls Tryz.prog 191 #[.slice (some ⟨b, off, none⟩) len cap, fval f] w fun e w' => ∃ v' c' n', e = .returned (.tuple #[.slice v' n' c', .bool (tnew (seqF F len) f)]) ∧ n' = (tput (seqF F len) f).length ∧ ((v' = some ⟨b, off, none⟩ ∧ c' = cap ∧ n' = len ∧ tput (seqF F len) f = seqF F len) ∨ w'.ownsRow w.heap.size 96 4 (.slice v' n' c') n' (fl (tput (seqF F len) f))) ∧ Below w.heap.size w w' := by
 have hA := seqF_asc hasc len (Nat.le_refl _)
 by_cases hx : ∃ j, j < len ∧ (F j).n = f.n
 ·obtain ⟨j, hj, hjn⟩ := hx
  have hno : ∀ k, k < j → (F k).n ≠ f.n := fun k hk => by have := hasc k j hk hj; omega
  have hg := found_some hj hjn hno
  cases ho : ovr f (F j) with
  | false =>
   have e1 : tnew (seqF F len) f = false := by unfold tnew; rw [hg]; exact ho
   have e2 := tput_no hA hg ho
   rw [e1, e2]
   exact (l3_no b off len cap F f j w hf hbl hl hj hjn hno ho).mono (by rintro e w' ⟨rfl, hb⟩; exact ⟨_, _, _, rfl, (seqF_len F len).symm, .inl ⟨rfl, rfl, rfl, rfl⟩, hb⟩)
  | true =>
   have e1 : tnew (seqF F len) f = true := by unfold tnew; rw [hg]; exact ho
   have e2 : tput (seqF F len) f = (seqF F len).set j f := tput_set (seqF F len) j f hA (by rw [seqF_len]; exact hj) (by rw [seqF_getD F hj]; exact hjn) (by rw [seqF_getD F hj]; exact ho)
   rw [e1, e2]
   exact (l3_yes b off len cap F f j w hf hbl hl hj hjn hno ho).mono (by rintro e w' ⟨v', c', rfl, ho, hb⟩; exact ⟨_, _, _, rfl, by simp [seqF_len], .inr ho, hb⟩)
 ·have hno : ∀ k, k < len → (F k).n ≠ f.n := fun k hk e => hx ⟨k, hk, e⟩
  have hg := found_none hno
  have e1 : tnew (seqF F len) f = true := by unfold tnew; rw [hg]
  rw [e1]
  exact (l3_new b off len cap F f w hf hbl hc hl hno).mono (by rintro e w' ⟨v', c', rfl, ho, hb⟩; exact ⟨_, _, _, rfl, by rw [tput_len hg, seqF_len], .inr ho, hb⟩)
end Go.Proofs.YtgcdcfjaeehnbaaGreat
namespace Go.Proofs.YtgcdcfjaeehnbaaGreat
open Go.ChangeShapes Go.WideShapes Go.ChangeAt Go.RowKit
set_option maxRecDepth 20000
set_option maxHeartbeats 4000000
attribute [local go_sem ↓] Go.wp_at_zero Go.wp_at_succ
theorem wpList_appF {w : World} {ops : Array Oper} {rest : List Oper} {o : Oper} {a : Act} {Q : Exit → Act → World → Prop} (hgd : o.guard = none) (s x : Operand)
  (ho : o.op = .call { callee := .builtin .append, args := #[s, x], argTypes := #[34, 34] })
  (base : Nat) (v : Value) (n : Nat) (T : List Fc) (hs : a.eval s = v) (hv : v ≠ .slice none 0 0) (hown : w.ownsRow base 96 4 v n (fl T))
  (g o' : Nat) (m c : Nat) (T' : List Fc) (hx : a.eval x = .slice (some ⟨g, o', none⟩) m c) (hl : T'.length = m)
  (hnews : FactsIn w g o' m (fun k => T'.getD k Fc.zero)) (nm : Nat) (hnm : n + m = nm) (hn : nm ≤ 2000000) (hbase : base ≤ w.heap.size)
  (h : ∀ g' cap' w', w'.ownsRow base 96 4 (.slice (some ⟨g', 0, none⟩) nm cap') nm (fl (T ++ T')) → w.grownBy w' v.ownBlock → nm ≤ cap' → wpList Tryz.prog ops Q rest (a.put o.dst (.slice (some ⟨g', 0, none⟩) nm cap')) w') :
  wpList Tryz.prog ops Q (o :: rest) a w := by
 subst hnm
 obtain ⟨ti, hi, hz0, hz1, hz2⟩ := info_parts info24
 refine wpList_append_own w hgd s x 34 ho base 96 ti (fval Fc.zero) 4 32 Tryz.underlying34 hi hz0 hz1 hz2 rfl (by decide) v n (fl T) hs hown ⟨g, o', none⟩ m c (fl T') hx (by rw [fl_len, hl]) (facts_cell hnews hl) fl_one (by unfold maxLen; omega) (by omega) hbase (fun v' w' h1 h2 h3 => ?_)
 rw [← fl_append] at h1
 rcases own_sliceF h1 with ⟨e, _⟩ | ⟨g', cap', rfl, _, _, hc⟩
 ·exact absurd (h3.1 e).1 hv
 ·exact h g' cap' w' h1 h2 hc
theorem seqF_getD_self (T : List Fc) : seqF (fun k => T.getD k Fc.zero) T.length = T := by
 apply List.ext_getElem
 ·simp [seqF]
 ·intro i h1 h2
  simp [seqF, List.getD, h2]
theorem getD_asc {T : List Fc} (h : Asc T) : ∀ j k, j < k → k < T.length → (T.getD j Fc.zero).n < (T.getD k Fc.zero).n := fun j k hj hk => by
 have := List.pairwise_iff_getElem.1 h j k (by omega) hk hj
 simpa [List.getD, hk, show j < T.length by omega] using this
def tpT (len : Nat) (F : Nat → Fc) (f : Fc) : List Fc := if (tokB len F && fok f) = true then tput (seqF F len) f else []
def tpQ (len : Nat) (F : Nat → Fc) (f : Fc) : Bool := (tokB len F && fok f) && tnew (seqF F len) f
theorem fok_litT (f : Fc) (q : Bool) (w : World) (h : fok f = q) :
  Calls Tryz.prog 196 #[.agg #[.int .i64 f.n, .int .i64 f.i, .int .i64 f.s, .bool f.g]] w fun r w' => r = .returned (.bool q) ∧ Below w.heap.size w w' := h ▸ fok_below f.n f.i f.s f.g w
theorem own_emptyF (w : World) (base : Nat) (h : base ≤ w.heap.size) : (w.alloc (.cells #[] 96)).ownsRow base 96 4 (.slice (some ⟨w.heap.size, 0, none⟩) 0 0) 0 (fl []) := World.ownsRow_lit w #[] 0 h (by unfold maxLen; omega) rfl
theorem tput_ne (T : List Fc) (f : Fc) : (tput T f).length ≠ 0 := by
 cases T with
 | nil => simp [tput]
 | cons g r => unfold tput; split; simp; split; split <;> simp; simp
theorem fput_any (a : Option Addr) (len cap : Nat) (F : Nat → Fc) (f : Fc) (w : World) (h : FSl w a len F) (hl : len ≤ 1048576) :
  Calls Tryz.prog 128 #[.slice a len cap, fval f] w fun e w' => ∃ v, e = .returned (.tuple #[v, .bool (tpQ len F f)]) ∧ w'.ownsRow w.heap.size 96 4 v (tpT len F f).length (fl (tpT len F f)) ∧ Below w.heap.size w w' := by
 have p0 : (w.alloc (.cells #[.int .i64 f.n, .int .i64 f.i, .int .i64 f.s, .bool f.g] 96)).heap[w.heap.size]? = some (.cells #[.int .i64 f.n, .int .i64 f.i, .int .i64 f.s, .bool f.g] 96 (0, 0)) := heap_alloc_new _ _
 have B0 : Below w.heap.size w (w.alloc (.cells #[.int .i64 f.n, .int .i64 f.i, .int .i64 f.s, .bool f.g] 96)) := balloc _ (Below.refl _ _)
 cases hok0 : tokB len F
 ·have hok : Hid (tokB len F = false) := hok0
  have e1 : tpT len F f = [] := by unfold tpT; rw [hok0]; rfl
  have e2 : tpQ len F f = false := by unfold tpQ; rw [hok0]; rfl
  rw [e1, e2]
  clear hok0 e1 e2
  go_enter Tryz.func128, Tryz.ntmps128
  go_wp2_with fail
  generalize (w.alloc (.cells #[.int .i64 f.n, .int .i64 f.i, .int .i64 f.s, .bool f.g] 96)) = W0 at *
  refine (tok_lit a len cap F false _ (h.below B0) hl hok.out).mono ?_
  rintro r w1 ⟨rfl, b1⟩
  have B1 := btrans B0 b1
  have p1 := blk_below b1 p0
  have c0 : w1.cell? ⟨w.heap.size, 0, none⟩ = some (.int .i64 f.n) := cell_block (o := 0) p1 rfl
  have c1 : w1.cell? ⟨w.heap.size, 1, none⟩ = some (.int .i64 f.i) := cell_block (o := 1) p1 rfl
  have c2 : w1.cell? ⟨w.heap.size, 2, none⟩ = some (.int .i64 f.s) := cell_block (o := 2) p1 rfl
  have c3 : w1.cell? ⟨w.heap.size, 3, none⟩ = some (.bool f.g) := cell_block (o := 3) p1 rfl
  clear p0 b1 B0
  clear p1 c0 c1 c2 c3
  go_wp2
  go_ret2
  exact ⟨_, rfl, World.ownsRow_nil _ _ _ _, B1⟩
 ·have hok : Hid (tokB len F = true) := hok0
  cases hfk0 : fok f
  ·have hfk : Hid (fok f = false) := hfk0
   have e1 : tpT len F f = [] := by unfold tpT; rw [hok0, hfk0]; rfl
   have e2 : tpQ len F f = false := by unfold tpQ; rw [hok0, hfk0]; rfl
   rw [e1, e2]
   clear hok0 hfk0 e1 e2
   go_enter Tryz.func128, Tryz.ntmps128
   go_wp2_with fail
   generalize (w.alloc (.cells #[.int .i64 f.n, .int .i64 f.i, .int .i64 f.s, .bool f.g] 96)) = W0 at *
   refine (tok_lit a len cap F true _ (h.below B0) hl hok.out).mono ?_
   rintro r w1 ⟨rfl, b1⟩
   have B1 := btrans B0 b1
   have p1 := blk_below b1 p0
   have c0 : w1.cell? ⟨w.heap.size, 0, none⟩ = some (.int .i64 f.n) := cell_block (o := 0) p1 rfl
   have c1 : w1.cell? ⟨w.heap.size, 1, none⟩ = some (.int .i64 f.i) := cell_block (o := 1) p1 rfl
   have c2 : w1.cell? ⟨w.heap.size, 2, none⟩ = some (.int .i64 f.s) := cell_block (o := 2) p1 rfl
   have c3 : w1.cell? ⟨w.heap.size, 3, none⟩ = some (.bool f.g) := cell_block (o := 3) p1 rfl
   clear p0 b1 B0
   go_wp2_with fail
   refine (fok_litT f false _ hfk.out).mono ?_
   rintro r w2 ⟨rfl, b2⟩
   have B2 := btrans B1 b2
   clear p1 c0 c1 c2 c3 B1 b2
   go_wp2
   go_ret2
   exact ⟨_, rfl, World.ownsRow_nil _ _ _ _, B2⟩
  ·have hfk : Hid (fok f = true) := hfk0
   have e1 : tpT len F f = tput (seqF F len) f := by unfold tpT; rw [hok0, hfk0]; rfl
   have e2 : tpQ len F f = tnew (seqF F len) f := by unfold tpQ; rw [hok0, hfk0]; rfl
   rw [e1, e2]
   obtain ⟨t1, t2⟩ := tok_all hok0
   have hl8 := tok_len hok0
   clear hok0 hfk0 e1 e2
   go_enter Tryz.func128, Tryz.ntmps128
   go_wp2_with fail
   generalize (w.alloc (.cells #[.int .i64 f.n, .int .i64 f.i, .int .i64 f.s, .bool f.g] 96)) = W0 at *
   refine (tok_lit a len cap F true _ (h.below B0) hl hok.out).mono ?_
   rintro r w1 ⟨rfl, b1⟩
   have B1 := btrans B0 b1
   have p1 := blk_below b1 p0
   have c0 : w1.cell? ⟨w.heap.size, 0, none⟩ = some (.int .i64 f.n) := cell_block (o := 0) p1 rfl
   have c1 : w1.cell? ⟨w.heap.size, 1, none⟩ = some (.int .i64 f.i) := cell_block (o := 1) p1 rfl
   have c2 : w1.cell? ⟨w.heap.size, 2, none⟩ = some (.int .i64 f.s) := cell_block (o := 2) p1 rfl
   have c3 : w1.cell? ⟨w.heap.size, 3, none⟩ = some (.bool f.g) := cell_block (o := 3) p1 rfl
   clear p0 b1 B0
   go_wp2_with fail
   refine (fok_litT f true _ hfk.out).mono ?_
   rintro r w2 ⟨rfl, b2⟩
   have B2 := btrans B1 b2
   have d0 := keep_below b2 c0
   have d1 := keep_below b2 c1
   have d2 := keep_below b2 c2
   have d3 := keep_below b2 c3
   replace p1 := blk_below b2 p1
   clear c0 c1 c2 c3 B1 b2
   go_wp2_with fail
   refine (regOf_any a len cap F _ (h.below B2) hok.out).mono ?_
   rintro r w3 ⟨rb, rfl, R3, b3⟩
   have B3 := btrans B2 b3
   have e0 := keep_below b3 d0
   have e1 := keep_below b3 d1
   have e2 := keep_below b3 d2
   have e3 := keep_below b3 d3
   clear d0 d1 d2 d3 p1 
   go_wp2_with fail
   refine (put_any w2.heap.size rb len (seqF F len) f _ R3 (seqF_asc t2 len (Nat.le_refl _)) (fun g hg => by obtain ⟨k, hk, rfl⟩ := seqF_mem hg; exact t1 k hk) hfk.out b3.size (by omega)).mono ?_
   rintro r w4 ⟨rfl, R4, b4⟩
   have B4 := B2.trans ((b3.trans b4).mono B2.size)
   clear e0 e1 e2 e3 R3 b4 b3 B3
   have hal : ∀ g ∈ tput (seqF F len) f, fok g = true := fun g hg => by
    rcases tput_mem hg with rfl | hg
    ·exact hfk.out
    ·obtain ⟨k, hk, rfl⟩ := seqF_mem hg; exact t1 k hk
   have hll := tput_len_le (seqF F len) f
   rw [seqF_len] at hll
   go_wp2_with fail
   refine (list_any w2.heap.size rb (len + 1) (tput (seqF F len) f) _ R4 (tput_asc (seqF_asc t2 len (Nat.le_refl _))) hal (by omega)).mono ?_
   rintro r w5 ⟨v, rfl, o5, b5⟩
   have B5 := btrans B4 b5
   clear R4 b5
   go_wp2
   go_ret2
   exact ⟨v, rfl, own_mono B4.size o5, B5⟩
end Go.Proofs.YtgcdcfjaeehnbaaGreat
/- Items as lists: an item more; what is there of a node. -/
namespace Go.Proofs.YtgcdcfjaeehnbaaGreat.I
set_option maxRecDepth 20000
def ovr (f g : It) : Bool := l3B f.i f.s f.g g.i g.s g.g
def Asc (T : List It) : Prop := T.Pairwise fun f g => f.n < g.n
def fok (f : It) : Bool := fokB f.n f.i f.s
def tput : List It → It → List It
 | [], f => [f]
 | g :: r, f => if g.n < f.n then g :: tput r f else if g.n = f.n then (if ovr f g then f :: r else g :: r) else f :: g :: r
def tget (T : List It) (k : Int) : Option It := T.find? fun g => decide (g.n = k)
def tnew (T : List It) (f : It) : Bool := match tget T f.n with
 | some g => ovr f g
 | none => true
theorem tget_cons (g : It) (r : List It) (k : Int) : tget (g :: r) k = if g.n = k then some g else tget r k := by
 unfold tget
 rw [List.find?_cons]
 by_cases h : g.n = k <;> simp [h]
theorem tget_mem {T : List It} {k : Int} {g : It} (h : tget T k = some g) : g ∈ T ∧ g.n = k := by
 have h1 := List.mem_of_find?_eq_some h
 have h2 := List.find?_some h
 exact ⟨h1, by simpa using h2⟩
theorem tget_none {T : List It} {k : Int} (h : tget T k = none) : ∀ g ∈ T, g.n ≠ k := by
 intro g hg
 have := List.find?_eq_none.1 h g hg
 simpa using this
theorem tget_low {r : List It} {k : Int} (h : ∀ g ∈ r, k < g.n) : tget r k = none := by
 unfold tget
 rw [List.find?_eq_none]
 intro g hg
 have := h g hg
 simp
 omega
theorem asc_cons {g : It} {r : List It} : Asc (g :: r) ↔ (∀ x ∈ r, g.n < x.n) ∧ Asc r := List.pairwise_cons
theorem tput_mem {T : List It} {f x : It} (h : x ∈ tput T f) : x = f ∨ x ∈ T := by
 induction T with
 | nil => simp [tput] at h; exact .inl h
 | cons g r ih =>
  unfold tput at h
  split at h
  ·rcases List.mem_cons.1 h with h | h
   ·exact .inr (by simp [h])
   ·exact (ih h).imp id (fun h => List.mem_cons_of_mem _ h)
  ·split at h
   ·split at h
    ·rcases List.mem_cons.1 h with h | h
     ·exact .inl h
     ·exact .inr (List.mem_cons_of_mem _ h)
    ·exact .inr h
   ·rcases List.mem_cons.1 h with h | h
    ·exact .inl h
    ·exact .inr h
theorem tput_asc {T : List It} {f : It} (h : Asc T) : Asc (tput T f) := by
 induction T with
 | nil => simp [tput, Asc]
 | cons g r ih =>
  obtain ⟨h1, h2⟩ := asc_cons.1 h
  unfold tput
  split
  ·rename_i hlt
   refine asc_cons.2 ⟨fun x hx => ?_, ih h2⟩
   rcases tput_mem hx with rfl | hx
   ·exact hlt
   ·exact h1 x hx
  ·split
   ·rename_i heq
    split
    ·exact asc_cons.2 ⟨fun x hx => by have := h1 x hx; omega, h2⟩
    ·exact h
   ·refine asc_cons.2 ⟨fun x hx => ?_, h⟩
    rcases List.mem_cons.1 hx with rfl | hx
    ·omega
    ·have := h1 x hx; omega
theorem tget_tput {T : List It} {f : It} (h : Asc T) (k : Int) : tget (tput T f) k = if k = f.n ∧ tnew T f = true then some f else tget T k := by
 induction T with
 | nil =>
  have e0 : tnew [] f = true := rfl
  rw [e0, show tput [] f = [f] from rfl, tget_cons]
  by_cases e : f.n = k
  ·rw [if_pos e, if_pos ⟨e.symm, rfl⟩]
  ·rw [if_neg e, if_neg (fun h => e h.1.symm)]
 | cons g r ih =>
  obtain ⟨h1, h2⟩ := asc_cons.1 h
  unfold tput
  split
  ·rename_i hlt
   have e : tnew (g :: r) f = tnew r f := by
    unfold tnew
    rw [tget_cons, if_neg (by omega)]
   rw [tget_cons, ih h2, e, tget_cons]
   by_cases hk : g.n = k
   ·rw [if_pos hk, if_pos hk, if_neg (by omega)]
   ·rw [if_neg hk, if_neg hk]
  ·rename_i hnl
   split
   ·rename_i heq
    have e : tnew (g :: r) f = ovr f g := by
     unfold tnew
     rw [tget_cons, if_pos heq]
    rw [e]
    split
    ·rename_i ho
     rw [tget_cons, tget_cons]
     by_cases hk : f.n = k
     ·rw [if_pos hk, if_pos ⟨hk.symm, ho⟩]
     ·rw [if_neg hk, if_neg (fun h => hk h.1.symm), if_neg (by omega)]
    ·rename_i ho
     rw [if_neg (fun h => ho h.2)]
   ·rename_i hne
    have e : tnew (g :: r) f = true := by
     unfold tnew
     rw [tget_cons, if_neg hne, tget_low (fun x hx => by have := h1 x hx; omega)]
    rw [e, tget_cons]
    by_cases hk : f.n = k
    ·rw [if_pos hk, if_pos ⟨hk.symm, rfl⟩]
    ·rw [if_neg hk, if_neg (fun h => hk h.1.symm)]
theorem tput_old {T : List It} {f g : It} (h : Asc T) (hg : tget T f.n = some g) : (tput T f).map (·.n) = T.map (·.n) := by
 induction T with
 | nil => simp [tget] at hg
 | cons x r ih =>
  obtain ⟨h1, h2⟩ := asc_cons.1 h
  rw [tget_cons] at hg
  unfold tput
  split
  ·rename_i hlt
   rw [if_neg (by omega)] at hg
   simp [ih h2 hg]
  ·rename_i hnl
   split
   ·rename_i heq
    split
    ·simp [heq]
    ·rfl
   ·rename_i hne
    rw [if_neg hne] at hg
    have := tget_low (r := r) (k := f.n) (fun y hy => by have := h1 y hy; omega)
    rw [this] at hg
    cases hg
theorem tput_no {T : List It} {f g : It} (h : Asc T) (hg : tget T f.n = some g) (ho : ovr f g = false) : tput T f = T := by
 induction T with
 | nil => simp [tget] at hg
 | cons x r ih =>
  obtain ⟨h1, h2⟩ := asc_cons.1 h
  rw [tget_cons] at hg
  unfold tput
  split
  ·rename_i hlt
   rw [if_neg (by omega)] at hg
   rw [ih h2 hg]
  ·rename_i hnl
   split
   ·rename_i heq
    rw [if_pos heq] at hg
    cases hg
    simp [ho]
   ·rename_i hne
    rw [if_neg hne] at hg
    have := tget_low (r := r) (k := f.n) (fun y hy => by have := h1 y hy; omega)
    rw [this] at hg
    cases hg
theorem tput_perm {T : List It} {f : It} (hg : tget T f.n = none) : (tput T f).Perm (T ++ [f]) := by
 induction T with
 | nil => exact List.Perm.refl _
 | cons x r ih =>
  rw [tget_cons] at hg
  by_cases hx : x.n = f.n
  ·rw [if_pos hx] at hg; cases hg
  ·rw [if_neg hx] at hg
   unfold tput
   split
   ·exact (ih hg).cons x
   ·have : (f :: (x :: r)).Perm ((x :: r) ++ [f]) := (List.perm_append_comm (l₁ := [f]) (l₂ := x :: r))
    exact this
theorem tput_len {T : List It} {f : It} (hg : tget T f.n = none) : (tput T f).length = T.length + 1 := by
 have := (tput_perm hg).length_eq
 simpa using this
theorem tput_len_le (T : List It) (f : It) : (tput T f).length ≤ T.length + 1 := by
 induction T with
 | nil => simp [tput]
 | cons g r ih =>
  unfold tput
  split
  ·simp; omega
  ·split
   ·split <;> simp
   ·simp
theorem asc_short : ∀ (T : List It) (lo : Nat), Asc T → (∀ f ∈ T, (lo : Int) ≤ f.n ∧ f.n ≤ 7) → T.length + lo ≤ 8 ∨ T = []
 | [], _, _, _ => .inr rfl
 | g :: r, lo, h, hall => by
  obtain ⟨h1, h2⟩ := asc_cons.1 h
  have hg := hall g (by simp)
  rcases asc_short r (lo + 1) h2 (fun f hf => by have := h1 f hf; have := hall f (by simp [hf]); omega) with h | h
  ·left; simp; omega
  ·left; subst h; simp; omega
end Go.Proofs.YtgcdcfjaeehnbaaGreat.I
namespace Go.Proofs.YtgcdcfjaeehnbaaGreat.I
open Go.ChangeShapes Go.WideShapes Go.ChangeAt Go.RowKit
set_option maxRecDepth 20000
attribute [local go_sem ↓] Go.wp_at_zero Go.wp_at_succ
abbrev fval (f : It) : Value := .agg #[.int .i64 f.n, .int .i64 f.i, .int .i64 f.s, .bool f.g, .int .i64 f.l]
def fd (f : It) : DataW Unit := .agg [.lit (.int .i64 f.n), .lit (.int .i64 f.i), .lit (.int .i64 f.s), .lit (.bool f.g), .lit (.int .i64 f.l)]
def fE : Value → Option (DataW Unit × List MemPlace)
 | .agg ⟨[.int .i64 a, .int .i64 b, .int .i64 c, .bool g, .int .i64 l]⟩ => some (fd ⟨a, b, c, g, l⟩, [])
 | _ => none
theorem fE_mk (f : It) : fE (fval f) = some (fd f, []) := rfl
theorem fE_inv {v : Value} {z : DataW Unit × List MemPlace} (h : fE v = some z) : ∃ f, v = fval f ∧ z = (fd f, []) := by
 unfold fE at h
 split at h
 ·simp only [Option.some.injEq] at h
  exact ⟨⟨_, _, _, _, _⟩, rfl, h.symm⟩
 ·cases h
theorem fd_inj {f g : It} (h : fd f = fd g) : f = g := by
 obtain ⟨a, b, c, d, e⟩ := f
 obtain ⟨a', b', c', d', e'⟩ := g
 simpa [fd] using h
def Kept (D : DataW Unit) (T : List It) : Prop := ∀ k : Int, Maps.has D (.int .i64 k) = (tget T k).isSome ∧ D.atKey (.int .i64 k) (fd It.zero) = fd ((tget T k).getD It.zero)
theorem kept_nil : Kept (.map []) [] := fun _ => ⟨rfl, rfl⟩
theorem kept_put {D : DataW Unit} {T : List It} {f : It} (hD : Maps.IsMap D) (h : Kept D T) (ha : Asc T) (hn : tnew T f = true) : Kept (D.put (.int .i64 f.n) (fd f)) (tput T f) := fun k => by
 rw [tget_tput ha]
 by_cases e : k = f.n
 ·subst e
  rw [if_pos ⟨rfl, hn⟩]
  exact ⟨Maps.has_put_same hD (by trivial) _, Maps.atKey_put_same hD (by trivial) _ _⟩
 ·rw [if_neg (fun h => e h.1)]
  have hne : (Lit.int .i64 k) ≠ .int .i64 f.n := fun h => e (by simpa using h)
  rw [Maps.has_put_other hne, Maps.atKey_put_other hne]
  exact h k
theorem keyed3 : Maps.Keyed Tryz.prog 3 := Maps.int_keyed Tryz.underlying3
theorem zeroI (w : World) : (zeroValue 127).run Tryz.prog w = .ok (fval It.zero) w := by kernel_rfl
theorem wpList_lookup_fact {w : World} {ops : Array Oper} {rest : List Oper} {o : Oper} {a : Act} {Q : Exit → Act → World → Prop} (hg : o.guard = none) (m x : Operand) (hop : o.op = Op.lookup 250 m x true)
  (b n : Nat) (D : DataW Unit) (T : List It) (hm : a.eval m = .map (some b)) (hown : w.ownsMap Tryz.prog 3 fE b n D) (hT : Kept D T) (k : Int) (hx : a.eval x = .int .i64 k) (hk : (Lit.int .i64 k).wf = true)
  (g : It) (q : Bool) (hgk : (tget T k).getD It.zero = g) (hq : (tget T k).isSome = q)
  (hK : wpList Tryz.prog ops Q rest (a.put o.dst (.tuple #[fval g, .bool q])) w) :
  wpList Tryz.prog ops Q (o :: rest) a w :=
 wpList_lookup_own_ok w hg m x 250 hop 3 127 keyed3 Tryz.underlying250 fE (zeroI w) (fd It.zero) [] rfl b n D hm hown _ _ hx (Maps.keyOf_int_mk Tryz.underlying3 hk) (fun v ps hv => by
  obtain ⟨f, rfl, hz⟩ := fE_inv hv
  simp only [Prod.mk.injEq] at hz
  rw [(hT k).2, hgk] at hz
  rw [(hT k).1, hq, ← fd_inj hz.1]
  exact hK)
def Reg (w : World) (base rb c : Nat) (T : List It) : Prop :=
 ∃ v mb D, w.heap[rb]? = some (.cells #[v, .map (some mb)] 252 (0, 0)) ∧ base ≤ rb ∧ base ≤ mb ∧ w.ownsRow base 3 1 v T.length (lv (T.map (·.n))) ∧ w.ownsMap Tryz.prog 3 fE mb c D ∧ Kept D T
theorem Reg.below {w w' : World} {base rb c : Nat} {T : List It} (h : Reg w base rb c T) (hb : Below w.heap.size w w') : Reg w' base rb c T := by
 obtain ⟨v, mb, D, h1, h2, h3, h4, h5, h6⟩ := h
 have hm := h5
 obtain ⟨es, clock, e1, r⟩ := h5
 exact ⟨v, mb, D, (hb.block rb (lt_of_block h1)).trans h1, h2, h3, own_below h4 hb, ⟨es, clock, (hb.block mb hm.lt).trans e1, r⟩, h6⟩
end Go.Proofs.YtgcdcfjaeehnbaaGreat.I
