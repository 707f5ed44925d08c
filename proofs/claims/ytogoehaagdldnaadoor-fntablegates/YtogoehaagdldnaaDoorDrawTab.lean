/- Drawn tables: some ascending list of facts; and any, one that is no table among them. -/
import Derived.Test.YtogoehaagdldnaaDoorTput
import Derived.Test.YtogoehaagdldnaaDoorAnyFact
namespace Go.Proofs.YtogoehaagdldnaaDoor
open Go.ChangeShapes Go.WideShapes Go.ChangeAt Go.RowKit
attribute [local go_sem ↓] Go.wp_at_zero Go.wp_at_succ
set_option maxRecDepth 20000 in
theorem own_off {rb : Nat} {w w' : World} {base size n : Nat} {e : TypeId} {v : Value} {xs : List Value} (h : w.ownsRow base e size v n xs) (ho : Off rb w w') (hb : rb < base) : w'.ownsRow base e size v n xs := by
  refine ⟨h.1, h.2.imp id ?_⟩
  rintro ⟨g, cap, cur, hv, hg, hh, r⟩
  exact ⟨g, cap, cur, hv, hg, (ho.block g (lt_of_block hh) (by omega)).trans hh, r⟩
/-- some table -/
def TabPost (G : Cd) (B rb p : Nat) (w : World) (r : Ending) (w' : World) : Prop :=
  ∃ (a : Option Addr) (c : Nat) (T : List Fc) (q : Nat), r = .returned (.slice a T.length c) ∧ Value.slice a T.length c ≠ .slice none 0 0 ∧ w'.ownsRow w.heap.size 32 4 (.slice a T.length c) T.length (fl T) ∧ Asc T ∧ T.length ≤ 6 ∧ q ≤ p + 300 ∧ Rd G B rb q w' ∧ Off rb w w'
set_option maxRecDepth 20000 in
set_option maxHeartbeats 2000000 in
theorem table_any {G : Cd} (B rb p : Nat) (site : Int) (w : World) (h : Rd G B rb p w) (hp : p < 700000) (hs : site = -1 ∨ (0 ≤ site ∧ site ≤ 1)) :
    Calls Tryd.prog 30 #[.pointer (some ⟨rb, 0, none⟩), .int .i64 site] w (TabPost G B rb p w) := by
  have hlt := h.lt
  go_enter Tryd.func30, Tryd.ntmps30
  go_wp2_with fail
  refine (pick_any B rb p 6 _ (h.alloc _) (by omega)).mono ?_
  rintro r w1 ⟨rfl, ⟨a1, b1⟩, r1, o1⟩
  generalize G.pk p 6 = k0 at *
  obtain ⟨m, rfl⟩ := Int.eq_ofNat_of_zero_le a1
  have hm : m ≤ 5 := by omega
  have O1 := own_off (own_emptyF w w.heap.size (Nat.le_refl _)) o1.off hlt
  have of1 := ((Off.refl rb w).alloc (.cells #[] 32)).trans o1.off
  clear a1 b1 o1
  go_wp2_with fail
  go_loopw [5, 6, 7] (fun v i _ wr => ∃ (k : Nat) (a : Option Addr) (c : Nat) (T : List Fc) (q : Nat), i = .int .i64 k ∧ k ≤ 5 ∧ v = .slice a T.length c ∧ Value.slice a T.length c ≠ .slice none 0 0 ∧ wr.ownsRow w.heap.size 32 4 (.slice a T.length c) T.length (fl T) ∧ Asc T ∧ T.length + k ≤ 5 ∧ q + 40 * k ≤ p + 300 ∧ Rd G B rb q wr ∧ Off rb w wr) (fun _ i _ _ => (intOf i).toNat)
  case atStart => exact ⟨m, _, 0, [], p + 1, rfl, hm, rfl, by simp, O1, List.Pairwise.nil, by simpa using hm, by omega, r1, of1⟩
  case round =>
    obtain ⟨k, a, c, T, q, rfl, hk, rfl, hn, hown, hA, hl, hq, hr, hof⟩ := hrel
    clear O1 of1 r1
    by_cases h0 : 0 < k
    · have i0 : (0 : Int) < (k : Int) := by omega
      have hne : w.heap.size ≤ wr.heap.size := hof.size
      rcases hs with rfl | ⟨s0, s1⟩
      · go_wp2_with fail
        refine (pick_any B rb q 2 _ hr (by omega)).mono ?_
        rintro r w2 ⟨rfl, ⟨a2, b2⟩, r2, o2⟩
        generalize G.pk q 2 = st at *
        have b2' : st ≤ 1 := by omega
        have hown2 := own_off hown o2.off hlt
        have of2 := hof.trans o2.off
        clear b2 o2 hown hof hr
        go_wp2_with fail
        refine (fact_any B rb (q + 1) st _ r2 (by omega) a2 b2').mono ?_
        rintro r w3 ⟨fn, fi, fs, fg, q3, rfl, hq3, r3, o3⟩
        have hown3 := own_off hown2 o3 hlt
        have of3 := of2.trans o3
        clear o3 hown2 of2 r2
        go_wp2_with fail
        refine (l3put_own w.heap.size a c T.length T ⟨fn, fi, fs, fg⟩ _ hown3 hn hA (by omega) of3.size).mono ?_
        rintro r w4 ⟨a4, c4, rfl, hn4, o4, b4⟩
        have hA4 := tput_asc (f := ⟨fn, fi, fs, fg⟩) hA
        have hl4 := tput_len_le T ⟨fn, fi, fs, fg⟩
        have r4 := r3.below b4
        have of4 := of3.trans (Off.ofBelow rb b4)
        clear b4 hown3 of3 r3
        generalize tput T ⟨fn, fi, fs, fg⟩ = T4 at *
        go_wp2
        go_roundw
        case rel => exact ⟨k - 1, a4, c4, T4, q3, by go_num, by omega, rfl, hn4, o4, hA4, by omega, by omega, r4, of4⟩
        case measure => simp [intOf]; omega
      · have i2 : ¬ site < 0 := by omega
        go_wp2_with fail
        refine (fact_any B rb q site _ hr (by omega) s0 s1).mono ?_
        rintro r w3 ⟨fn, fi, fs, fg, q3, rfl, hq3, r3, o3⟩
        have hown3 := own_off hown o3 hlt
        have of3 := hof.trans o3
        clear o3 hown hof hr
        go_wp2_with fail
        refine (l3put_own w.heap.size a c T.length T ⟨fn, fi, fs, fg⟩ _ hown3 hn hA (by omega) of3.size).mono ?_
        rintro r w4 ⟨a4, c4, rfl, hn4, o4, b4⟩
        have hA4 := tput_asc (f := ⟨fn, fi, fs, fg⟩) hA
        have hl4 := tput_len_le T ⟨fn, fi, fs, fg⟩
        have r4 := r3.below b4
        have of4 := of3.trans (Off.ofBelow rb b4)
        clear b4 hown3 of3 r3
        generalize tput T ⟨fn, fi, fs, fg⟩ = T4 at *
        go_wp2
        go_roundw
        case rel => exact ⟨k - 1, a4, c4, T4, q3, by go_num, by omega, rfl, hn4, o4, hA4, by omega, by omega, r4, of4⟩
        case measure => simp [intOf]; omega
    · have i0 : ¬ (0 : Int) < (k : Int) := by omega
      go_wp2
      go_ret
      exact ⟨a, c, T, q, rfl, hn, hown, hA, by omega, by omega, hr, hof⟩
/-- some list of facts -/
def LstPost (G : Cd) (B rb p : Nat) (w : World) (r : Ending) (w' : World) : Prop :=
  ∃ (a : Option Addr) (c : Nat) (T : List Fc) (q : Nat), r = .returned (.slice a T.length c) ∧ Value.slice a T.length c ≠ .slice none 0 0 ∧ w'.ownsRow w.heap.size 32 4 (.slice a T.length c) T.length (fl T) ∧ T.length ≤ 7 ∧ q ≤ p + 400 ∧ Rd G B rb q w' ∧ Off rb w w'
set_option maxRecDepth 20000 in
theorem off_grown {rb : Nat} {u w w' : World} {r : Option Nat} (h : Off rb u w) (hg : w.grownBy w' r) (hr : ∀ k, r = some k → u.heap.size ≤ k) : Off rb u w' :=
  ⟨hg.os.trans h.os, hg.tape.trans h.tape, hg.output.trans h.output, Nat.le_trans h.size hg.size, fun k hk hn => (hg.block k (Nat.lt_of_lt_of_le hk h.size) (fun e => by have := hr k e.symm; omega)).trans (h.block k hk hn)⟩
set_option maxRecDepth 20000 in
theorem rd_grown {G : Cd} {B rb p : Nat} {w w' : World} {r : Option Nat} (h : Rd G B rb p w) (hg : w.grownBy w' r) (hr : ∀ k, r = some k → B ≤ k ∧ k ≠ rb) : Rd G B rb p w' := by
  obtain ⟨a1, a2, a3, a4, a5, a, cap, hl, a6, hc0, a7⟩ := h
  have hb : ∀ k, k < w.heap.size → (k = rb ∨ k < B) → w'.heap[k]? = w.heap[k]? := fun k hk hh => hg.block k hk (fun e => by have := hr k e.symm; omega)
  have hbr := hb rb a2 (.inl rfl)
  refine ⟨a1, by have := hg.size; omega, a3, ?_, ?_, a, cap, hl, ?_, hc0, ?_⟩
  · exact (World.frozen?_of_block (w := w) (a := ⟨rb, 1, none⟩) hbr).trans a4
  · exact (World.cell?_of_block (w := w) (a := ⟨rb, 1, none⟩) hbr).trans a5
  · exact (World.cell?_of_block (w := w) (a := ⟨rb, 0, none⟩) hbr).trans a6
  · rcases a7 with a7 | ⟨b, off, rfl, hbb, hcc⟩
    · exact .inl a7
    · refine .inr ⟨b, off, rfl, hbb, fun i hi => ?_⟩
      exact (World.cell?_of_block (w := w) (a := ⟨b, off + i, none⟩) (hb b (by omega) (.inr hbb))).trans (hcc i hi)
set_option maxRecDepth 20000 in
theorem fl_set1 (T : List Fc) (j : Nat) (s : Int) (h : j < T.length) : fl (T.set j ⟨(T.getD j Fc.zero).n, (T.getD j Fc.zero).i, s, (T.getD j Fc.zero).g⟩) = (fl T).set (j * 4 + 2) (.int .i64 s) := by
  obtain ⟨t0, t1, t2, t3⟩ := fl_get T j h
  rw [fl_set T j _ h]
  apply List.ext_getElem?
  intro i
  have hlen := fl_len T
  simp only [List.getElem?_set, List.length_set]
  by_cases e3 : j * 4 + 3 = i
  · subst e3
    rw [if_pos rfl, if_pos (by omega), if_neg (by omega), t3]
  · rw [if_neg e3]
    by_cases e2 : j * 4 + 2 = i
    · rw [if_pos e2, if_pos e2]
    · rw [if_neg e2, if_neg e2]
      by_cases e1 : j * 4 + 1 = i
      · subst e1
        rw [if_pos rfl, if_pos (by omega), t1]
      · rw [if_neg e1]
        by_cases e0 : j * 4 = i
        · subst e0
          rw [if_pos rfl, if_pos (by omega), t0]
        · rw [if_neg e0]
set_option maxRecDepth 20000 in
set_option maxHeartbeats 2000000 in
theorem anyTable_any {G : Cd} (B rb p : Nat) (w : World) (h : Rd G B rb p w) (hp : p < 600000) :
    Calls Tryd.prog 20 #[.pointer (some ⟨rb, 0, none⟩)] w (LstPost G B rb p w) := by
  have hlt := h.lt
  have hle := h.le
  go_enter Tryd.func20, Tryd.ntmps20
  go_wp2_with fail
  refine (table_any B rb p (-1) _ h (by omega) (.inl rfl)).mono ?_
  rintro r w1 ⟨a, c, T, q, rfl, hn, o1, hA, hl, hq, r1, of1⟩
  clear hA
  by_cases h0 : T.length = 0
  · have i0 : ¬ (0 : Int) < (T.length : Int) := by omega
    go_wp2
    go_ret
    exact ⟨a, c, T, q, by rw [h0]; rfl, hn, o1, by omega, by omega, r1, of1⟩
  · have i0 : (0 : Int) < (T.length : Int) := by omega
    go_wp2_with fail
    refine (pick_any B rb q 12 _ r1 (by omega)).mono ?_
    rintro r w2 ⟨rfl, ⟨a2, b2⟩, r2, f2⟩
    generalize G.pk q 12 = k2 at *
    have o2 := own_off o1 f2.off hlt
    have of2 := of1.trans f2.off
    clear f2 o1 of1 r1 b2
    by_cases hk2 : k2 = 0
    · subst hk2
      go_wp2_with fail
      refine (pick_any B rb (q + 1) (T.length : Int) _ r2 (by omega)).mono ?_
      rintro r w3 ⟨rfl, ⟨a3, b3⟩, r3, f3⟩
      generalize G.pk (q + 1) (T.length : Int) = k3 at *
      obtain ⟨j, rfl⟩ := Int.eq_ofNat_of_zero_le a3
      have hj : j < T.length := by omega
      have o3 := own_off o2 f3.off hlt
      have of3 := of2.trans f3.off
      clear f3 o2 of2 r2 b3 a3
      rcases own_sliceF o3 with ⟨e, _⟩ | ⟨g, cc, e, hg1, hg2, hg3⟩
      · exact absurd e hn
      simp only [Value.slice.injEq, true_and] at e
      obtain ⟨rfl, rfl⟩ := e
      go_wp2_with fail
      refine (pick_any B rb (q + 1 + 1) 3 _ r3 (by omega)).mono ?_
      rintro r w4 ⟨rfl, ⟨a4, b4⟩, r4, f4⟩
      generalize G.pk _ _ = k4 at *
      have o4 := own_off o3 f4.off hlt
      have of4 := of3.trans f4.off
      clear f4 o3 of3 r3 b4 a4
      have j0 : (0 : Int) ≤ (j : Int) := by omega
      have j1 : (j : Int) < (T.length : Int) := by omega
      have ngr : g ≠ rb := by omega
      by_cases hk4 : k4 = 0
      · subst hk4
        go_wp2_with fail
        refine (anyFact_any B rb (q + 1 + 1 + 1) _ r4 (by omega)).mono ?_
        rintro r w5 ⟨fn, fi, fs, fg, q5, rfl, hq5, r5, f5⟩
        have o5 := own_off o4 f5 hlt
        have of5 := of4.trans f5
        clear f5 o4 of4 r4
        obtain ⟨t0, t1, t2, t3⟩ := fl_get T j hj
        have c0 := (o5.cellAt (j * 4) (by omega)).trans t0
        have c1 := (o5.cellAt (j * 4 + 1) (by omega)).trans t1
        have c2 := (o5.cellAt (j * 4 + 2) (by omega)).trans t2
        have c3 := (o5.cellAt (j * 4 + 3) (by omega)).trans t3
        have z0 := o5.frozenAt (j * 4)
        have z1 := o5.frozenAt (j * 4 + 1)
        have z2 := o5.frozenAt (j * 4 + 2)
        have z3 := o5.frozenAt (j * 4 + 3)
        obtain ⟨x0, y0⟩ := o5.stored (j * 4) (.int .i64 fn)
        obtain ⟨x1, y1⟩ := x0.stored (j * 4 + 1) (.int .i64 fi)
        obtain ⟨x2, y2⟩ := x1.stored (j * 4 + 2) (.int .i64 fs)
        obtain ⟨x3, y3⟩ := x2.stored (j * 4 + 3) (.bool fg)
        have es := fl_set T j ⟨fn, fi, fs, fg⟩ hj
        rw [← es] at x3
        have rs := (((r5.set g (j * 4) (.int .i64 fn) ngr (by omega)).set g (j * 4 + 1) (.int .i64 fi) ngr (by omega)).set g (j * 4 + 2) (.int .i64 fs) ngr (by omega)).set g (j * 4 + 3) (.bool fg) ngr (by omega)
        have os := (((of5.set g (j * 4) (.int .i64 fn) hg1).set g (j * 4 + 1) (.int .i64 fi) hg1).set g (j * 4 + 2) (.int .i64 fs) hg1).set g (j * 4 + 3) (.bool fg) hg1
        have hl5 : (T.set j ⟨fn, fi, fs, fg⟩).length = T.length := by simp
        clear t0 t1 t2 t3 x0 x1 x2 y0 y1 y2 y3 es o5 of5 r5
        generalize T.set j ⟨fn, fi, fs, fg⟩ = T5 at *
        go_wp2
        go_ret
        exact ⟨some ⟨g, 0, none⟩, c, T5, q5, by rw [hl5]; rfl, by rw [hl5]; exact hn, by rw [hl5]; exact x3, by omega, by omega, rs, os⟩
      by_cases hk5 : k4 = 1
      · subst hk5
        obtain ⟨t0, t1, t2, t3⟩ := fl_get T j hj
        have c0 := (o4.cellAt (j * 4) (by omega)).trans t0
        have c1 := (o4.cellAt (j * 4 + 1) (by omega)).trans t1
        have c2 := (o4.cellAt (j * 4 + 2) (by omega)).trans t2
        have c3 := (o4.cellAt (j * 4 + 3) (by omega)).trans t3
        clear t0 t1 t2 t3
        generalize T.getD j Fc.zero = f at *
        go_wp2_with (at_builtin; refine wpList_appF rfl _ _ rfl w.heap.size (.slice (some ⟨g, 0, none⟩) T.length c) T.length T rfl hn (o4.alloc _) w4.heap.size 0 1 1 [f] rfl rfl (new_one w4 f) (T.length + 1) rfl (by omega) (by have := of4.size; simp; omega) ?_; intro g' cap' w5 o5 g5 hc5)
        have of5 : Off rb w w5 := off_grown (of4.alloc _) g5 (fun k hk => (o4.lt k hk).1)
        have r5 : Rd G B rb (q + 1 + 1 + 1) w5 := rd_grown (r4.alloc _) g5 (fun k hk => by have := (o4.lt k hk).1; omega)
        clear g5 o4 of4 r4 c0 c1 c2 c3
        go_wp2
        go_ret
        have hl5 : (T ++ [f]).length = T.length + 1 := by simp
        exact ⟨some ⟨g', 0, none⟩, cap', T ++ [f], _, by rw [hl5]; rfl, by rw [hl5]; simp, by rw [hl5]; exact o5, by omega, by omega, r5, of5⟩
      · have e0 : (k4 == 0) = false := by simp [hk4]
        have e1 : (k4 == 1) = false := by simp [hk5]
        obtain ⟨t0, t1, t2, t3⟩ := fl_get T j hj
        have c2 := (o4.cellAt (j * 4 + 2) (by omega)).trans t2
        have z2 := o4.frozenAt (j * 4 + 2)
        obtain ⟨x2, y2⟩ := o4.stored (j * 4 + 2) (.int .i64 0)
        have es := fl_set1 T j 0 hj
        rw [← es] at x2
        have rs := r4.set g (j * 4 + 2) (.int .i64 0) ngr (by omega)
        have os := of4.set g (j * 4 + 2) (.int .i64 0) hg1
        have hl5 : (T.set j ⟨(T.getD j Fc.zero).n, (T.getD j Fc.zero).i, 0, (T.getD j Fc.zero).g⟩).length = T.length := by simp
        clear t0 t1 t2 t3 y2 es o4 of4 r4
        generalize T.set j ⟨(T.getD j Fc.zero).n, (T.getD j Fc.zero).i, 0, (T.getD j Fc.zero).g⟩ = T5 at *
        go_wp2
        go_ret
        exact ⟨some ⟨g, 0, none⟩, c, T5, _, by rw [hl5]; rfl, by rw [hl5]; exact hn, by rw [hl5]; exact x2, by omega, by omega, rs, os⟩
    · have e0 : (k2 == 0) = false := by simp [hk2]
      go_wp2
      go_ret
      exact ⟨a, c, T, q + 1, rfl, hn, o2, by omega, by omega, r2, of2⟩
end Go.Proofs.YtogoehaagdldnaaDoor
