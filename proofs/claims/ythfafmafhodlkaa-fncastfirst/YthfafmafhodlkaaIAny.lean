/- Drawn items: any list, one that is not ok among them; with a fact. -/
import Derived.Test.YthfafmafhodlkaaIDraw
import Derived.Test.YthfafmafhodlkaaIMark
namespace Go.Proofs.Ythfafmafhodlkaa.I
open Go.ChangeShapes Go.WideShapes Go.ChangeAt Go.RowKit
attribute [local go_sem ↓] Go.wp_at_zero Go.wp_at_succ
theorem set_same {xs : List Value} {i : Nat} {v : Value} (h : xs[i]? = some v) : xs.set i v = xs := by
  apply List.ext_getElem?
  intro j
  rw [List.getElem?_set]
  by_cases e : i = j
  · subst e
    have := (List.getElem?_eq_some_iff.1 h).1
    rw [if_pos rfl, if_pos this, h]
  · rw [if_neg e]
theorem fl_setL (T : List It) (j : Nat) (s : Int) (h : j < T.length) : fl (T.set j ⟨(T.getD j It.zero).n, (T.getD j It.zero).i, (T.getD j It.zero).s, (T.getD j It.zero).g, s⟩) = (fl T).set (j * 5 + 4) (.int .i64 s) := by
  obtain ⟨t0, t1, t2, t3, t4⟩ := fl_get T j h
  rw [fl_set T j _ h]
  dsimp only
  rw [set_same t0, set_same t1, set_same t2, set_same t3]
theorem fl_setF (T : List It) (j : Nat) (n i s : Int) (g : Bool) (h : j < T.length) : fl (T.set j ⟨n, i, s, g, (T.getD j It.zero).l⟩) = ((((fl T).set (j * 5) (.int .i64 n)).set (j * 5 + 1) (.int .i64 i)).set (j * 5 + 2) (.int .i64 s)).set (j * 5 + 3) (.bool g) := by
  obtain ⟨t0, t1, t2, t3, t4⟩ := fl_get T j h
  rw [fl_set T j _ h]
  dsimp only
  refine set_same ?_
  rw [List.getElem?_set_ne (by omega), List.getElem?_set_ne (by omega), List.getElem?_set_ne (by omega), List.getElem?_set_ne (by omega), t4]
set_option maxRecDepth 20000 in
set_option maxHeartbeats 4000000 in
theorem anyItems_any {G : Cd} (B rb p : Nat) (w : World) (h : Rd G B rb p w) (hp : p < 500000) :
    Calls Try.prog 22 #[.pointer (some ⟨rb, 0, none⟩)] w (ItPost 7 400 G B rb p w) := by
  have hlt := h.lt
  have hle := h.le
  go_enter Try.func22, Try.ntmps22
  go_wp2_with fail
  refine (items_any B rb p (-1) _ h (by omega) (.inl rfl)).mono ?_
  rintro r w1 ⟨a, c, T, q, rfl, hn, o1, hl, hq, r1, of1⟩
  by_cases h0 : T.length = 0
  · have i0 : ¬ (0 : Int) < (T.length : Int) := by omega
    go_wp2
    go_ret
    exact ⟨a, c, T, q, by rw [h0]; rfl, hn, o1, by omega, by omega, r1, of1⟩
  · have i0 : (0 : Int) < (T.length : Int) := by omega
    go_wp2_with fail
    refine (pick_any B rb q 10 _ r1 (by omega)).mono ?_
    rintro r w2 ⟨rfl, ⟨a2, b2⟩, r2, f2⟩
    generalize G.pk q 10 = k2 at *
    have o2 := own_off o1 f2.off hlt
    have of2 := of1.trans f2.off
    clear f2 o1 of1 r1 b2
    by_cases hk2 : k2 = 0
    · subst hk2
      go_wp2_with fail
      refine (pick_any B rb (q + 1) (T.length : Int) _ r2 (by omega)).mono ?_
      rintro r w3 ⟨rfl, ⟨a3, b3⟩, r3, f3⟩
      generalize G.pk (q + 1) (T.length : Int) = k3 at *
      obtain ⟨j, rfl⟩ := Int.eq_ofNat_of_zero_le a3
      have hj : j < T.length := by omega
      have o3 := own_off o2 f3.off hlt
      have of3 := of2.trans f3.off
      clear f3 o2 of2 r2 b3 a3
      rcases own_sliceF o3 with ⟨e, _⟩ | ⟨g, cc, e, hg1, hg2, hg3⟩
      · exact absurd e hn
      simp only [Value.slice.injEq, true_and] at e
      obtain ⟨rfl, rfl⟩ := e
      go_wp2_with fail
      refine (pick_any B rb (q + 1 + 1) 3 _ r3 (by omega)).mono ?_
      rintro r w4 ⟨rfl, ⟨a4, b4⟩, r4, f4⟩
      generalize G.pk _ _ = k4 at *
      have o4 := own_off o3 f4.off hlt
      have of4 := of3.trans f4.off
      have zg : g < w4.heap.size := by have := f4.size; omega
      clear f4 o3 of3 r3 b4 a4
      have j0 : (0 : Int) ≤ (j : Int) := by omega
      have j1 : (j : Int) < (T.length : Int) := by omega
      have ngr : g ≠ rb := by omega
      by_cases hk4 : k4 = 0
      · subst hk4
        have hne4 : w4.heap.size ≠ rb := by omega
        go_wp2_with fail
        refine (pick_any B rb (q + 1 + 1 + 1) 2 _ (r4.alloc _) (by omega)).mono ?_
        rintro r w5 ⟨rfl, ⟨a5, b5⟩, r5, f5⟩
        generalize G.pk _ _ = k5 at *
        obtain ⟨m, rfl⟩ := Int.eq_ofNat_of_zero_le a5
        have hm : m < 2 := by omega
        obtain ⟨x, hx⟩ := two w4 0 5 m hm
        have cx := keep_aside f5 hne4 hx
        have m0 : (0 : Int) ≤ (m : Int) := by omega
        have m1 : (m : Int) < 2 := by omega
        have o5 := own_off (o4.alloc (.cells #[.int .i64 0, .int .i64 5] 3)) f5.off hlt
        have of5 := (of4.alloc (.cells #[.int .i64 0, .int .i64 5] 3)).trans f5.off
        clear f5 o4 of4 r4 hx a5 b5
        obtain ⟨t0, t1, t2, t3, t4⟩ := fl_get T j hj
        have c4 := (o5.cellAt (j * 5 + 4) (by omega)).trans t4
        have z4 := o5.frozenAt (j * 5 + 4)
        obtain ⟨x4, y4⟩ := o5.stored (j * 5 + 4) (.int .i64 x)
        rw [← fl_setL T j x hj] at x4
        have rs := r5.set g (j * 5 + 4) (.int .i64 x) ngr (by omega)
        have os := of5.set g (j * 5 + 4) (.int .i64 x) hg1
        have hl5 : (T.set j ⟨(T.getD j It.zero).n, (T.getD j It.zero).i, (T.getD j It.zero).s, (T.getD j It.zero).g, x⟩).length = T.length := by simp
        clear t0 t1 t2 t3 t4 y4 o5 of5 r5
        generalize T.set j ⟨(T.getD j It.zero).n, (T.getD j It.zero).i, (T.getD j It.zero).s, (T.getD j It.zero).g, x⟩ = T5 at *
        go_wp2
        go_ret
        exact ⟨some ⟨g, 0, none⟩, c, T5, _, by rw [hl5]; rfl, by rw [hl5]; exact hn, by rw [hl5]; exact x4, by omega, by omega, rs, os⟩
      by_cases hk5 : k4 = 1
      · subst hk5
        go_wp2_with fail
        refine (anyFact_any B rb (q + 1 + 1 + 1) _ r4 (by omega)).mono ?_
        rintro r w5 ⟨fn, fi, fs, fg, q5, rfl, hq5, r5, f5⟩
        have o5 := own_off o4 f5 hlt
        have of5 := of4.trans f5
        clear f5 o4 of4 r4
        obtain ⟨t0, t1, t2, t3, t4⟩ := fl_get T j hj
        have c0 := (o5.cellAt (j * 5) (by omega)).trans t0
        have c1 := (o5.cellAt (j * 5 + 1) (by omega)).trans t1
        have c2 := (o5.cellAt (j * 5 + 2) (by omega)).trans t2
        have c3 := (o5.cellAt (j * 5 + 3) (by omega)).trans t3
        have z0 := o5.frozenAt (j * 5)
        have z1 := o5.frozenAt (j * 5 + 1)
        have z2 := o5.frozenAt (j * 5 + 2)
        have z3 := o5.frozenAt (j * 5 + 3)
        obtain ⟨x0, y0⟩ := o5.stored (j * 5) (.int .i64 fn)
        obtain ⟨x1, y1⟩ := x0.stored (j * 5 + 1) (.int .i64 fi)
        obtain ⟨x2, y2⟩ := x1.stored (j * 5 + 2) (.int .i64 fs)
        obtain ⟨x3, y3⟩ := x2.stored (j * 5 + 3) (.bool fg)
        rw [← fl_setF T j fn fi fs fg hj] at x3
        have rs := (((r5.set g (j * 5) (.int .i64 fn) ngr (by omega)).set g (j * 5 + 1) (.int .i64 fi) ngr (by omega)).set g (j * 5 + 2) (.int .i64 fs) ngr (by omega)).set g (j * 5 + 3) (.bool fg) ngr (by omega)
        have os := (((of5.set g (j * 5) (.int .i64 fn) hg1).set g (j * 5 + 1) (.int .i64 fi) hg1).set g (j * 5 + 2) (.int .i64 fs) hg1).set g (j * 5 + 3) (.bool fg) hg1
        have hl5 : (T.set j ⟨fn, fi, fs, fg, (T.getD j It.zero).l⟩).length = T.length := by simp
        clear t0 t1 t2 t3 t4 x0 x1 x2 y0 y1 y2 y3 o5 of5 r5
        generalize T.set j ⟨fn, fi, fs, fg, (T.getD j It.zero).l⟩ = T5 at *
        go_wp2
        go_ret
        exact ⟨some ⟨g, 0, none⟩, c, T5, q5, by rw [hl5]; rfl, by rw [hl5]; exact hn, by rw [hl5]; exact x3, by omega, by omega, rs, os⟩
      · have e0 : (k4 == 0) = false := by simp [hk4]
        have e1 : (k4 == 1) = false := by simp [hk5]
        obtain ⟨t0, t1, t2, t3, t4⟩ := fl_get T j hj
        have c0 := (o4.cellAt (j * 5) (by omega)).trans t0
        have c1 := (o4.cellAt (j * 5 + 1) (by omega)).trans t1
        have c2 := (o4.cellAt (j * 5 + 2) (by omega)).trans t2
        have c3 := (o4.cellAt (j * 5 + 3) (by omega)).trans t3
        have c4 := (o4.cellAt (j * 5 + 4) (by omega)).trans t4
        clear t0 t1 t2 t3 t4
        generalize T.getD j It.zero = f at *
        go_wp2_with (at_builtin; refine wpList_appF rfl _ _ rfl w.heap.size (.slice (some ⟨g, 0, none⟩) T.length c) T.length T rfl hn (o4.alloc _) w4.heap.size 0 1 1 [f] rfl rfl (new_one w4 f) (T.length + 1) rfl (by omega) (by have := of4.size; simp; omega) ?_; intro g' cap' w5 o5 g5 hc5)
        have of5 : Off rb w w5 := off_grown (of4.alloc _) g5 (fun k hk => (o4.lt k hk).1)
        have r5 : Rd G B rb (q + 1 + 1 + 1) w5 := rd_grown (r4.alloc _) g5 (fun k hk => by have := (o4.lt k hk).1; omega)
        clear g5 o4 of4 r4 c0 c1 c2 c3 c4
        go_wp2
        go_ret
        have hl5 : (T ++ [f]).length = T.length + 1 := by simp
        exact ⟨some ⟨g', 0, none⟩, cap', T ++ [f], _, by rw [hl5]; rfl, by rw [hl5]; simp, by rw [hl5]; exact o5, by omega, by omega, r5, of5⟩
    · have e0 : (k2 == 0) = false := by simp [hk2]
      go_wp2
      go_ret
      exact ⟨a, c, T, q + 1, rfl, hn, o2, by omega, by omega, r2, of2⟩
end Go.Proofs.Ythfafmafhodlkaa.I
