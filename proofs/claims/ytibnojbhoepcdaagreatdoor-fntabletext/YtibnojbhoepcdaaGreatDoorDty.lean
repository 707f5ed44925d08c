/- Drawn tables, some spoilt; tables held against each other. -/
import Derived.Test.YtibnojbhoepcdaaGreatDoorDof
namespace Go.Proofs.YtibnojbhoepcdaaGreatDoor
open Go.ChangeShapes Go.WideShapes Go.ChangeAt Go.RowKit
attribute [local go_sem ↓] Go.wp_at_zero Go.wp_at_succ
set_option maxRecDepth 20000 in
set_option maxHeartbeats 2000000 in
theorem anyTable_any {G : Cd} (B rb p : Nat) (w : World) (h : Rd G B rb p w) (hp : p < 600000) :
    Calls Tryz.prog 39 #[.pointer (some ⟨rb, 0, none⟩)] w (LstPost G B rb p w) := by
  have hlt := h.lt
  have hle := h.le
  go_enter Tryz.func39, Tryz.ntmps39
  go_wp2_with fail
  refine (table_any B rb p (-1) _ h (by omega) (.inl rfl)).mono ?_
  rintro r w1 ⟨a, c, T, q, rfl, hn, o1, hA, hl, hq, r1, of1⟩
  clear hA
  by_cases h0 : T.length = 0
  · have i0 : ¬ (0 : Int) < (T.length : Int) := by omega
    go_wp2
    go_ret
    exact ⟨a, c, T, q, by rw [h0]; rfl, hn, o1, by omega, by omega, r1, of1⟩
  · have i0 : (0 : Int) < (T.length : Int) := by omega
    go_wp2_with fail
    refine (pick_any B rb q 12 _ r1 (by omega)).mono ?_
    rintro r w2 ⟨rfl, ⟨a2, b2⟩, r2, f2⟩
    generalize G.pk q 12 = k2 at *
    have o2 := own_off o1 f2.off hlt
    have of2 := of1.trans f2.off
    clear f2 o1 of1 r1 b2
    by_cases hk2 : k2 = 0
    · subst hk2
      go_wp2_with fail
      refine (pick_any B rb (q + 1) (T.length : Int) _ r2 (by omega)).mono ?_
      rintro r w3 ⟨rfl, ⟨a3, b3⟩, r3, f3⟩
      generalize G.pk (q + 1) (T.length : Int) = k3 at *
      obtain ⟨j, rfl⟩ := Int.eq_ofNat_of_zero_le a3
      have hj : j < T.length := by omega
      have o3 := own_off o2 f3.off hlt
      have of3 := of2.trans f3.off
      clear f3 o2 of2 r2 b3 a3
      rcases own_sliceF o3 with ⟨e, _⟩ | ⟨g, cc, e, hg1, hg2, hg3⟩
      · exact absurd e hn
      simp only [Value.slice.injEq, true_and] at e
      obtain ⟨rfl, rfl⟩ := e
      go_wp2_with fail
      refine (pick_any B rb (q + 1 + 1) 3 _ r3 (by omega)).mono ?_
      rintro r w4 ⟨rfl, ⟨a4, b4⟩, r4, f4⟩
      generalize G.pk _ _ = k4 at *
      have o4 := own_off o3 f4.off hlt
      have of4 := of3.trans f4.off
      clear f4 o3 of3 r3 b4 a4
      have j0 : (0 : Int) ≤ (j : Int) := by omega
      have j1 : (j : Int) < (T.length : Int) := by omega
      have ngr : g ≠ rb := by omega
      by_cases hk4 : k4 = 0
      · subst hk4
        go_wp2_with fail
        refine (anyFact_any B rb (q + 1 + 1 + 1) _ r4 (by omega)).mono ?_
        rintro r w5 ⟨fn, fi, fs, fg, q5, rfl, hq5, r5, f5⟩
        have o5 := own_off o4 f5 hlt
        have of5 := of4.trans f5
        clear f5 o4 of4 r4
        obtain ⟨t0, t1, t2, t3⟩ := fl_get T j hj
        have c0 := (o5.cellAt (j * 4) (by omega)).trans t0
        have c1 := (o5.cellAt (j * 4 + 1) (by omega)).trans t1
        have c2 := (o5.cellAt (j * 4 + 2) (by omega)).trans t2
        have c3 := (o5.cellAt (j * 4 + 3) (by omega)).trans t3
        have z0 := o5.frozenAt (j * 4)
        have z1 := o5.frozenAt (j * 4 + 1)
        have z2 := o5.frozenAt (j * 4 + 2)
        have z3 := o5.frozenAt (j * 4 + 3)
        obtain ⟨x0, y0⟩ := o5.stored (j * 4) (.int .i64 fn)
        obtain ⟨x1, y1⟩ := x0.stored (j * 4 + 1) (.int .i64 fi)
        obtain ⟨x2, y2⟩ := x1.stored (j * 4 + 2) (.int .i64 fs)
        obtain ⟨x3, y3⟩ := x2.stored (j * 4 + 3) (.bool fg)
        have es := fl_set T j ⟨fn, fi, fs, fg⟩ hj
        rw [← es] at x3
        have rs := (((r5.set g (j * 4) (.int .i64 fn) ngr (by omega)).set g (j * 4 + 1) (.int .i64 fi) ngr (by omega)).set g (j * 4 + 2) (.int .i64 fs) ngr (by omega)).set g (j * 4 + 3) (.bool fg) ngr (by omega)
        have os := (((of5.set g (j * 4) (.int .i64 fn) hg1).set g (j * 4 + 1) (.int .i64 fi) hg1).set g (j * 4 + 2) (.int .i64 fs) hg1).set g (j * 4 + 3) (.bool fg) hg1
        have hl5 : (T.set j ⟨fn, fi, fs, fg⟩).length = T.length := by simp
        clear t0 t1 t2 t3 x0 x1 x2 y0 y1 y2 y3 es o5 of5 r5
        generalize T.set j ⟨fn, fi, fs, fg⟩ = T5 at *
        go_wp2
        go_ret
        exact ⟨some ⟨g, 0, none⟩, c, T5, q5, by rw [hl5]; rfl, by rw [hl5]; exact hn, by rw [hl5]; exact x3, by omega, by omega, rs, os⟩
      by_cases hk5 : k4 = 1
      · subst hk5
        obtain ⟨t0, t1, t2, t3⟩ := fl_get T j hj
        have c0 := (o4.cellAt (j * 4) (by omega)).trans t0
        have c1 := (o4.cellAt (j * 4 + 1) (by omega)).trans t1
        have c2 := (o4.cellAt (j * 4 + 2) (by omega)).trans t2
        have c3 := (o4.cellAt (j * 4 + 3) (by omega)).trans t3
        clear t0 t1 t2 t3
        generalize T.getD j Fc.zero = f at *
        go_wp2_with (at_builtin; refine wpList_appF rfl _ _ rfl w.heap.size (.slice (some ⟨g, 0, none⟩) T.length c) T.length T rfl hn (o4.alloc _) w4.heap.size 0 1 1 [f] rfl rfl (new_one w4 f) (T.length + 1) rfl (by omega) (by have := of4.size; simp; omega) ?_; intro g' cap' w5 o5 g5 hc5)
        have of5 : Off rb w w5 := off_grown (of4.alloc _) g5 (fun k hk => (o4.lt k hk).1)
        have r5 : Rd G B rb (q + 1 + 1 + 1) w5 := rd_grown (r4.alloc _) g5 (fun k hk => by have := (o4.lt k hk).1; omega)
        clear g5 o4 of4 r4 c0 c1 c2 c3
        go_wp2
        go_ret
        have hl5 : (T ++ [f]).length = T.length + 1 := by simp
        exact ⟨some ⟨g', 0, none⟩, cap', T ++ [f], _, by rw [hl5]; rfl, by rw [hl5]; simp, by rw [hl5]; exact o5, by omega, by omega, r5, of5⟩
      · have e0 : (k4 == 0) = false := by simp [hk4]
        have e1 : (k4 == 1) = false := by simp [hk5]
        obtain ⟨t0, t1, t2, t3⟩ := fl_get T j hj
        have c2 := (o4.cellAt (j * 4 + 2) (by omega)).trans t2
        have z2 := o4.frozenAt (j * 4 + 2)
        obtain ⟨x2, y2⟩ := o4.stored (j * 4 + 2) (.int .i64 0)
        have es := fl_set1 T j 0 hj
        rw [← es] at x2
        have rs := r4.set g (j * 4 + 2) (.int .i64 0) ngr (by omega)
        have os := of4.set g (j * 4 + 2) (.int .i64 0) hg1
        have hl5 : (T.set j ⟨(T.getD j Fc.zero).n, (T.getD j Fc.zero).i, 0, (T.getD j Fc.zero).g⟩).length = T.length := by simp
        clear t0 t1 t2 t3 y2 es o4 of4 r4
        generalize T.set j ⟨(T.getD j Fc.zero).n, (T.getD j Fc.zero).i, 0, (T.getD j Fc.zero).g⟩ = T5 at *
        go_wp2
        go_ret
        exact ⟨some ⟨g, 0, none⟩, c, T5, _, by rw [hl5]; rfl, by rw [hl5]; exact hn, by rw [hl5]; exact x2, by omega, by omega, rs, os⟩
    · have e0 : (k2 == 0) = false := by simp [hk2]
      go_wp2
      go_ret
      exact ⟨a, c, T, q + 1, rfl, hn, o2, by omega, by omega, r2, of2⟩
/-- some list and some fact -/
def TPPost (w : World) (r : Ending) (w' : World) : Prop :=
  ∃ (a : Option Addr) (c : Nat) (T : List Fc) (f : Fc), r = .returned (.tuple #[.slice a T.length c, fval f]) ∧ Value.slice a T.length c ≠ .slice none 0 0 ∧ w'.ownsRow w.heap.size 53 4 (.slice a T.length c) T.length (fl T) ∧ T.length ≤ 7 ∧ Below w.heap.size w w'
set_option maxRecDepth 20000 in
theorem fceq (f g : Fc) : (f = g) ↔ f.n = g.n ∧ f.i = g.i ∧ f.s = g.s ∧ f.g = g.g := by
  obtain ⟨a, b, c, d⟩ := f
  obtain ⟨a', b', c', d'⟩ := g
  simp
set_option maxRecDepth 20000 in
set_option maxHeartbeats 2000000 in
theorem lh_same (a a' : Option Addr) (len cap cap' : Nat) (F : Nat → Fc) (w : World) (h : FSl w a len F) (h' : FSl w a' len F) (hl : len ≤ 1048576) :
    Calls Tryz.prog 11 #[.slice a len cap, .slice a' len cap'] w fun e w' => e = .returned (.bool true) ∧ Below w.heap.size w w' := by
  go_enter Tryz.func11, Tryz.ntmps11
  go_wp2
  go_loopw [5] (fun i wr => ∃ k : Nat, k ≤ len ∧ i = .int .i64 k ∧ Below w.heap.size w wr) (fun i _ => len - (intOf i).toNat)
  case atStart => exact ⟨0, Nat.zero_le _, rfl, Below.refl _ _⟩
  case round =>
    obtain ⟨k, hk, rfl, hb⟩ := hrel
    by_cases hlt : k < len
    · obtain ⟨b, off, rfl, hbl, hf⟩ := h (by omega)
      obtain ⟨c0, c1, c2, c3⟩ := (hf.below hb hbl) k hlt
      obtain ⟨b', off', rfl, hbl', hf'⟩ := h' (by omega)
      obtain ⟨d0, d1, d2, d3⟩ := (hf'.below hb hbl') k hlt
      have i0 : (0 : Int) ≤ (k : Int) := by omega
      have i1 : (k : Int) < (len : Int) := by omega
      go_wp2_with fail
      go_quiet (fail)
      go_wp2
      go_roundw
      case rel => exact ⟨k + 1, by omega, by go_num, QB hb⟩
      case measure => simp [intOf]; omega
    · go_wp2
      go_ret
      exact ⟨rfl, hb⟩
end Go.Proofs.YtibnojbhoepcdaaGreatDoor
