/- Texts of the proof, laid together: Dco. -/
import Derived.Test.YtibnojbhoepcdaaGreatDoorQb8
/- A coordinate drawn. -/
namespace Go.Proofs.YtibnojbhoepcdaaGreatDoor
open Go.ChangeShapes Go.WideShapes Go.ChangeAt Go.RowKit
attribute [local go_sem ↓] Go.wp_at_zero Go.wp_at_succ
theorem snew_any (w : World) :
    Calls Tryz.prog 112 #[] w fun r w' => r = .returned (.agg #[.int .i64 0, .int .i64 0, .int .i64 0, .int .i64 1500]) ∧ ∃ o, w' = w.alloc o := by
  go_enter Tryz.func112, Tryz.ntmps112
  go_wp2
  exact bodyPost_ret (v := .agg #[.int .i64 0, .int .i64 0, .int .i64 0, .int .i64 1500]) (by simp [results, Tryz.results112, go_sem]) rfl ⟨rfl, _, rfl⟩
theorem snew_below (w : World) :
    Calls Tryz.prog 112 #[] w fun r w' => r = .returned (.agg #[.int .i64 0, .int .i64 0, .int .i64 0, .int .i64 1500]) ∧ Below w.heap.size w w' :=
  (snew_any w).mono (by rintro r w' ⟨rfl, o, rfl⟩; exact ⟨rfl, balloc o (Below.refl _ _)⟩)
set_option maxHeartbeats 1000000 in
theorem coord_any {G : Cd} (B rb p : Nat) (w : World) (h : Rd G B rb p w) (hp : p < 900000) :
    Calls Tryz.prog 83 #[.pointer (some ⟨rb, 0, none⟩)] w fun r w' => ∃ (x y z e : Int) (q : Nat), r = .returned (.agg #[.int .i64 x, .int .i64 y, .int .i64 z, .int .i64 e]) ∧ q ≤ p + 10 ∧ Rd G B rb q w' ∧ Off rb w w' := by
  have hlt := h.lt
  have hle := h.le
  have hne : w.heap.size ≠ rb := by omega
  go_enter Tryz.func83, Tryz.ntmps83
  go_wp2_with fail
  refine (pick_any B rb p _ _ (h.alloc _) (by omega)).mono ?_
  rintro r w1 ⟨rfl, ⟨a1, b1⟩, r1, o1⟩
  generalize G.pk _ _ = k1 at *
  have S1 := (Slot4.new w _ _ _ _ _).aside o1 hne
  have of1 := ((Off.refl rb w).alloc _).trans o1.off
  have z1 := o1.size
  simp at z1
  have z2 : w.heap.size < w1.heap.size := by omega
  clear z1
  clear o1
  by_cases hk : k1 = 0
  · subst hk
    go_wp2_with fail
    refine (snew_below _).mono ?_
    rintro r w2 ⟨rfl, b2⟩
    have S2 := S1.below b2
    have r2 := r1.below b2
    have of2 := of1.trans (Off.ofBelow rb b2)
    obtain ⟨⟨v0, c0⟩, f0⟩ := S2 0 (by omega)
    obtain ⟨⟨v1, c1⟩, f1⟩ := S2 1 (by omega)
    obtain ⟨⟨v2, c2⟩, f2⟩ := S2 2 (by omega)
    obtain ⟨⟨v3, c3⟩, f3⟩ := S2 3 (by omega)
    clear S1 S2 b2 z2
    go_wp2
    exact bodyPost_ret (v := .agg #[.int .i64 0, .int .i64 0, .int .i64 0, .int .i64 1500]) (by simp [results, Tryz.results83, go_sem, c0, c1, c2, c3]) rfl ⟨_, _, _, _, p + 1, rfl, by omega, r2.set4 _ _ _ _ _ hne (by omega), of2.set4 _ _ _ _ _ (Nat.le_refl _)⟩
  · have hk' : (k1 == 0) = false := by simp [hk]
    have hne1 : w1.heap.size ≠ rb := by omega
    clear b1
    go_wp2_with fail
    refine (pick_any B rb _ _ _ (r1.alloc _) (by omega)).mono ?_
    rintro r w2 ⟨rfl, ⟨a2, b2⟩, r2, o2⟩
    generalize G.pk _ _ = k2 at *
    obtain ⟨m, rfl⟩ := Int.eq_ofNat_of_zero_le a2
    have hm : m < 3 := by omega
    obtain ⟨far, hfar⟩ : ∃ r : Int, w2.cell? ⟨w1.heap.size, m, none⟩ = some (.int .i64 r) := by
      rw [o2.cell (p := ⟨w1.heap.size, m, none⟩) hne1]
      exact three w1 _ _ _ m hm
    have S2 := (S1.alloc _).aside o2 hne
    have of2 := (of1.alloc _).trans o2.off
    clear b2 o2 S1 of1 z2 hne1
    go_wp2_with fail
    clear hfar
    refine (pick_any B rb _ _ _ r2 (by omega)).mono ?_
    rintro r w3 ⟨rfl, ⟨a3, b3⟩, r3, o3⟩
    generalize G.pk _ _ = k3 at *
    have S3 := S2.aside o3 hne
    have of3 := of2.trans o3.off
    clear b3 o3 S2 of2
    go_wp2_with fail
    refine (pick_any B rb _ _ _ r3 (by omega)).mono ?_
    rintro r w4 ⟨rfl, ⟨a4, b4⟩, r4, o4⟩
    generalize G.pk _ _ = k4 at *
    have S4 := S3.aside o4 hne
    have of4 := of3.trans o4.off
    clear b4 o4 S3 of3
    go_wp2_with fail
    refine (pick_any B rb _ _ _ r4 (by omega)).mono ?_
    rintro r w5 ⟨rfl, ⟨a5, b5⟩, r5, o5⟩
    generalize G.pk _ _ = k5 at *
    have S5 := S4.aside o5 hne
    have of5 := of4.trans o5.off
    clear b5 o5 S4 of4
    go_wp2_with fail
    refine (pick_any B rb _ _ _ r5 (by omega)).mono ?_
    rintro r w6 ⟨rfl, ⟨a6, b6⟩, r6, o6⟩
    generalize G.pk _ _ = k6 at *
    have S6 := S5.aside o6 hne
    have of6 := of5.trans o6.off
    clear b6 o6 S5 of5
    obtain ⟨⟨v0, c0⟩, f0⟩ := S6 0 (by omega)
    obtain ⟨⟨v1, c1⟩, f1⟩ := S6 1 (by omega)
    obtain ⟨⟨v2, c2⟩, f2⟩ := S6 2 (by omega)
    obtain ⟨⟨v3, c3⟩, f3⟩ := S6 3 (by omega)
    clear S6
    go_wp2
    exact bodyPost_ret (v := .agg #[.int .i64 (wrap64 (k3 - far)), .int .i64 (wrap64 (k4 - far)), .int .i64 k5, .int .i64 (wrap64 (1 + k6))]) (by simp [results, Tryz.results83, go_sem, c0, c1, c2, c3]) rfl ⟨_, _, _, _, p + 1 + 1 + 1 + 1 + 1 + 1, rfl, by omega, r6.set4 _ _ _ _ _ hne (by omega), of6.set4 _ _ _ _ _ (Nat.le_refl _)⟩
/-- four numbers lie at block b, and may be written -/
def Num4 (w : World) (b : Nat) (x y z e : Int) : Prop :=
  (w.cell? ⟨b, 0, none⟩ = some (.int .i64 x) ∧ w.cell? ⟨b, 1, none⟩ = some (.int .i64 y) ∧ w.cell? ⟨b, 2, none⟩ = some (.int .i64 z) ∧ w.cell? ⟨b, 3, none⟩ = some (.int .i64 e)) ∧
  (w.frozen? ⟨b, 0, none⟩ = false ∧ w.frozen? ⟨b, 1, none⟩ = false ∧ w.frozen? ⟨b, 2, none⟩ = false ∧ w.frozen? ⟨b, 3, none⟩ = false)
theorem Num4.new (w : World) (x y z e : Int) (t : TypeId) : Num4 (w.alloc (.cells #[.int .i64 x, .int .i64 y, .int .i64 z, .int .i64 e] t)) w.heap.size x y z e := by
  refine ⟨⟨?_, ?_, ?_, ?_⟩, ?_, ?_, ?_, ?_⟩ <;> simp [go_sem]
theorem Num4.off {w w' : World} {b rb : Nat} {x y z e : Int} (h : Num4 w b x y z e) (ha : Off rb w w') (hb : b ≠ rb) : Num4 w' b x y z e := by
  obtain ⟨⟨c0, c1, c2, c3⟩, f0, f1, f2, f3⟩ := h
  have hlt : b < w.heap.size := World.block_lt_of_cell? w _ c0
  exact ⟨⟨(ha.cell (p := ⟨b, 0, none⟩) hlt hb).trans c0, (ha.cell (p := ⟨b, 1, none⟩) hlt hb).trans c1, (ha.cell (p := ⟨b, 2, none⟩) hlt hb).trans c2, (ha.cell (p := ⟨b, 3, none⟩) hlt hb).trans c3⟩, (ha.frozen (p := ⟨b, 0, none⟩) hlt hb).trans f0, (ha.frozen (p := ⟨b, 1, none⟩) hlt hb).trans f1, (ha.frozen (p := ⟨b, 2, none⟩) hlt hb).trans f2, (ha.frozen (p := ⟨b, 3, none⟩) hlt hb).trans f3⟩
set_option maxHeartbeats 1000000 in
theorem any_any {G : Cd} (B rb p : Nat) (w : World) (h : Rd G B rb p w) (hp : p < 800000) :
    Calls Tryz.prog 91 #[.pointer (some ⟨rb, 0, none⟩)] w fun r w' => ∃ (x y z e : Int) (q : Nat), r = .returned (.agg #[.int .i64 x, .int .i64 y, .int .i64 z, .int .i64 e]) ∧ q ≤ p + 20 ∧ Rd G B rb q w' ∧ Off rb w w' := by
  have hlt := h.lt
  have hle := h.le
  have hne : w.heap.size ≠ rb := by omega
  go_enter Tryz.func91, Tryz.ntmps91
  go_wp2_with fail
  refine (coord_any B rb p _ (h.alloc _) (by omega)).mono ?_
  rintro r w1 ⟨x, y, z, e, q, rfl, hq, r1, o1⟩
  have S1 := (Slot4.new w _ _ _ _ _).off o1 hne
  have of1 := ((Off.refl rb w).alloc _).trans o1
  have z1 := o1.size
  simp at z1
  have z2 : w.heap.size < w1.heap.size := by omega
  have hne1 : w1.heap.size ≠ rb := by omega
  have hR : w.heap.size ≠ w1.heap.size := by omega
  clear z1 o1
  go_wp2_with fail
  refine (pick_any B rb _ _ _ (r1.alloc _) (by omega)).mono ?_
  rintro r w2 ⟨rfl, ⟨a2, b2⟩, r2, o2⟩
  generalize G.pk _ _ = k at *
  have N2 := (Num4.new w1 x y z e _).off o2.off hne1
  have S2 := (S1.alloc _).aside o2 hne
  have of2 := (of1.alloc _).trans o2.off
  have z3 : w1.heap.size < w2.heap.size := by have := o2.size; simp at this; omega
  clear o2 of1 S1 b2
  generalize w1.heap.size = C at *
  by_cases k0 : k = 0
  · subst k0
    have hne2 : w2.heap.size ≠ rb := by omega
    go_wp2_with fail
    refine (pick_any B rb _ _ _ (r2.alloc _) (by omega)).mono ?_
    rintro r w3 ⟨rfl, ⟨a3, b3⟩, r3, o3⟩
    generalize G.pk _ _ = k2 at *
    obtain ⟨m, rfl⟩ := Int.eq_ofNat_of_zero_le a3
    have hm : m < 3 := by omega
    obtain ⟨v, hv⟩ : ∃ r : Int, w3.cell? ⟨w2.heap.size, m, none⟩ = some (.int .i64 r) := by
      rw [o3.cell (p := ⟨w2.heap.size, m, none⟩) hne2]
      exact three w2 _ _ _ m hm
    have N3 := N2.off ((Off.refl rb w2).alloc _ |>.trans o3.off) hne1
    have S3 := (S2.alloc _).aside o3 hne
    have of3 := (of2.alloc _).trans o3.off
    obtain ⟨⟨c0, c1, c2, c3⟩, f0, f1, f2, f3⟩ := N3
    obtain ⟨⟨v0, d0⟩, g0⟩ := S3 0 (by omega)
    obtain ⟨⟨v1, d1⟩, g1⟩ := S3 1 (by omega)
    obtain ⟨⟨v2, d2⟩, g2⟩ := S3 2 (by omega)
    obtain ⟨⟨v3, d3⟩, g3⟩ := S3 3 (by omega)
    clear N2 S2 S3 of2 o3 b3
    go_wp2
    exact bodyPost_ret (v := .agg #[.int .i64 v, .int .i64 y, .int .i64 z, .int .i64 e]) (by simp [results, Tryz.results91, go_sem, d0, d1, d2, d3]) rfl ⟨_, _, _, _, q + 1 + 1, rfl, by omega, (r3.set C 0 _ hne1 (by omega)).set4 _ _ _ _ _ hne (by omega), (of3.set C 0 _ (by omega)).set4 _ _ _ _ _ (Nat.le_refl _)⟩
  by_cases k1 : k = 1
  · subst k1
    have hne2 : w2.heap.size ≠ rb := by omega
    go_wp2_with fail
    refine (pick_any B rb _ _ _ (r2.alloc _) (by omega)).mono ?_
    rintro r w3 ⟨rfl, ⟨a3, b3⟩, r3, o3⟩
    generalize G.pk _ _ = k2 at *
    obtain ⟨m, rfl⟩ := Int.eq_ofNat_of_zero_le a3
    have hm : m < 2 := by omega
    obtain ⟨v, hv⟩ : ∃ r : Int, w3.cell? ⟨w2.heap.size, m, none⟩ = some (.int .i64 r) := by
      rw [o3.cell (p := ⟨w2.heap.size, m, none⟩) hne2]
      exact two w2 _ _ m hm
    have N3 := N2.off ((Off.refl rb w2).alloc _ |>.trans o3.off) hne1
    have S3 := (S2.alloc _).aside o3 hne
    have of3 := (of2.alloc _).trans o3.off
    obtain ⟨⟨c0, c1, c2, c3⟩, f0, f1, f2, f3⟩ := N3
    obtain ⟨⟨v0, d0⟩, g0⟩ := S3 0 (by omega)
    obtain ⟨⟨v1, d1⟩, g1⟩ := S3 1 (by omega)
    obtain ⟨⟨v2, d2⟩, g2⟩ := S3 2 (by omega)
    obtain ⟨⟨v3, d3⟩, g3⟩ := S3 3 (by omega)
    clear N2 S2 S3 of2 o3 b3
    go_wp2
    exact bodyPost_ret (v := .agg #[.int .i64 x, .int .i64 y, .int .i64 v, .int .i64 e]) (by simp [results, Tryz.results91, go_sem, d0, d1, d2, d3]) rfl ⟨_, _, _, _, q + 1 + 1, rfl, by omega, (r3.set C 2 _ hne1 (by omega)).set4 _ _ _ _ _ hne (by omega), (of3.set C 2 _ (by omega)).set4 _ _ _ _ _ (Nat.le_refl _)⟩
  by_cases k2' : k = 2
  · subst k2'
    have hne2 : w2.heap.size ≠ rb := by omega
    go_wp2_with fail
    refine (pick_any B rb _ _ _ (r2.alloc _) (by omega)).mono ?_
    rintro r w3 ⟨rfl, ⟨a3, b3⟩, r3, o3⟩
    generalize G.pk _ _ = k2 at *
    obtain ⟨m, rfl⟩ := Int.eq_ofNat_of_zero_le a3
    have hm : m < 2 := by omega
    obtain ⟨v, hv⟩ : ∃ r : Int, w3.cell? ⟨w2.heap.size, m, none⟩ = some (.int .i64 r) := by
      rw [o3.cell (p := ⟨w2.heap.size, m, none⟩) hne2]
      exact two w2 _ _ m hm
    have N3 := N2.off ((Off.refl rb w2).alloc _ |>.trans o3.off) hne1
    have S3 := (S2.alloc _).aside o3 hne
    have of3 := (of2.alloc _).trans o3.off
    obtain ⟨⟨c0, c1, c2, c3⟩, f0, f1, f2, f3⟩ := N3
    obtain ⟨⟨v0, d0⟩, g0⟩ := S3 0 (by omega)
    obtain ⟨⟨v1, d1⟩, g1⟩ := S3 1 (by omega)
    obtain ⟨⟨v2, d2⟩, g2⟩ := S3 2 (by omega)
    obtain ⟨⟨v3, d3⟩, g3⟩ := S3 3 (by omega)
    clear N2 S2 S3 of2 o3 b3
    go_wp2
    exact bodyPost_ret (v := .agg #[.int .i64 x, .int .i64 y, .int .i64 z, .int .i64 v]) (by simp [results, Tryz.results91, go_sem, d0, d1, d2, d3]) rfl ⟨_, _, _, _, q + 1 + 1, rfl, by omega, (r3.set C 3 _ hne1 (by omega)).set4 _ _ _ _ _ hne (by omega), (of3.set C 3 _ (by omega)).set4 _ _ _ _ _ (Nat.le_refl _)⟩
  · have e0 : (k == 0) = false := by simp [k0]
    have e1 : (k == 1) = false := by simp [k1]
    have e2 : (k == 2) = false := by simp [k2']
    obtain ⟨⟨c0, c1, c2, c3⟩, f0, f1, f2, f3⟩ := N2
    obtain ⟨⟨v0, d0⟩, g0⟩ := S2 0 (by omega)
    obtain ⟨⟨v1, d1⟩, g1⟩ := S2 1 (by omega)
    obtain ⟨⟨v2, d2⟩, g2⟩ := S2 2 (by omega)
    obtain ⟨⟨v3, d3⟩, g3⟩ := S2 3 (by omega)
    clear S2
    go_wp2
    exact bodyPost_ret (v := .agg #[.int .i64 x, .int .i64 y, .int .i64 z, .int .i64 e]) (by simp [results, Tryz.results91, go_sem, d0, d1, d2, d3]) rfl ⟨_, _, _, _, q + 1, rfl, by omega, r2.set4 _ _ _ _ _ hne (by omega), of2.set4 _ _ _ _ _ (Nat.le_refl _)⟩
end Go.Proofs.YtibnojbhoepcdaaGreatDoor
