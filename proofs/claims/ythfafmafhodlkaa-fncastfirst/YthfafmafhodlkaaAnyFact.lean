/- Any drawn fact, one that is not ok among them. -/
import Derived.Test.YthfafmafhodlkaaDrawFact
namespace Go.Proofs.Ythfafmafhodlkaa
open Go.ChangeShapes Go.WideShapes Go.ChangeAt Go.RowKit
attribute [local go_sem ↓] Go.wp_at_zero Go.wp_at_succ
/-- as FactPost, by a longer way -/
def FactPost2 (G : Cd) (B rb p : Nat) (w : World) (r : Ending) (w' : World) : Prop :=
  ∃ (n i s : Int) (g : Bool) (q : Nat), r = .returned (.agg #[.int .i64 n, .int .i64 i, .int .i64 s, .bool g]) ∧ q ≤ p + 40 ∧ Rd G B rb q w' ∧ Off rb w w'
/-- four values lie at block b, and may be written -/
def Val4 (w : World) (b : Nat) (x y z e : Value) : Prop :=
  (w.cell? ⟨b, 0, none⟩ = some x ∧ w.cell? ⟨b, 1, none⟩ = some y ∧ w.cell? ⟨b, 2, none⟩ = some z ∧ w.cell? ⟨b, 3, none⟩ = some e) ∧
  (w.frozen? ⟨b, 0, none⟩ = false ∧ w.frozen? ⟨b, 1, none⟩ = false ∧ w.frozen? ⟨b, 2, none⟩ = false ∧ w.frozen? ⟨b, 3, none⟩ = false)
theorem Val4.new (w : World) (x y z e : Value) (t : TypeId) : Val4 (w.alloc (.cells #[x, y, z, e] t)) w.heap.size x y z e := by
  refine ⟨⟨?_, ?_, ?_, ?_⟩, ?_, ?_, ?_, ?_⟩ <;> simp [go_sem]
theorem Val4.off {w w' : World} {b rb : Nat} {x y z e : Value} (h : Val4 w b x y z e) (ha : Off rb w w') (hb : b ≠ rb) : Val4 w' b x y z e := by
  obtain ⟨⟨c0, c1, c2, c3⟩, f0, f1, f2, f3⟩ := h
  have hlt : b < w.heap.size := World.block_lt_of_cell? w _ c0
  exact ⟨⟨(ha.cell (p := ⟨b, 0, none⟩) hlt hb).trans c0, (ha.cell (p := ⟨b, 1, none⟩) hlt hb).trans c1, (ha.cell (p := ⟨b, 2, none⟩) hlt hb).trans c2, (ha.cell (p := ⟨b, 3, none⟩) hlt hb).trans c3⟩, (ha.frozen (p := ⟨b, 0, none⟩) hlt hb).trans f0, (ha.frozen (p := ⟨b, 1, none⟩) hlt hb).trans f1, (ha.frozen (p := ⟨b, 2, none⟩) hlt hb).trans f2, (ha.frozen (p := ⟨b, 3, none⟩) hlt hb).trans f3⟩
set_option maxHeartbeats 1000000 in
theorem anyFact_any {G : Cd} (B rb p : Nat) (w : World) (h : Rd G B rb p w) (hp : p < 800000) :
    Calls Try.prog 36 #[.pointer (some ⟨rb, 0, none⟩)] w (FactPost2 G B rb p w) := by
  have hlt := h.lt
  have hle := h.le
  have hne : w.heap.size ≠ rb := by omega
  go_enter Try.func36, Try.ntmps36
  go_wp2_with fail
  refine (pick_any B rb p 2 _ (h.alloc _) (by omega)).mono ?_
  rintro r w0 ⟨rfl, ⟨a0, b0⟩, r0, o0⟩
  generalize G.pk p 2 = st at *
  have S0 := (Slot4.new w (.int .i64 0) (.int .i64 0) (.int .i64 0) (.bool false) 34).aside o0 hne
  have of0 := ((Off.refl rb w).alloc (.cells #[.int .i64 0, .int .i64 0, .int .i64 0, .bool false] 34)).trans o0.off
  clear o0
  have b0' : st ≤ 1 := by omega
  clear b0
  go_wp2_with fail
  refine (fact_any B rb (p + 1) st _ r0 (by omega) a0 b0').mono ?_
  rintro r w1 ⟨x, y, z, e, q, rfl, hq, r1, o1⟩
  have S1 := S0.off o1 hne
  have of1 := of0.trans o1
  have z2 := S1.lt
  have z3 := r1.lt
  have hne1 : w1.heap.size ≠ rb := by omega
  have hR : w.heap.size ≠ w1.heap.size := by omega
  clear S0 of0 o1 r0
  go_wp2_with fail
  refine (pick_any B rb q 12 _ (r1.alloc _) (by omega)).mono ?_
  rintro r w2 ⟨rfl, ⟨a2, b2⟩, r2, o2⟩
  generalize G.pk q 12 = k at *
  have N2 := (Val4.new w1 (.int .i64 x) (.int .i64 y) (.int .i64 z) (.bool e) 34).off o2.off hne1
  have S2 := (S1.alloc (.cells #[.int .i64 x, .int .i64 y, .int .i64 z, .bool e] 34)).aside o2 hne
  have of2 := (of1.alloc (.cells #[.int .i64 x, .int .i64 y, .int .i64 z, .bool e] 34)).trans o2.off
  have z4 : w1.heap.size < w2.heap.size := by have := o2.size; simp at this; omega
  clear o2 of1 S1 b2 r1
  generalize w1.heap.size = C at *
  by_cases k0 : k = 0
  · subst k0
    have hne2 : w2.heap.size ≠ rb := by omega
    go_wp2_with fail
    refine (pick_any B rb (q + 1) 2 _ (r2.alloc _) (by omega)).mono ?_
    rintro r w3 ⟨rfl, ⟨a3, b3⟩, r3, o3⟩
    generalize G.pk _ _ = k2 at *
    obtain ⟨m, rfl⟩ := Int.eq_ofNat_of_zero_le a3
    have hm : m < 2 := by omega
    obtain ⟨v, hv⟩ : ∃ r : Int, w3.cell? ⟨w2.heap.size, m, none⟩ = some (.int .i64 r) := by
      rw [o3.cell (p := ⟨w2.heap.size, m, none⟩) hne2]
      exact two w2 _ _ m hm
    have N3 := N2.off ((Off.refl rb w2).alloc _ |>.trans o3.off) hne1
    have S3 := (S2.alloc _).aside o3 hne
    have of3 := (of2.alloc _).trans o3.off
    obtain ⟨⟨c0, c1, c2, c3⟩, f0, f1, f2, f3⟩ := N3
    obtain ⟨⟨v0, d0⟩, g0⟩ := S3 0 (by omega)
    obtain ⟨⟨v1, d1⟩, g1⟩ := S3 1 (by omega)
    obtain ⟨⟨v2, d2⟩, g2⟩ := S3 2 (by omega)
    obtain ⟨⟨v3, d3⟩, g3⟩ := S3 3 (by omega)
    clear N2 S2 S3 of2 o3 b3
    go_wp2
    exact bodyPost_ret (v := .agg #[.int .i64 v, .int .i64 y, .int .i64 z, .bool e]) (by simp [results, Try.results36, go_sem, d0, d1, d2, d3]) rfl ⟨_, _, _, _, q + 1 + 1, rfl, by omega, (r3.set C 0 _ hne1 (by omega)).set4 _ _ _ _ _ hne (by omega), (of3.set C 0 _ (by omega)).set4 _ _ _ _ _ (Nat.le_refl _)⟩
  by_cases k1 : k = 1
  · subst k1
    have hne2 : w2.heap.size ≠ rb := by omega
    go_wp2_with fail
    refine (pick_any B rb (q + 1) 2 _ (r2.alloc _) (by omega)).mono ?_
    rintro r w3 ⟨rfl, ⟨a3, b3⟩, r3, o3⟩
    generalize G.pk _ _ = k2 at *
    obtain ⟨m, rfl⟩ := Int.eq_ofNat_of_zero_le a3
    have hm : m < 2 := by omega
    obtain ⟨v, hv⟩ : ∃ r : Int, w3.cell? ⟨w2.heap.size, m, none⟩ = some (.int .i64 r) := by
      rw [o3.cell (p := ⟨w2.heap.size, m, none⟩) hne2]
      exact two w2 _ _ m hm
    have N3 := N2.off ((Off.refl rb w2).alloc _ |>.trans o3.off) hne1
    have S3 := (S2.alloc _).aside o3 hne
    have of3 := (of2.alloc _).trans o3.off
    obtain ⟨⟨c0, c1, c2, c3⟩, f0, f1, f2, f3⟩ := N3
    obtain ⟨⟨v0, d0⟩, g0⟩ := S3 0 (by omega)
    obtain ⟨⟨v1, d1⟩, g1⟩ := S3 1 (by omega)
    obtain ⟨⟨v2, d2⟩, g2⟩ := S3 2 (by omega)
    obtain ⟨⟨v3, d3⟩, g3⟩ := S3 3 (by omega)
    clear N2 S2 S3 of2 o3 b3
    go_wp2
    exact bodyPost_ret (v := .agg #[.int .i64 x, .int .i64 v, .int .i64 z, .bool e]) (by simp [results, Try.results36, go_sem, d0, d1, d2, d3]) rfl ⟨_, _, _, _, q + 1 + 1, rfl, by omega, (r3.set C 1 _ hne1 (by omega)).set4 _ _ _ _ _ hne (by omega), (of3.set C 1 _ (by omega)).set4 _ _ _ _ _ (Nat.le_refl _)⟩
  by_cases k2' : k = 2
  · subst k2'
    have hne2 : w2.heap.size ≠ rb := by omega
    go_wp2_with fail
    refine (pick_any B rb (q + 1) 2 _ (r2.alloc _) (by omega)).mono ?_
    rintro r w3 ⟨rfl, ⟨a3, b3⟩, r3, o3⟩
    generalize G.pk _ _ = k2 at *
    obtain ⟨m, rfl⟩ := Int.eq_ofNat_of_zero_le a3
    have hm : m < 2 := by omega
    obtain ⟨v, hv⟩ : ∃ r : Int, w3.cell? ⟨w2.heap.size, m, none⟩ = some (.int .i64 r) := by
      rw [o3.cell (p := ⟨w2.heap.size, m, none⟩) hne2]
      exact two w2 _ _ m hm
    have N3 := N2.off ((Off.refl rb w2).alloc _ |>.trans o3.off) hne1
    have S3 := (S2.alloc _).aside o3 hne
    have of3 := (of2.alloc _).trans o3.off
    obtain ⟨⟨c0, c1, c2, c3⟩, f0, f1, f2, f3⟩ := N3
    obtain ⟨⟨v0, d0⟩, g0⟩ := S3 0 (by omega)
    obtain ⟨⟨v1, d1⟩, g1⟩ := S3 1 (by omega)
    obtain ⟨⟨v2, d2⟩, g2⟩ := S3 2 (by omega)
    obtain ⟨⟨v3, d3⟩, g3⟩ := S3 3 (by omega)
    clear N2 S2 S3 of2 o3 b3
    go_wp2
    exact bodyPost_ret (v := .agg #[.int .i64 x, .int .i64 y, .int .i64 v, .bool e]) (by simp [results, Try.results36, go_sem, d0, d1, d2, d3]) rfl ⟨_, _, _, _, q + 1 + 1, rfl, by omega, (r3.set C 2 _ hne1 (by omega)).set4 _ _ _ _ _ hne (by omega), (of3.set C 2 _ (by omega)).set4 _ _ _ _ _ (Nat.le_refl _)⟩
  by_cases k3 : k = 3
  · subst k3
    obtain ⟨⟨c0, c1, c2, c3⟩, f0, f1, f2, f3⟩ := N2
    obtain ⟨⟨v0, d0⟩, g0⟩ := S2 0 (by omega)
    obtain ⟨⟨v1, d1⟩, g1⟩ := S2 1 (by omega)
    obtain ⟨⟨v2, d2⟩, g2⟩ := S2 2 (by omega)
    obtain ⟨⟨v3, d3⟩, g3⟩ := S2 3 (by omega)
    clear S2
    go_wp2
    exact bodyPost_ret (v := .agg #[.int .i64 x, .int .i64 y, .int .i64 z, .bool (!e)]) (by simp [results, Try.results36, go_sem, d0, d1, d2, d3]) rfl ⟨_, _, _, _, q + 1, rfl, by omega, (r2.set C 3 _ hne1 (by omega)).set4 _ _ _ _ _ hne (by omega), (of2.set C 3 _ (by omega)).set4 _ _ _ _ _ (Nat.le_refl _)⟩
  · have e0 : (k == 0) = false := by simp [k0]
    have e1 : (k == 1) = false := by simp [k1]
    have e2 : (k == 2) = false := by simp [k2']
    have e3 : (k == 3) = false := by simp [k3]
    obtain ⟨⟨c0, c1, c2, c3⟩, f0, f1, f2, f3⟩ := N2
    obtain ⟨⟨v0, d0⟩, g0⟩ := S2 0 (by omega)
    obtain ⟨⟨v1, d1⟩, g1⟩ := S2 1 (by omega)
    obtain ⟨⟨v2, d2⟩, g2⟩ := S2 2 (by omega)
    obtain ⟨⟨v3, d3⟩, g3⟩ := S2 3 (by omega)
    clear S2
    go_wp2
    exact bodyPost_ret (v := .agg #[.int .i64 x, .int .i64 y, .int .i64 z, .bool e]) (by simp [results, Try.results36, go_sem, d0, d1, d2, d3]) rfl ⟨_, _, _, _, q + 1, rfl, by omega, r2.set4 _ _ _ _ _ hne (by omega), of2.set4 _ _ _ _ _ (Nat.le_refl _)⟩
end Go.Proofs.Ythfafmafhodlkaa
