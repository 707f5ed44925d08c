/- Texts of the proof, laid together: AnyFact, DrawTab, Dof, WWr, Rm1, Rm2. -/
import Derived.Test.YtibnojbhoepcdaaGreatDoorQb9
import Derived.Test.YtibnojbhoepcdaaGreatDoorQb7
import Derived.Test.YtibnojbhoepcdaaGreatDoorQb6
import Derived.Test.YtibnojbhoepcdaaGreatDoorQb5
import Derived.Test.YtibnojbhoepcdaaGreatDoorQb3
/- Any drawn fact, one that is not ok among them. -/
namespace Go.Proofs.YtibnojbhoepcdaaGreatDoor
open Go.ChangeShapes Go.WideShapes Go.ChangeAt Go.RowKit
attribute [local go_sem ↓] Go.wp_at_zero Go.wp_at_succ
/-- as FactPost, by a longer way -/
def FactPost2 (G : Cd) (B rb p : Nat) (w : World) (r : Ending) (w' : World) : Prop :=
  ∃ (n i s : Int) (g : Bool) (q : Nat), r = .returned (.agg #[.int .i64 n, .int .i64 i, .int .i64 s, .bool g]) ∧ q ≤ p + 40 ∧ Rd G B rb q w' ∧ Off rb w w'
/-- four values lie at block b, and may be written -/
def Val4 (w : World) (b : Nat) (x y z e : Value) : Prop :=
  (w.cell? ⟨b, 0, none⟩ = some x ∧ w.cell? ⟨b, 1, none⟩ = some y ∧ w.cell? ⟨b, 2, none⟩ = some z ∧ w.cell? ⟨b, 3, none⟩ = some e) ∧
  (w.frozen? ⟨b, 0, none⟩ = false ∧ w.frozen? ⟨b, 1, none⟩ = false ∧ w.frozen? ⟨b, 2, none⟩ = false ∧ w.frozen? ⟨b, 3, none⟩ = false)
set_option maxRecDepth 20000 in
theorem Val4.new (w : World) (x y z e : Value) (t : TypeId) : Val4 (w.alloc (.cells #[x, y, z, e] t)) w.heap.size x y z e := by
  refine ⟨⟨?_, ?_, ?_, ?_⟩, ?_, ?_, ?_, ?_⟩ <;> simp [go_sem]
set_option maxRecDepth 20000 in
theorem Val4.off {w w' : World} {b rb : Nat} {x y z e : Value} (h : Val4 w b x y z e) (ha : Off rb w w') (hb : b ≠ rb) : Val4 w' b x y z e := by
  obtain ⟨⟨c0, c1, c2, c3⟩, f0, f1, f2, f3⟩ := h
  have hlt : b < w.heap.size := World.block_lt_of_cell? w _ c0
  exact ⟨⟨(ha.cell (p := ⟨b, 0, none⟩) hlt hb).trans c0, (ha.cell (p := ⟨b, 1, none⟩) hlt hb).trans c1, (ha.cell (p := ⟨b, 2, none⟩) hlt hb).trans c2, (ha.cell (p := ⟨b, 3, none⟩) hlt hb).trans c3⟩, (ha.frozen (p := ⟨b, 0, none⟩) hlt hb).trans f0, (ha.frozen (p := ⟨b, 1, none⟩) hlt hb).trans f1, (ha.frozen (p := ⟨b, 2, none⟩) hlt hb).trans f2, (ha.frozen (p := ⟨b, 3, none⟩) hlt hb).trans f3⟩
set_option maxRecDepth 20000 in
set_option maxHeartbeats 1000000 in
theorem anyFact_any {G : Cd} (B rb p : Nat) (w : World) (h : Rd G B rb p w) (hp : p < 800000) :
    Calls Tryz.prog 80 #[.pointer (some ⟨rb, 0, none⟩)] w (FactPost2 G B rb p w) := by
  have hlt := h.lt
  have hle := h.le
  have hne : w.heap.size ≠ rb := by omega
  go_enter Tryz.func80, Tryz.ntmps80
  go_wp2_with fail
  refine (pick_any B rb p 2 _ (h.alloc _) (by omega)).mono ?_
  rintro r w0 ⟨rfl, ⟨a0, b0⟩, r0, o0⟩
  generalize G.pk p 2 = st at *
  have S0 := (Slot4.new w (.int .i64 0) (.int .i64 0) (.int .i64 0) (.bool false) 53).aside o0 hne
  have of0 := ((Off.refl rb w).alloc (.cells #[.int .i64 0, .int .i64 0, .int .i64 0, .bool false] 53)).trans o0.off
  clear o0
  have b0' : st ≤ 1 := by omega
  clear b0
  go_wp2_with fail
  refine (fact_any B rb (p + 1) st _ r0 (by omega) a0 b0').mono ?_
  rintro r w1 ⟨x, y, z, e, q, rfl, hq, r1, o1⟩
  have S1 := S0.off o1 hne
  have of1 := of0.trans o1
  have z2 := S1.lt
  have z3 := r1.lt
  have hne1 : w1.heap.size ≠ rb := by omega
  have hR : w.heap.size ≠ w1.heap.size := by omega
  clear S0 of0 o1 r0
  go_wp2_with fail
  refine (pick_any B rb q 12 _ (r1.alloc _) (by omega)).mono ?_
  rintro r w2 ⟨rfl, ⟨a2, b2⟩, r2, o2⟩
  generalize G.pk q 12 = k at *
  have N2 := (Val4.new w1 (.int .i64 x) (.int .i64 y) (.int .i64 z) (.bool e) 53).off o2.off hne1
  have S2 := (S1.alloc (.cells #[.int .i64 x, .int .i64 y, .int .i64 z, .bool e] 53)).aside o2 hne
  have of2 := (of1.alloc (.cells #[.int .i64 x, .int .i64 y, .int .i64 z, .bool e] 53)).trans o2.off
  have z4 : w1.heap.size < w2.heap.size := by have := o2.size; simp at this; omega
  clear o2 of1 S1 b2 r1
  generalize w1.heap.size = C at *
  by_cases k0 : k = 0
  · subst k0
    have hne2 : w2.heap.size ≠ rb := by omega
    go_wp2_with fail
    refine (pick_any B rb (q + 1) 2 _ (r2.alloc _) (by omega)).mono ?_
    rintro r w3 ⟨rfl, ⟨a3, b3⟩, r3, o3⟩
    generalize G.pk _ _ = k2 at *
    obtain ⟨m, rfl⟩ := Int.eq_ofNat_of_zero_le a3
    have hm : m < 2 := by omega
    obtain ⟨v, hv⟩ : ∃ r : Int, w3.cell? ⟨w2.heap.size, m, none⟩ = some (.int .i64 r) := by
      rw [o3.cell (p := ⟨w2.heap.size, m, none⟩) hne2]
      exact two w2 _ _ m hm
    have N3 := N2.off ((Off.refl rb w2).alloc _ |>.trans o3.off) hne1
    have S3 := (S2.alloc _).aside o3 hne
    have of3 := (of2.alloc _).trans o3.off
    obtain ⟨⟨c0, c1, c2, c3⟩, f0, f1, f2, f3⟩ := N3
    obtain ⟨⟨v0, d0⟩, g0⟩ := S3 0 (by omega)
    obtain ⟨⟨v1, d1⟩, g1⟩ := S3 1 (by omega)
    obtain ⟨⟨v2, d2⟩, g2⟩ := S3 2 (by omega)
    obtain ⟨⟨v3, d3⟩, g3⟩ := S3 3 (by omega)
    clear N2 S2 S3 of2 o3 b3
    go_wp2
    exact bodyPost_ret (v := .agg #[.int .i64 v, .int .i64 y, .int .i64 z, .bool e]) (by simp [results, Tryz.results80, go_sem, d0, d1, d2, d3]) rfl ⟨_, _, _, _, q + 1 + 1, rfl, by omega, (r3.set C 0 _ hne1 (by omega)).set4 _ _ _ _ _ hne (by omega), (of3.set C 0 _ (by omega)).set4 _ _ _ _ _ (Nat.le_refl _)⟩
  by_cases k1 : k = 1
  · subst k1
    have hne2 : w2.heap.size ≠ rb := by omega
    go_wp2_with fail
    refine (pick_any B rb (q + 1) 2 _ (r2.alloc _) (by omega)).mono ?_
    rintro r w3 ⟨rfl, ⟨a3, b3⟩, r3, o3⟩
    generalize G.pk _ _ = k2 at *
    obtain ⟨m, rfl⟩ := Int.eq_ofNat_of_zero_le a3
    have hm : m < 2 := by omega
    obtain ⟨v, hv⟩ : ∃ r : Int, w3.cell? ⟨w2.heap.size, m, none⟩ = some (.int .i64 r) := by
      rw [o3.cell (p := ⟨w2.heap.size, m, none⟩) hne2]
      exact two w2 _ _ m hm
    have N3 := N2.off ((Off.refl rb w2).alloc _ |>.trans o3.off) hne1
    have S3 := (S2.alloc _).aside o3 hne
    have of3 := (of2.alloc _).trans o3.off
    obtain ⟨⟨c0, c1, c2, c3⟩, f0, f1, f2, f3⟩ := N3
    obtain ⟨⟨v0, d0⟩, g0⟩ := S3 0 (by omega)
    obtain ⟨⟨v1, d1⟩, g1⟩ := S3 1 (by omega)
    obtain ⟨⟨v2, d2⟩, g2⟩ := S3 2 (by omega)
    obtain ⟨⟨v3, d3⟩, g3⟩ := S3 3 (by omega)
    clear N2 S2 S3 of2 o3 b3
    go_wp2
    exact bodyPost_ret (v := .agg #[.int .i64 x, .int .i64 v, .int .i64 z, .bool e]) (by simp [results, Tryz.results80, go_sem, d0, d1, d2, d3]) rfl ⟨_, _, _, _, q + 1 + 1, rfl, by omega, (r3.set C 1 _ hne1 (by omega)).set4 _ _ _ _ _ hne (by omega), (of3.set C 1 _ (by omega)).set4 _ _ _ _ _ (Nat.le_refl _)⟩
  by_cases k2' : k = 2
  · subst k2'
    have hne2 : w2.heap.size ≠ rb := by omega
    go_wp2_with fail
    refine (pick_any B rb (q + 1) 2 _ (r2.alloc _) (by omega)).mono ?_
    rintro r w3 ⟨rfl, ⟨a3, b3⟩, r3, o3⟩
    generalize G.pk _ _ = k2 at *
    obtain ⟨m, rfl⟩ := Int.eq_ofNat_of_zero_le a3
    have hm : m < 2 := by omega
    obtain ⟨v, hv⟩ : ∃ r : Int, w3.cell? ⟨w2.heap.size, m, none⟩ = some (.int .i64 r) := by
      rw [o3.cell (p := ⟨w2.heap.size, m, none⟩) hne2]
      exact two w2 _ _ m hm
    have N3 := N2.off ((Off.refl rb w2).alloc _ |>.trans o3.off) hne1
    have S3 := (S2.alloc _).aside o3 hne
    have of3 := (of2.alloc _).trans o3.off
    obtain ⟨⟨c0, c1, c2, c3⟩, f0, f1, f2, f3⟩ := N3
    obtain ⟨⟨v0, d0⟩, g0⟩ := S3 0 (by omega)
    obtain ⟨⟨v1, d1⟩, g1⟩ := S3 1 (by omega)
    obtain ⟨⟨v2, d2⟩, g2⟩ := S3 2 (by omega)
    obtain ⟨⟨v3, d3⟩, g3⟩ := S3 3 (by omega)
    clear N2 S2 S3 of2 o3 b3
    go_wp2
    exact bodyPost_ret (v := .agg #[.int .i64 x, .int .i64 y, .int .i64 v, .bool e]) (by simp [results, Tryz.results80, go_sem, d0, d1, d2, d3]) rfl ⟨_, _, _, _, q + 1 + 1, rfl, by omega, (r3.set C 2 _ hne1 (by omega)).set4 _ _ _ _ _ hne (by omega), (of3.set C 2 _ (by omega)).set4 _ _ _ _ _ (Nat.le_refl _)⟩
  by_cases k3 : k = 3
  · subst k3
    obtain ⟨⟨c0, c1, c2, c3⟩, f0, f1, f2, f3⟩ := N2
    obtain ⟨⟨v0, d0⟩, g0⟩ := S2 0 (by omega)
    obtain ⟨⟨v1, d1⟩, g1⟩ := S2 1 (by omega)
    obtain ⟨⟨v2, d2⟩, g2⟩ := S2 2 (by omega)
    obtain ⟨⟨v3, d3⟩, g3⟩ := S2 3 (by omega)
    clear S2
    go_wp2
    exact bodyPost_ret (v := .agg #[.int .i64 x, .int .i64 y, .int .i64 z, .bool (!e)]) (by simp [results, Tryz.results80, go_sem, d0, d1, d2, d3]) rfl ⟨_, _, _, _, q + 1, rfl, by omega, (r2.set C 3 _ hne1 (by omega)).set4 _ _ _ _ _ hne (by omega), (of2.set C 3 _ (by omega)).set4 _ _ _ _ _ (Nat.le_refl _)⟩
  · have e0 : (k == 0) = false := by simp [k0]
    have e1 : (k == 1) = false := by simp [k1]
    have e2 : (k == 2) = false := by simp [k2']
    have e3 : (k == 3) = false := by simp [k3]
    obtain ⟨⟨c0, c1, c2, c3⟩, f0, f1, f2, f3⟩ := N2
    obtain ⟨⟨v0, d0⟩, g0⟩ := S2 0 (by omega)
    obtain ⟨⟨v1, d1⟩, g1⟩ := S2 1 (by omega)
    obtain ⟨⟨v2, d2⟩, g2⟩ := S2 2 (by omega)
    obtain ⟨⟨v3, d3⟩, g3⟩ := S2 3 (by omega)
    clear S2
    go_wp2
    exact bodyPost_ret (v := .agg #[.int .i64 x, .int .i64 y, .int .i64 z, .bool e]) (by simp [results, Tryz.results80, go_sem, d0, d1, d2, d3]) rfl ⟨_, _, _, _, q + 1, rfl, by omega, r2.set4 _ _ _ _ _ hne (by omega), of2.set4 _ _ _ _ _ (Nat.le_refl _)⟩
end Go.Proofs.YtibnojbhoepcdaaGreatDoor
/- Drawn tables: some ascending list of facts; and any, one that is no table among them. -/
namespace Go.Proofs.YtibnojbhoepcdaaGreatDoor
open Go.ChangeShapes Go.WideShapes Go.ChangeAt Go.RowKit
attribute [local go_sem ↓] Go.wp_at_zero Go.wp_at_succ
set_option maxRecDepth 20000 in
theorem own_off {rb : Nat} {w w' : World} {base size n : Nat} {e : TypeId} {v : Value} {xs : List Value} (h : w.ownsRow base e size v n xs) (ho : Off rb w w') (hb : rb < base) : w'.ownsRow base e size v n xs := by
  refine ⟨h.1, h.2.imp id ?_⟩
  rintro ⟨g, cap, cur, hv, hg, hh, r⟩
  exact ⟨g, cap, cur, hv, hg, (ho.block g (lt_of_block hh) (by omega)).trans hh, r⟩
/-- some table -/
def TabPost (G : Cd) (B rb p : Nat) (w : World) (r : Ending) (w' : World) : Prop :=
  ∃ (a : Option Addr) (c : Nat) (T : List Fc) (q : Nat), r = .returned (.slice a T.length c) ∧ Value.slice a T.length c ≠ .slice none 0 0 ∧ w'.ownsRow w.heap.size 53 4 (.slice a T.length c) T.length (fl T) ∧ Asc T ∧ T.length ≤ 6 ∧ q ≤ p + 300 ∧ Rd G B rb q w' ∧ Off rb w w'
set_option maxRecDepth 20000 in
set_option maxHeartbeats 2000000 in
theorem table_any {G : Cd} (B rb p : Nat) (site : Int) (w : World) (h : Rd G B rb p w) (hp : p < 700000) (hs : site = -1 ∨ (0 ≤ site ∧ site ≤ 1)) :
    Calls Tryz.prog 32 #[.pointer (some ⟨rb, 0, none⟩), .int .i64 site] w (TabPost G B rb p w) := by
  have hlt := h.lt
  go_enter Tryz.func32, Tryz.ntmps32
  go_wp2_with fail
  refine (pick_any B rb p 6 _ (h.alloc _) (by omega)).mono ?_
  rintro r w1 ⟨rfl, ⟨a1, b1⟩, r1, o1⟩
  generalize G.pk p 6 = k0 at *
  obtain ⟨m, rfl⟩ := Int.eq_ofNat_of_zero_le a1
  have hm : m ≤ 5 := by omega
  have O1 := own_off (own_emptyF w w.heap.size (Nat.le_refl _)) o1.off hlt
  have of1 := ((Off.refl rb w).alloc (.cells #[] 53)).trans o1.off
  clear a1 b1 o1
  go_wp2_with fail
  go_loopw [5, 6, 7] (fun v i _ wr => ∃ (k : Nat) (a : Option Addr) (c : Nat) (T : List Fc) (q : Nat), i = .int .i64 k ∧ k ≤ 5 ∧ v = .slice a T.length c ∧ Value.slice a T.length c ≠ .slice none 0 0 ∧ wr.ownsRow w.heap.size 53 4 (.slice a T.length c) T.length (fl T) ∧ Asc T ∧ T.length + k ≤ 5 ∧ q + 40 * k ≤ p + 300 ∧ Rd G B rb q wr ∧ Off rb w wr) (fun _ i _ _ => (intOf i).toNat)
  case atStart => exact ⟨m, _, 0, [], p + 1, rfl, hm, rfl, by simp, O1, List.Pairwise.nil, by simpa using hm, by omega, r1, of1⟩
  case round =>
    obtain ⟨k, a, c, T, q, rfl, hk, rfl, hn, hown, hA, hl, hq, hr, hof⟩ := hrel
    clear O1 of1 r1
    by_cases h0 : 0 < k
    · have i0 : (0 : Int) < (k : Int) := by omega
      have hne : w.heap.size ≤ wr.heap.size := hof.size
      rcases hs with rfl | ⟨s0, s1⟩
      · go_wp2_with fail
        refine (pick_any B rb q 2 _ hr (by omega)).mono ?_
        rintro r w2 ⟨rfl, ⟨a2, b2⟩, r2, o2⟩
        generalize G.pk q 2 = st at *
        have b2' : st ≤ 1 := by omega
        have hown2 := own_off hown o2.off hlt
        have of2 := hof.trans o2.off
        clear b2 o2 hown hof hr
        go_wp2_with fail
        refine (fact_any B rb (q + 1) st _ r2 (by omega) a2 b2').mono ?_
        rintro r w3 ⟨fn, fi, fs, fg, q3, rfl, hq3, r3, o3⟩
        have hown3 := own_off hown2 o3 hlt
        have of3 := of2.trans o3
        clear o3 hown2 of2 r2
        go_wp2_with fail
        refine (l3put_own w.heap.size a c T.length T ⟨fn, fi, fs, fg⟩ _ hown3 hn hA (by omega) of3.size).mono ?_
        rintro r w4 ⟨a4, c4, rfl, hn4, o4, b4⟩
        have hA4 := tput_asc (f := ⟨fn, fi, fs, fg⟩) hA
        have hl4 := tput_len_le T ⟨fn, fi, fs, fg⟩
        have r4 := r3.below b4
        have of4 := of3.trans (Off.ofBelow rb b4)
        clear b4 hown3 of3 r3
        generalize tput T ⟨fn, fi, fs, fg⟩ = T4 at *
        go_wp2
        go_roundw
        case rel => exact ⟨k - 1, a4, c4, T4, q3, by go_num, by omega, rfl, hn4, o4, hA4, by omega, by omega, r4, of4⟩
        case measure => simp [intOf]; omega
      · have i2 : ¬ site < 0 := by omega
        go_wp2_with fail
        refine (fact_any B rb q site _ hr (by omega) s0 s1).mono ?_
        rintro r w3 ⟨fn, fi, fs, fg, q3, rfl, hq3, r3, o3⟩
        have hown3 := own_off hown o3 hlt
        have of3 := hof.trans o3
        clear o3 hown hof hr
        go_wp2_with fail
        refine (l3put_own w.heap.size a c T.length T ⟨fn, fi, fs, fg⟩ _ hown3 hn hA (by omega) of3.size).mono ?_
        rintro r w4 ⟨a4, c4, rfl, hn4, o4, b4⟩
        have hA4 := tput_asc (f := ⟨fn, fi, fs, fg⟩) hA
        have hl4 := tput_len_le T ⟨fn, fi, fs, fg⟩
        have r4 := r3.below b4
        have of4 := of3.trans (Off.ofBelow rb b4)
        clear b4 hown3 of3 r3
        generalize tput T ⟨fn, fi, fs, fg⟩ = T4 at *
        go_wp2
        go_roundw
        case rel => exact ⟨k - 1, a4, c4, T4, q3, by go_num, by omega, rfl, hn4, o4, hA4, by omega, by omega, r4, of4⟩
        case measure => simp [intOf]; omega
    · have i0 : ¬ (0 : Int) < (k : Int) := by omega
      go_wp2
      go_ret
      exact ⟨a, c, T, q, rfl, hn, hown, hA, by omega, by omega, hr, hof⟩
/-- some list of facts -/
def LstPost (G : Cd) (B rb p : Nat) (w : World) (r : Ending) (w' : World) : Prop :=
  ∃ (a : Option Addr) (c : Nat) (T : List Fc) (q : Nat), r = .returned (.slice a T.length c) ∧ Value.slice a T.length c ≠ .slice none 0 0 ∧ w'.ownsRow w.heap.size 53 4 (.slice a T.length c) T.length (fl T) ∧ T.length ≤ 7 ∧ q ≤ p + 400 ∧ Rd G B rb q w' ∧ Off rb w w'
set_option maxRecDepth 20000 in
theorem off_grown {rb : Nat} {u w w' : World} {r : Option Nat} (h : Off rb u w) (hg : w.grownBy w' r) (hr : ∀ k, r = some k → u.heap.size ≤ k) : Off rb u w' :=
  ⟨hg.os.trans h.os, hg.tape.trans h.tape, hg.output.trans h.output, Nat.le_trans h.size hg.size, fun k hk hn => (hg.block k (Nat.lt_of_lt_of_le hk h.size) (fun e => by have := hr k e.symm; omega)).trans (h.block k hk hn)⟩
set_option maxRecDepth 20000 in
theorem rd_grown {G : Cd} {B rb p : Nat} {w w' : World} {r : Option Nat} (h : Rd G B rb p w) (hg : w.grownBy w' r) (hr : ∀ k, r = some k → B ≤ k ∧ k ≠ rb) : Rd G B rb p w' := by
  obtain ⟨a1, a2, a3, a4, a5, a, cap, hl, a6, hc0, a7⟩ := h
  have hb : ∀ k, k < w.heap.size → (k = rb ∨ k < B) → w'.heap[k]? = w.heap[k]? := fun k hk hh => hg.block k hk (fun e => by have := hr k e.symm; omega)
  have hbr := hb rb a2 (.inl rfl)
  refine ⟨a1, by have := hg.size; omega, a3, ?_, ?_, a, cap, hl, ?_, hc0, ?_⟩
  · exact (World.frozen?_of_block (w := w) (a := ⟨rb, 1, none⟩) hbr).trans a4
  · exact (World.cell?_of_block (w := w) (a := ⟨rb, 1, none⟩) hbr).trans a5
  · exact (World.cell?_of_block (w := w) (a := ⟨rb, 0, none⟩) hbr).trans a6
  · rcases a7 with a7 | ⟨b, off, rfl, hbb, hcc⟩
    · exact .inl a7
    · refine .inr ⟨b, off, rfl, hbb, fun i hi => ?_⟩
      exact (World.cell?_of_block (w := w) (a := ⟨b, off + i, none⟩) (hb b (by omega) (.inr hbb))).trans (hcc i hi)
end Go.Proofs.YtibnojbhoepcdaaGreatDoor
/- Drawn texts: one of a list; a text bent. -/
namespace Go.Proofs.YtibnojbhoepcdaaGreatDoor
open Go.ChangeShapes Go.WideShapes Go.ChangeAt Go.RowKit
attribute [local go_sem ↓] Go.wp_at_zero Go.wp_at_succ
theorem txt_size (n : Nat) (F : Nat → Fc) (hn : n ≤ 8) : (txt n F).size ≤ 200 := by
  unfold txt
  split
  · rename_i h
    have := ttx_len F n (tok_all h).1
    split
    · decide
    · show (ttx (seqF F n)).toArray.size ≤ 200
      rw [List.size_toArray]
      omega
  · decide
def l14 : List ByteArray := [⟨#[]⟩, ⟨#[45]⟩, ⟨#[45, 45]⟩, ⟨#[49, 58, 50]⟩, ⟨#[49, 58, 48, 58, 97, 108, 105, 118, 101]⟩, ⟨#[48, 49, 58, 48, 58, 97, 108, 105, 118, 101]⟩, ⟨#[49, 58, 48, 58, 97, 108, 105, 118, 101, 44, 49, 58, 48, 58, 97, 108, 105, 118, 101]⟩, ⟨#[50, 58, 48, 58, 97, 108, 105, 118, 101, 44, 49, 58, 48, 58, 97, 108, 105, 118, 101]⟩, ⟨#[57, 58, 48, 58, 97, 108, 105, 118, 101]⟩, ⟨#[49, 58, 49, 48, 48, 48, 58, 97, 108, 105, 118, 101]⟩, ⟨#[49, 58, 48, 58, 103, 111, 110, 101]⟩, ⟨#[49, 58, 48, 58, 97, 108, 105, 118, 101, 42, 42]⟩, ⟨#[42]⟩, ⟨#[44]⟩]
def l6 : List ByteArray := [⟨#[44]⟩, ⟨#[58]⟩, ⟨#[42]⟩, ⟨#[48]⟩, ⟨#[32]⟩, ⟨#[45]⟩]
end Go.Proofs.YtibnojbhoepcdaaGreatDoor
/- How a word is written, the program's way. -/
namespace Go.Proofs.YtibnojbhoepcdaaGreatDoor
open Go.ChangeShapes Go.WideShapes Go.ChangeAt Go.RowKit
attribute [local go_sem ↓] Go.wp_at_zero Go.wp_at_succ
/-- a word's text without its sum -/
def bodyL (p k f t s q x y z e : Int) (T : ByteArray) : List UInt8 := Lib.join [poolL p, kindL k, Lib.itoa f, Lib.itoa t, Lib.itoa s, Lib.itoa q, sgn x, sgn y, Lib.itoa z, Lib.itoa e, T.data.toList] [32]
/-- a word's text -/
def wtx (p k f t s q x y z e : Int) (len : Nat) (F : Nat → Fc) : ByteArray := if wokB p k f t s q x y z e len F = true then bs (bodyL p k f t s q x y z e (txt len F)) ++ bs [32] ++ bs (S.hex8 (S.sumN (bs (bodyL p k f t s q x y z e (txt len F))))) else bs []
theorem sumN_lt (s : ByteArray) : S.sumN s < 4294967296 := Nat.xor_lt_two_pow (n := 32) (S.crcN_lt (S.byt s) (S.byt_lt s) s.size) (by omega)
theorem join11 (x0 x1 x2 x3 x4 x5 x6 x7 x8 x9 x10 J : ByteArray) (hJ : ByteArray.mk (Lib.join ([x0, x1, x2, x3, x4, x5, x6, x7, x8, x9, x10].map (·.data.toList)) [32]).toArray = J) (hs : J.size ≤ 1000) (w : World) :
    Calls Tryz.prog 38 #[.slice (some ⟨w.heap.size, 0, none⟩) 11 11, .string ⟨#[32]⟩] (w.alloc (.cells #[.string x0, .string x1, .string x2, .string x3, .string x4, .string x5, .string x6, .string x7, .string x8, .string x9, .string x10] 9)) fun e w' => e = .returned (.string J) ∧ Below (w.alloc (.cells #[.string x0, .string x1, .string x2, .string x3, .string x4, .string x5, .string x6, .string x7, .string x8, .string x9, .string x10] 9)).heap.size (w.alloc (.cells #[.string x0, .string x1, .string x2, .string x3, .string x4, .string x5, .string x6, .string x7, .string x8, .string x9, .string x10] 9)) w' := by
  have hl : (Lib.join ([x0, x1, x2, x3, x4, x5, x6, x7, x8, x9, x10].map (·.data.toList)) [32]).length ≤ 1000 := by
    rw [← hJ] at hs
    exact hs
  have h := Tryz.strings_Join w.heap.size 0 11 [x0, x1, x2, x3, x4, x5, x6, x7, x8, x9, x10] ⟨#[32]⟩ (w.alloc (.cells #[.string x0, .string x1, .string x2, .string x3, .string x4, .string x5, .string x6, .string x7, .string x8, .string x9, .string x10] 9)) (fun j x hx => by
    rw [World.cell?_alloc_new, Nat.zero_add, show (#[.string x0, .string x1, .string x2, .string x3, .string x4, .string x5, .string x6, .string x7, .string x8, .string x9, .string x10] : Array Value) = ([x0, x1, x2, x3, x4, x5, x6, x7, x8, x9, x10].map Value.string).toArray from rfl, List.getElem?_toArray, List.getElem?_map, hx]; rfl) (by simp) (by simp) (by simp) (Nat.le_trans hl (by omega))
  rw [← hJ]
  exact h
theorem wok_lit (p k f t s q x y z e : Int) (a : Option Addr) (len cap : Nat) (F : Nat → Fc) (b : Bool) (hb : wokB p k f t s q x y z e len F = b) (w : World) (h : FSl w a len F) (hl : len ≤ 1048576) :
    Calls Tryz.prog 23 #[.agg #[.int .i64 p, .int .i64 k, .int .i64 f, .int .i64 t, .int .i64 s, .int .i64 q, .int .i64 x, .int .i64 y, .int .i64 z, .int .i64 e, (.slice a len cap)]] w fun r w' => r = .returned (.bool b) ∧ Below w.heap.size w w' := hb ▸ wok_any p k f t s q x y z e a len cap F w h hl
theorem pool_lit (s : Int) (x : ByteArray) (h1 : 1 ≤ s) (h4 : s ≤ 2) (hx : bs (poolL s) = x) (w : World) (ht : Tabs w) :
    Calls Tryz.prog 48 #[.string (bs [108, 97, 110, 32, 119, 97, 110]), .int .i64 s] w fun e w' => e = .returned (.string x) ∧ Below w.heap.size w w' := hx ▸ pool_of s h1 h4 w ht
theorem kind_lit (s : Int) (x : ByteArray) (h1 : 1 ≤ s) (h4 : s ≤ 6) (hx : bs (kindL s) = x) (w : World) (ht : Tabs w) :
    Calls Tryz.prog 48 #[.string (bs [112, 105, 110, 103, 32, 97, 99, 107, 32, 97, 115, 107, 32, 115, 121, 110, 99, 32, 98, 97, 99, 107, 32, 115, 117, 109]), .int .i64 s] w fun e w' => e = .returned (.string x) ∧ Below w.heap.size w w' := hx ▸ kind_of s h1 h4 w ht
theorem itoa6_lit (n : Int) (x : ByteArray) (h0 : -999999 ≤ n) (h1 : n ≤ 999999) (hx : bs (Lib.itoa n) = x) (w : World) (ht : Tabs w) :
    Calls Tryz.prog 49 #[.int .i64 n] w fun e w' => e = .returned (.string x) ∧ Below w.heap.size w w' := hx ▸ itoa6_any n h0 h1 w ht
theorem sgn_lit (n : Int) (x : ByteArray) (h0 : -999999 ≤ n) (h1 : n ≤ 999999) (hx : bs (sgn n) = x) (w : World) (ht : Tabs w) :
    Calls Tryz.prog 50 #[.int .i64 n] w fun e w' => e = .returned (.string x) ∧ Below w.heap.size w w' := hx ▸ sgn_any n h0 h1 w ht
theorem text_lit (a : Option Addr) (len cap : Nat) (F : Nat → Fc) (x : ByteArray) (hx : txt len F = x) (w : World) (h : FSl w a len F) (hl : len ≤ 1048576) (ht : Tabs w) :
    Calls Tryz.prog 12 #[.slice a len cap] w fun e w' => e = .returned (.string x) ∧ Below w.heap.size w w' := hx ▸ text_any a len cap F w h hl ht
theorem wok_facts {p k f t s q x y z e : Int} {len : Nat} {F : Nat → Fc} (h : wokB p k f t s q x y z e len F = true) : 1 ≤ p ∧ p ≤ 2 ∧ 1 ≤ k ∧ k ≤ 6 ∧ 0 ≤ f ∧ f ≤ 7 ∧ 0 ≤ t ∧ t ≤ 7 ∧ 0 ≤ s ∧ s ≤ 999999 ∧ 0 ≤ q ∧ q ≤ 7 ∧ -100000 ≤ x ∧ x ≤ 100000 ∧ -100000 ≤ y ∧ y ≤ 100000 ∧ 0 ≤ z ∧ z ≤ 100000 ∧ 1 ≤ e ∧ e ≤ 1500 ∧ tokB len F = true := by
  simp only [wokB, preB, cok, inb, Bool.and_eq_true, decide_eq_true_eq] at h
  have htok : tokB len F = true := h.1.2
  refine ⟨by omega, by omega, by omega, by omega, by omega, by omega, by omega, by omega, by omega, by omega, by omega, by omega, by omega, by omega, by omega, by omega, by omega, by omega, by omega, by omega, htok⟩
theorem dec_len6 (n : Int) (h0 : 0 ≤ n) (h1 : n ≤ 999999) : (Lib.itoa n).length ≤ 6 := by
  obtain ⟨u, rfl⟩ : ∃ u : Nat, n = u := ⟨n.toNat, by omega⟩
  rw [Lib.itoa_nonneg]
  exact dd6_len u (by omega)
theorem poolL_len (s : Int) : (poolL s).length ≤ 3 := by unfold poolL; split <;> decide
theorem kindL_len (s : Int) : (kindL s).length ≤ 4 := by
  unfold kindL
  split
  · decide
  · split
    · decide
    · split
      · decide
      · split
        · decide
        · split <;> decide
theorem body_len {p k f t s q x y z e : Int} {len : Nat} {F : Nat → Fc} (h : wokB p k f t s q x y z e len F = true) : (bodyL p k f t s q x y z e (txt len F)).length ≤ 300 := by
  obtain ⟨r0, r1, r2, r3, r4, r5, r6, r7, r8, r9, r10, r11, r12, r13, r14, r15, r16, r17, r18, r19, r20⟩ := wok_facts h
  have m8 := tok_len r20
  have l0 := poolL_len p
  have l1 := kindL_len k
  have l2 := dec_len6 f (by omega) (by omega)
  have l3 := dec_len6 t (by omega) (by omega)
  have l4 := dec_len6 s (by omega) (by omega)
  have l5 := dec_len6 q (by omega) (by omega)
  have l6 := sgn_len x (by omega) (by omega)
  have l7 := sgn_len y (by omega) (by omega)
  have l8 := dec_len6 z (by omega) (by omega)
  have l9 := dec_len6 e (by omega) (by omega)
  have l10 : (txt len F).data.toList.length ≤ 200 := txt_size len F m8
  unfold bodyL
  rw [Lib.join_cons]
  simp only [Lib.joinTail, List.map_cons, List.map_nil, List.flatten_cons, List.flatten_nil, List.length_append, List.length_cons, List.length_nil]
  omega
set_option maxRecDepth 20000 in
set_option maxHeartbeats 8000000 in
theorem write_any (p k f t s q x y z e : Int) (a : Option Addr) (len cap : Nat) (F : Nat → Fc) (w : World) (h : FSl w a len F) (hl : len ≤ 1048576) (ht : Tabs w) (hc : w.cell? ⟨9, 15, none⟩ = some (.int .u8 4)) :
    Calls Tryz.prog 20 #[.agg #[.int .i64 p, .int .i64 k, .int .i64 f, .int .i64 t, .int .i64 s, .int .i64 q, .int .i64 x, .int .i64 y, .int .i64 z, .int .i64 e, (.slice a len cap)]] w fun r w' => r = .returned (.string (wtx p k f t s q x y z e len F)) ∧ Below w.heap.size w w' := by
  have b0 := balloc (.cells #[.int .i64 p, .int .i64 k, .int .i64 f, .int .i64 t, .int .i64 s, .int .i64 q, .int .i64 x, .int .i64 y, .int .i64 z, .int .i64 e, (.slice a len cap)] 35) (Below.refl w.heap.size w)
  have p0 : (w.alloc (.cells #[.int .i64 p, .int .i64 k, .int .i64 f, .int .i64 t, .int .i64 s, .int .i64 q, .int .i64 x, .int .i64 y, .int .i64 z, .int .i64 e, (.slice a len cap)] 35)).heap[w.heap.size]? = some (.cells #[.int .i64 p, .int .i64 k, .int .i64 f, .int .i64 t, .int .i64 s, .int .i64 q, .int .i64 x, .int .i64 y, .int .i64 z, .int .i64 e, (.slice a len cap)] 35 (0, 0)) := heap_alloc_new _ _
  have tA := ht.below b0
  have gA := h.below b0
  cases hok : wokB p k f t s q x y z e len F
  · have e1 : wtx p k f t s q x y z e len F = bs [] := by unfold wtx; rw [hok]; rfl
    rw [e1]
    have hokH : Hid (wokB p k f t s q x y z e len F = false) := hok
    clear e1 hok
    go_enter Tryz.func20, Tryz.ntmps20
    go_wp2_with fail
    refine (wok_lit p k f t s q x y z e a len cap F _ hokH.out _ gA hl).mono ?_
    rintro r w1 ⟨rfl, b1⟩
    have B1 := btrans b0 b1
    go_wp2
    go_ret
    exact ⟨rfl, B1⟩
  · have hokH : Hid (wokB p k f t s q x y z e len F = true) := hok
    obtain ⟨r0, r1, r2, r3, r4, r5, r6, r7, r8, r9, r10, r11, r12, r13, r14, r15, r16, r17, r18, r19, r20⟩ := wok_facts hok
    have m8 := tok_len r20
    have e1 : Hid (wtx p k f t s q x y z e len F = bs (bodyL p k f t s q x y z e (txt len F)) ++ bs [32] ++ bs (S.hex8 (S.sumN (bs (bodyL p k f t s q x y z e (txt len F)))))) := by unfold Hid wtx; rw [hok]; rfl
    have hbl : (bs (bodyL p k f t s q x y z e (txt len F))).size ≤ 300 := body_len hok
    clear hok r20
    go_enter Tryz.func20, Tryz.ntmps20
    go_wp2_with fail
    refine (wok_lit p k f t s q x y z e a len cap F _ hokH.out _ gA hl).mono ?_
    rintro r u1 ⟨rfl, b1⟩
    have B1 := btrans b0 b1
    have tB := tA.below b1
    have gB := gA.below b1
    have c0 := keep_below b1 (cell_block (o := 0) (v := .int .i64 p) p0 rfl)
    have c1 := keep_below b1 (cell_block (o := 1) (v := .int .i64 k) p0 rfl)
    have c2 := keep_below b1 (cell_block (o := 2) (v := .int .i64 f) p0 rfl)
    have c3 := keep_below b1 (cell_block (o := 3) (v := .int .i64 t) p0 rfl)
    have c4 := keep_below b1 (cell_block (o := 4) (v := .int .i64 s) p0 rfl)
    have c5 := keep_below b1 (cell_block (o := 5) (v := .int .i64 q) p0 rfl)
    have c6 := keep_below b1 (cell_block (o := 6) (v := .int .i64 x) p0 rfl)
    have c7 := keep_below b1 (cell_block (o := 7) (v := .int .i64 y) p0 rfl)
    have c8 := keep_below b1 (cell_block (o := 8) (v := .int .i64 z) p0 rfl)
    have c9 := keep_below b1 (cell_block (o := 9) (v := .int .i64 e) p0 rfl)
    have c10 := keep_below b1 (cell_block (o := 10) (v := .slice a len cap) p0 rfl)
    clear p0 tA gA b0 b1 hokH
    obtain ⟨x0, hx0⟩ : ∃ xx, Hid (bs (poolL p) = xx) := ⟨_, rfl⟩
    obtain ⟨x1, hx1⟩ : ∃ xx, Hid (bs (kindL k) = xx) := ⟨_, rfl⟩
    obtain ⟨x2, hx2⟩ : ∃ xx, Hid (bs (Lib.itoa f) = xx) := ⟨_, rfl⟩
    obtain ⟨x3, hx3⟩ : ∃ xx, Hid (bs (Lib.itoa t) = xx) := ⟨_, rfl⟩
    obtain ⟨x4, hx4⟩ : ∃ xx, Hid (bs (Lib.itoa s) = xx) := ⟨_, rfl⟩
    obtain ⟨x5, hx5⟩ : ∃ xx, Hid (bs (Lib.itoa q) = xx) := ⟨_, rfl⟩
    obtain ⟨x6, hx6⟩ : ∃ xx, Hid (bs (sgn x) = xx) := ⟨_, rfl⟩
    obtain ⟨x7, hx7⟩ : ∃ xx, Hid (bs (sgn y) = xx) := ⟨_, rfl⟩
    obtain ⟨x8, hx8⟩ : ∃ xx, Hid (bs (Lib.itoa z) = xx) := ⟨_, rfl⟩
    obtain ⟨x9, hx9⟩ : ∃ xx, Hid (bs (Lib.itoa e) = xx) := ⟨_, rfl⟩
    obtain ⟨x10, hx10⟩ : ∃ xx, Hid (txt len F = xx) := ⟨_, rfl⟩
    have hJ0 : bs (bodyL p k f t s q x y z e (txt len F)) = ByteArray.mk (Lib.join ([x0, x1, x2, x3, x4, x5, x6, x7, x8, x9, x10].map (·.data.toList)) [32]).toArray := by
      rw [← hx0.out, ← hx1.out, ← hx2.out, ← hx3.out, ← hx4.out, ← hx5.out, ← hx6.out, ← hx7.out, ← hx8.out, ← hx9.out, ← hx10.out]
      rfl
    obtain ⟨J, hJ⟩ : ∃ J, Hid (ByteArray.mk (Lib.join ([x0, x1, x2, x3, x4, x5, x6, x7, x8, x9, x10].map (·.data.toList)) [32]).toArray = J) := ⟨_, rfl⟩
    have hJs : J.size ≤ 1000 := by
      rw [← hJ.out, ← hJ0]
      exact Nat.le_trans hbl (by omega)
    rw [hJ0, hJ.out] at e1
    have hsm := sumN_lt J
    clear hbl hJ0
    go_upto_region 3 with fail
    have t0 : Tabs u1.drew := tB.below (qd (Below.refl _ _))
    have g0 : FSl u1.drew a len F := gB.below (qd (Below.refl _ _))
    · refine wp_region_held_drew (S := fun w' => w'.cell? ⟨w.heap.size, 0, none⟩ = some (.int .i64 p) ∧ w'.cell? ⟨w.heap.size, 1, none⟩ = some (.int .i64 k) ∧ w'.cell? ⟨w.heap.size, 2, none⟩ = some (.int .i64 f) ∧ w'.cell? ⟨w.heap.size, 3, none⟩ = some (.int .i64 t) ∧ w'.cell? ⟨w.heap.size, 4, none⟩ = some (.int .i64 s) ∧ w'.cell? ⟨w.heap.size, 5, none⟩ = some (.int .i64 q) ∧ w'.cell? ⟨w.heap.size, 6, none⟩ = some (.int .i64 x) ∧ w'.cell? ⟨w.heap.size, 7, none⟩ = some (.int .i64 y) ∧ w'.cell? ⟨w.heap.size, 8, none⟩ = some (.int .i64 z) ∧ w'.cell? ⟨w.heap.size, 9, none⟩ = some (.int .i64 e) ∧ w'.cell? ⟨w.heap.size, 10, none⟩ = some (.slice a len cap)) (by kernel_rfl) ?_ (fun hHeld => ?_)
      · (try dsimp only); (refine ⟨?_, ?_, ?_, ?_, ?_, ?_, ?_, ?_, ?_, ?_, ?_⟩ <;> (repeat (first | with_reducible assumption | with_reducible refine keep_drew ?_ | with_reducible refine keep_alloc _ ?_ | with_reducible refine keep_below (by assumption) ?_)))
      refine wpAnyH_take (i := 0) (oi := { dst := some 7, op := .fieldAddr 35 (.tmp 1) 0, type := 0, pos := "l4_word.go:231", after := #[], guard := none }) (v := ?_) rfl (by kernel_rfl) (by kernel_rfl) (by kernel_rfl) (fun _ _ _ h => h) (Or.inl ⟨by rfl, ?_⟩) (by assumption) ?_
      rotate_left 1
      · (intro w hSw; (try dsimp only at hSw); go_simp; try with_reducible rfl)
      (try simp only [Act.put, List.setIfInBounds_toArray, List.set_cons_zero, List.set_cons_succ])
      refine wpAnyH_take (i := 1) (oi := { dst := some 8, op := .load 3 (.tmp 7), type := 3, pos := "l4_word.go:231", after := #[{ on := 0, ground := .data }], guard := none }) (v := ?_) rfl (by kernel_rfl) (by kernel_rfl) (by kernel_rfl) (fun _ _ _ h => h) (Or.inl ⟨by rfl, ?_⟩) (by assumption) ?_
      rotate_left 1
      · (intro w hSw; (try dsimp only at hSw); go_simp; try with_reducible rfl)
      (try simp only [Act.put, List.setIfInBounds_toArray, List.set_cons_zero, List.set_cons_succ])
      refine wpAnyH_take (i := 3) (oi := { dst := some 10, op := .fieldAddr 35 (.tmp 1) 1, type := 0, pos := "l4_word.go:231", after := #[], guard := none }) (v := ?_) rfl (by kernel_rfl) (by kernel_rfl) (by kernel_rfl) (fun _ _ _ h => h) (Or.inl ⟨by rfl, ?_⟩) (by assumption) ?_
      rotate_left 1
      · (intro w hSw; (try dsimp only at hSw); go_simp; try with_reducible rfl)
      (try simp only [Act.put, List.setIfInBounds_toArray, List.set_cons_zero, List.set_cons_succ])
      refine wpAnyH_take (i := 4) (oi := { dst := some 11, op := .load 3 (.tmp 10), type := 3, pos := "l4_word.go:231", after := #[{ on := 3, ground := .data }], guard := none }) (v := ?_) rfl (by kernel_rfl) (by kernel_rfl) (by kernel_rfl) (fun _ _ _ h => h) (Or.inl ⟨by rfl, ?_⟩) (by assumption) ?_
      rotate_left 1
      · (intro w hSw; (try dsimp only at hSw); go_simp; try with_reducible rfl)
      (try simp only [Act.put, List.setIfInBounds_toArray, List.set_cons_zero, List.set_cons_succ])
      refine wpAnyH_take (i := 6) (oi := { dst := some 13, op := .fieldAddr 35 (.tmp 1) 2, type := 0, pos := "l4_word.go:231", after := #[], guard := none }) (v := ?_) rfl (by kernel_rfl) (by kernel_rfl) (by kernel_rfl) (fun _ _ _ h => h) (Or.inl ⟨by rfl, ?_⟩) (by assumption) ?_
      rotate_left 1
      · (intro w hSw; (try dsimp only at hSw); go_simp; try with_reducible rfl)
      (try simp only [Act.put, List.setIfInBounds_toArray, List.set_cons_zero, List.set_cons_succ])
      refine wpAnyH_take (i := 7) (oi := { dst := some 14, op := .load 3 (.tmp 13), type := 3, pos := "l4_word.go:231", after := #[{ on := 6, ground := .data }], guard := none }) (v := ?_) rfl (by kernel_rfl) (by kernel_rfl) (by kernel_rfl) (fun _ _ _ h => h) (Or.inl ⟨by rfl, ?_⟩) (by assumption) ?_
      rotate_left 1
      · (intro w hSw; (try dsimp only at hSw); go_simp; try with_reducible rfl)
      (try simp only [Act.put, List.setIfInBounds_toArray, List.set_cons_zero, List.set_cons_succ])
      refine wpAnyH_take (i := 9) (oi := { dst := some 16, op := .fieldAddr 35 (.tmp 1) 3, type := 0, pos := "l4_word.go:231", after := #[], guard := none }) (v := ?_) rfl (by kernel_rfl) (by kernel_rfl) (by kernel_rfl) (fun _ _ _ h => h) (Or.inl ⟨by rfl, ?_⟩) (by assumption) ?_
      rotate_left 1
      · (intro w hSw; (try dsimp only at hSw); go_simp; try with_reducible rfl)
      (try simp only [Act.put, List.setIfInBounds_toArray, List.set_cons_zero, List.set_cons_succ])
      refine wpAnyH_take (i := 10) (oi := { dst := some 17, op := .load 3 (.tmp 16), type := 3, pos := "l4_word.go:231", after := #[{ on := 9, ground := .data }], guard := none }) (v := ?_) rfl (by kernel_rfl) (by kernel_rfl) (by kernel_rfl) (fun _ _ _ h => h) (Or.inl ⟨by rfl, ?_⟩) (by assumption) ?_
      rotate_left 1
      · (intro w hSw; (try dsimp only at hSw); go_simp; try with_reducible rfl)
      (try simp only [Act.put, List.setIfInBounds_toArray, List.set_cons_zero, List.set_cons_succ])
      refine wpAnyH_take (i := 12) (oi := { dst := some 19, op := .fieldAddr 35 (.tmp 1) 4, type := 0, pos := "l4_word.go:231", after := #[], guard := none }) (v := ?_) rfl (by kernel_rfl) (by kernel_rfl) (by kernel_rfl) (fun _ _ _ h => h) (Or.inl ⟨by rfl, ?_⟩) (by assumption) ?_
      rotate_left 1
      · (intro w hSw; (try dsimp only at hSw); go_simp; try with_reducible rfl)
      (try simp only [Act.put, List.setIfInBounds_toArray, List.set_cons_zero, List.set_cons_succ])
      refine wpAnyH_take (i := 13) (oi := { dst := some 20, op := .load 3 (.tmp 19), type := 3, pos := "l4_word.go:231", after := #[{ on := 12, ground := .data }], guard := none }) (v := ?_) rfl (by kernel_rfl) (by kernel_rfl) (by kernel_rfl) (fun _ _ _ h => h) (Or.inl ⟨by rfl, ?_⟩) (by assumption) ?_
      rotate_left 1
      · (intro w hSw; (try dsimp only at hSw); go_simp; try with_reducible rfl)
      (try simp only [Act.put, List.setIfInBounds_toArray, List.set_cons_zero, List.set_cons_succ])
      refine wpAnyH_take (i := 15) (oi := { dst := some 22, op := .fieldAddr 35 (.tmp 1) 5, type := 0, pos := "l4_word.go:231", after := #[], guard := none }) (v := ?_) rfl (by kernel_rfl) (by kernel_rfl) (by kernel_rfl) (fun _ _ _ h => h) (Or.inl ⟨by rfl, ?_⟩) (by assumption) ?_
      rotate_left 1
      · (intro w hSw; (try dsimp only at hSw); go_simp; try with_reducible rfl)
      (try simp only [Act.put, List.setIfInBounds_toArray, List.set_cons_zero, List.set_cons_succ])
      refine wpAnyH_take (i := 16) (oi := { dst := some 23, op := .load 3 (.tmp 22), type := 3, pos := "l4_word.go:231", after := #[{ on := 15, ground := .data }], guard := none }) (v := ?_) rfl (by kernel_rfl) (by kernel_rfl) (by kernel_rfl) (fun _ _ _ h => h) (Or.inl ⟨by rfl, ?_⟩) (by assumption) ?_
      rotate_left 1
      · (intro w hSw; (try dsimp only at hSw); go_simp; try with_reducible rfl)
      (try simp only [Act.put, List.setIfInBounds_toArray, List.set_cons_zero, List.set_cons_succ])
      refine wpAnyH_take (i := 18) (oi := { dst := some 25, op := .fieldAddr 35 (.tmp 1) 6, type := 0, pos := "l4_word.go:231", after := #[], guard := none }) (v := ?_) rfl (by kernel_rfl) (by kernel_rfl) (by kernel_rfl) (fun _ _ _ h => h) (Or.inl ⟨by rfl, ?_⟩) (by assumption) ?_
      rotate_left 1
      · (intro w hSw; (try dsimp only at hSw); go_simp; try with_reducible rfl)
      (try simp only [Act.put, List.setIfInBounds_toArray, List.set_cons_zero, List.set_cons_succ])
      refine wpAnyH_take (i := 19) (oi := { dst := some 26, op := .fieldAddr 33 (.tmp 25) 0, type := 0, pos := "l4_word.go:231", after := #[{ on := 18, ground := .data }], guard := none }) (v := ?_) rfl (by kernel_rfl) (by kernel_rfl) (by kernel_rfl) (fun _ _ _ h => h) (Or.inl ⟨by rfl, ?_⟩) (by assumption) ?_
      rotate_left 1
      · (intro w hSw; (try dsimp only at hSw); go_simp; try with_reducible rfl)
      (try simp only [Act.put, List.setIfInBounds_toArray, List.set_cons_zero, List.set_cons_succ])
      refine wpAnyH_take (i := 20) (oi := { dst := some 27, op := .load 3 (.tmp 26), type := 3, pos := "l4_word.go:231", after := #[{ on := 19, ground := .data }], guard := none }) (v := ?_) rfl (by kernel_rfl) (by kernel_rfl) (by kernel_rfl) (fun _ _ _ h => h) (Or.inl ⟨by rfl, ?_⟩) (by assumption) ?_
      rotate_left 1
      · (intro w hSw; (try dsimp only at hSw); go_simp; try with_reducible rfl)
      (try simp only [Act.put, List.setIfInBounds_toArray, List.set_cons_zero, List.set_cons_succ])
      refine wpAnyH_take (i := 22) (oi := { dst := some 29, op := .fieldAddr 35 (.tmp 1) 6, type := 0, pos := "l4_word.go:231", after := #[], guard := none }) (v := ?_) rfl (by kernel_rfl) (by kernel_rfl) (by kernel_rfl) (fun _ _ _ h => h) (Or.inl ⟨by rfl, ?_⟩) (by assumption) ?_
      rotate_left 1
      · (intro w hSw; (try dsimp only at hSw); go_simp; try with_reducible rfl)
      (try simp only [Act.put, List.setIfInBounds_toArray, List.set_cons_zero, List.set_cons_succ])
      refine wpAnyH_take (i := 23) (oi := { dst := some 30, op := .fieldAddr 33 (.tmp 29) 1, type := 0, pos := "l4_word.go:231", after := #[{ on := 22, ground := .data }], guard := none }) (v := ?_) rfl (by kernel_rfl) (by kernel_rfl) (by kernel_rfl) (fun _ _ _ h => h) (Or.inl ⟨by rfl, ?_⟩) (by assumption) ?_
      rotate_left 1
      · (intro w hSw; (try dsimp only at hSw); go_simp; try with_reducible rfl)
      (try simp only [Act.put, List.setIfInBounds_toArray, List.set_cons_zero, List.set_cons_succ])
      refine wpAnyH_take (i := 24) (oi := { dst := some 31, op := .load 3 (.tmp 30), type := 3, pos := "l4_word.go:231", after := #[{ on := 23, ground := .data }], guard := none }) (v := ?_) rfl (by kernel_rfl) (by kernel_rfl) (by kernel_rfl) (fun _ _ _ h => h) (Or.inl ⟨by rfl, ?_⟩) (by assumption) ?_
      rotate_left 1
      · (intro w hSw; (try dsimp only at hSw); go_simp; try with_reducible rfl)
      (try simp only [Act.put, List.setIfInBounds_toArray, List.set_cons_zero, List.set_cons_succ])
      refine wpAnyH_take (i := 26) (oi := { dst := some 33, op := .fieldAddr 35 (.tmp 1) 6, type := 0, pos := "l4_word.go:231", after := #[], guard := none }) (v := ?_) rfl (by kernel_rfl) (by kernel_rfl) (by kernel_rfl) (fun _ _ _ h => h) (Or.inl ⟨by rfl, ?_⟩) (by assumption) ?_
      rotate_left 1
      · (intro w hSw; (try dsimp only at hSw); go_simp; try with_reducible rfl)
      (try simp only [Act.put, List.setIfInBounds_toArray, List.set_cons_zero, List.set_cons_succ])
      refine wpAnyH_take (i := 27) (oi := { dst := some 34, op := .fieldAddr 33 (.tmp 33) 2, type := 0, pos := "l4_word.go:231", after := #[{ on := 26, ground := .data }], guard := none }) (v := ?_) rfl (by kernel_rfl) (by kernel_rfl) (by kernel_rfl) (fun _ _ _ h => h) (Or.inl ⟨by rfl, ?_⟩) (by assumption) ?_
      rotate_left 1
      · (intro w hSw; (try dsimp only at hSw); go_simp; try with_reducible rfl)
      (try simp only [Act.put, List.setIfInBounds_toArray, List.set_cons_zero, List.set_cons_succ])
      refine wpAnyH_take (i := 28) (oi := { dst := some 35, op := .load 3 (.tmp 34), type := 3, pos := "l4_word.go:231", after := #[{ on := 27, ground := .data }], guard := none }) (v := ?_) rfl (by kernel_rfl) (by kernel_rfl) (by kernel_rfl) (fun _ _ _ h => h) (Or.inl ⟨by rfl, ?_⟩) (by assumption) ?_
      rotate_left 1
      · (intro w hSw; (try dsimp only at hSw); go_simp; try with_reducible rfl)
      (try simp only [Act.put, List.setIfInBounds_toArray, List.set_cons_zero, List.set_cons_succ])
      refine wpAnyH_take (i := 30) (oi := { dst := some 37, op := .fieldAddr 35 (.tmp 1) 6, type := 0, pos := "l4_word.go:231", after := #[], guard := none }) (v := ?_) rfl (by kernel_rfl) (by kernel_rfl) (by kernel_rfl) (fun _ _ _ h => h) (Or.inl ⟨by rfl, ?_⟩) (by assumption) ?_
      rotate_left 1
      · (intro w hSw; (try dsimp only at hSw); go_simp; try with_reducible rfl)
      (try simp only [Act.put, List.setIfInBounds_toArray, List.set_cons_zero, List.set_cons_succ])
      refine wpAnyH_take (i := 31) (oi := { dst := some 38, op := .fieldAddr 33 (.tmp 37) 3, type := 0, pos := "l4_word.go:231", after := #[{ on := 30, ground := .data }], guard := none }) (v := ?_) rfl (by kernel_rfl) (by kernel_rfl) (by kernel_rfl) (fun _ _ _ h => h) (Or.inl ⟨by rfl, ?_⟩) (by assumption) ?_
      rotate_left 1
      · (intro w hSw; (try dsimp only at hSw); go_simp; try with_reducible rfl)
      (try simp only [Act.put, List.setIfInBounds_toArray, List.set_cons_zero, List.set_cons_succ])
      refine wpAnyH_take (i := 32) (oi := { dst := some 39, op := .load 3 (.tmp 38), type := 3, pos := "l4_word.go:231", after := #[{ on := 31, ground := .data }], guard := none }) (v := ?_) rfl (by kernel_rfl) (by kernel_rfl) (by kernel_rfl) (fun _ _ _ h => h) (Or.inl ⟨by rfl, ?_⟩) (by assumption) ?_
      rotate_left 1
      · (intro w hSw; (try dsimp only at hSw); go_simp; try with_reducible rfl)
      (try simp only [Act.put, List.setIfInBounds_toArray, List.set_cons_zero, List.set_cons_succ])
      refine wpAnyH_take (i := 34) (oi := { dst := some 41, op := .fieldAddr 35 (.tmp 1) 7, type := 0, pos := "l4_word.go:231", after := #[], guard := none }) (v := ?_) rfl (by kernel_rfl) (by kernel_rfl) (by kernel_rfl) (fun _ _ _ h => h) (Or.inl ⟨by rfl, ?_⟩) (by assumption) ?_
      rotate_left 1
      · (intro w hSw; (try dsimp only at hSw); go_simp; try with_reducible rfl)
      (try simp only [Act.put, List.setIfInBounds_toArray, List.set_cons_zero, List.set_cons_succ])
      refine wpAnyH_take (i := 35) (oi := { dst := some 42, op := .load 24 (.tmp 41), type := 24, pos := "l4_word.go:231", after := #[{ on := 34, ground := .data }], guard := none }) (v := ?_) rfl (by kernel_rfl) (by kernel_rfl) (by kernel_rfl) (fun _ _ _ h => h) (Or.inl ⟨by rfl, ?_⟩) (by assumption) ?_
      rotate_left 1
      · (intro w hSw; (try dsimp only at hSw); go_simp; try with_reducible rfl)
      (try simp only [Act.put, List.setIfInBounds_toArray, List.set_cons_zero, List.set_cons_succ])
      refine wpAnyH_ready (rs := [2]) (by kernel_rfl) (by simp) ?_
      refine AllReadyH.cons (o := { dst := some 9, op := .call { callee := .value (.func 48), args := #[.const (.string { data := #[108, 97, 110, 32, 119, 97, 110] }), .tmp 8], argTypes := #[66, 3] }, type := 9, pos := "l4_word.go:232", after := #[{ on := 1, ground := .data }], guard := none }) rfl (fun K hK => ?_) AllReadyH.nil
      go_simp
      refine (pool_lit p _ (by omega) (by omega) hx0.out _ t0).mono ?_; rintro r o1 ⟨rfl, b1⟩; have t1 := t0.below b1; have g1 := g0.below b1
      go_wp2_with fail
      refine hK.out _ _ ?_ (fun hHeld => ?_)
      · (try dsimp only); (refine ⟨?_, ?_, ?_, ?_, ?_, ?_, ?_, ?_, ?_, ?_, ?_⟩ <;> (repeat (first | with_reducible assumption | with_reducible refine keep_drew ?_ | with_reducible refine keep_alloc _ ?_ | with_reducible refine keep_below (by assumption) ?_)))
      clear hK K
      (try simp only [Act.put, List.setIfInBounds_toArray, List.set_cons_zero, List.set_cons_succ])
      refine wpAnyH_ready (rs := [5]) (by kernel_rfl) (by simp) ?_
      refine AllReadyH.cons (o := { dst := some 12, op := .call { callee := .value (.func 48), args := #[.const (.string { data := #[112, 105, 110, 103, 32, 97, 99, 107, 32, 97, 115, 107, 32, 115, 121, 110, 99, 32, 98, 97, 99, 107, 32, 115, 117, 109] }), .tmp 11], argTypes := #[66, 3] }, type := 9, pos := "l4_word.go:232", after := #[{ on := 4, ground := .data }, { on := 2, ground := .chain }], guard := none }) rfl (fun K hK => ?_) AllReadyH.nil
      go_simp
      refine (kind_lit k _ (by omega) (by omega) hx1.out _ t1).mono ?_; rintro r o2 ⟨rfl, b2⟩; have t2 := t1.below b2; have g2 := g1.below b2
      go_wp2_with fail
      refine hK.out _ _ ?_ (fun hHeld => ?_)
      · (try dsimp only); (refine ⟨?_, ?_, ?_, ?_, ?_, ?_, ?_, ?_, ?_, ?_, ?_⟩ <;> (repeat (first | with_reducible assumption | with_reducible refine keep_drew ?_ | with_reducible refine keep_alloc _ ?_ | with_reducible refine keep_below (by assumption) ?_)))
      clear hK K
      (try simp only [Act.put, List.setIfInBounds_toArray, List.set_cons_zero, List.set_cons_succ])
      refine wpAnyH_ready (rs := [8]) (by kernel_rfl) (by simp) ?_
      refine AllReadyH.cons (o := { dst := some 15, op := .call { callee := .value (.func 49), args := #[.tmp 14], argTypes := #[3] }, type := 9, pos := "l4_word.go:233", after := #[{ on := 7, ground := .data }, { on := 5, ground := .chain }], guard := none }) rfl (fun K hK => ?_) AllReadyH.nil
      go_simp
      refine (itoa6_lit f _ (by omega) (by omega) hx2.out _ t2).mono ?_; rintro r o3 ⟨rfl, b3⟩; have t3 := t2.below b3; have g3 := g2.below b3
      go_wp2_with fail
      refine hK.out _ _ ?_ (fun hHeld => ?_)
      · (try dsimp only); (refine ⟨?_, ?_, ?_, ?_, ?_, ?_, ?_, ?_, ?_, ?_, ?_⟩ <;> (repeat (first | with_reducible assumption | with_reducible refine keep_drew ?_ | with_reducible refine keep_alloc _ ?_ | with_reducible refine keep_below (by assumption) ?_)))
      clear hK K
      (try simp only [Act.put, List.setIfInBounds_toArray, List.set_cons_zero, List.set_cons_succ])
      refine wpAnyH_ready (rs := [11]) (by kernel_rfl) (by simp) ?_
      refine AllReadyH.cons (o := { dst := some 18, op := .call { callee := .value (.func 49), args := #[.tmp 17], argTypes := #[3] }, type := 9, pos := "l4_word.go:233", after := #[{ on := 10, ground := .data }, { on := 8, ground := .chain }], guard := none }) rfl (fun K hK => ?_) AllReadyH.nil
      go_simp
      refine (itoa6_lit t _ (by omega) (by omega) hx3.out _ t3).mono ?_; rintro r o4 ⟨rfl, b4⟩; have t4 := t3.below b4; have g4 := g3.below b4
      go_wp2_with fail
      refine hK.out _ _ ?_ (fun hHeld => ?_)
      · (try dsimp only); (refine ⟨?_, ?_, ?_, ?_, ?_, ?_, ?_, ?_, ?_, ?_, ?_⟩ <;> (repeat (first | with_reducible assumption | with_reducible refine keep_drew ?_ | with_reducible refine keep_alloc _ ?_ | with_reducible refine keep_below (by assumption) ?_)))
      clear hK K
      (try simp only [Act.put, List.setIfInBounds_toArray, List.set_cons_zero, List.set_cons_succ])
      refine wpAnyH_ready (rs := [14]) (by kernel_rfl) (by simp) ?_
      refine AllReadyH.cons (o := { dst := some 21, op := .call { callee := .value (.func 49), args := #[.tmp 20], argTypes := #[3] }, type := 9, pos := "l4_word.go:233", after := #[{ on := 13, ground := .data }, { on := 11, ground := .chain }], guard := none }) rfl (fun K hK => ?_) AllReadyH.nil
      go_simp
      refine (itoa6_lit s _ (by omega) (by omega) hx4.out _ t4).mono ?_; rintro r o5 ⟨rfl, b5⟩; have t5 := t4.below b5; have g5 := g4.below b5
      go_wp2_with fail
      refine hK.out _ _ ?_ (fun hHeld => ?_)
      · (try dsimp only); (refine ⟨?_, ?_, ?_, ?_, ?_, ?_, ?_, ?_, ?_, ?_, ?_⟩ <;> (repeat (first | with_reducible assumption | with_reducible refine keep_drew ?_ | with_reducible refine keep_alloc _ ?_ | with_reducible refine keep_below (by assumption) ?_)))
      clear hK K
      (try simp only [Act.put, List.setIfInBounds_toArray, List.set_cons_zero, List.set_cons_succ])
      refine wpAnyH_ready (rs := [17]) (by kernel_rfl) (by simp) ?_
      refine AllReadyH.cons (o := { dst := some 24, op := .call { callee := .value (.func 49), args := #[.tmp 23], argTypes := #[3] }, type := 9, pos := "l4_word.go:233", after := #[{ on := 16, ground := .data }, { on := 14, ground := .chain }], guard := none }) rfl (fun K hK => ?_) AllReadyH.nil
      go_simp
      refine (itoa6_lit q _ (by omega) (by omega) hx5.out _ t5).mono ?_; rintro r o6 ⟨rfl, b6⟩; have t6 := t5.below b6; have g6 := g5.below b6
      go_wp2_with fail
      refine hK.out _ _ ?_ (fun hHeld => ?_)
      · (try dsimp only); (refine ⟨?_, ?_, ?_, ?_, ?_, ?_, ?_, ?_, ?_, ?_, ?_⟩ <;> (repeat (first | with_reducible assumption | with_reducible refine keep_drew ?_ | with_reducible refine keep_alloc _ ?_ | with_reducible refine keep_below (by assumption) ?_)))
      clear hK K
      (try simp only [Act.put, List.setIfInBounds_toArray, List.set_cons_zero, List.set_cons_succ])
      refine wpAnyH_ready (rs := [21]) (by kernel_rfl) (by simp) ?_
      refine AllReadyH.cons (o := { dst := some 28, op := .call { callee := .value (.func 50), args := #[.tmp 27], argTypes := #[3] }, type := 9, pos := "l4_word.go:234", after := #[{ on := 20, ground := .data }, { on := 17, ground := .chain }], guard := none }) rfl (fun K hK => ?_) AllReadyH.nil
      go_simp
      refine (sgn_lit x _ (by omega) (by omega) hx6.out _ t6).mono ?_; rintro r o7 ⟨rfl, b7⟩; have t7 := t6.below b7; have g7 := g6.below b7
      go_wp2_with fail
      refine hK.out _ _ ?_ (fun hHeld => ?_)
      · (try dsimp only); (refine ⟨?_, ?_, ?_, ?_, ?_, ?_, ?_, ?_, ?_, ?_, ?_⟩ <;> (repeat (first | with_reducible assumption | with_reducible refine keep_drew ?_ | with_reducible refine keep_alloc _ ?_ | with_reducible refine keep_below (by assumption) ?_)))
      clear hK K
      (try simp only [Act.put, List.setIfInBounds_toArray, List.set_cons_zero, List.set_cons_succ])
      refine wpAnyH_ready (rs := [25]) (by kernel_rfl) (by simp) ?_
      refine AllReadyH.cons (o := { dst := some 32, op := .call { callee := .value (.func 50), args := #[.tmp 31], argTypes := #[3] }, type := 9, pos := "l4_word.go:234", after := #[{ on := 24, ground := .data }, { on := 21, ground := .chain }], guard := none }) rfl (fun K hK => ?_) AllReadyH.nil
      go_simp
      refine (sgn_lit y _ (by omega) (by omega) hx7.out _ t7).mono ?_; rintro r o8 ⟨rfl, b8⟩; have t8 := t7.below b8; have g8 := g7.below b8
      go_wp2_with fail
      refine hK.out _ _ ?_ (fun hHeld => ?_)
      · (try dsimp only); (refine ⟨?_, ?_, ?_, ?_, ?_, ?_, ?_, ?_, ?_, ?_, ?_⟩ <;> (repeat (first | with_reducible assumption | with_reducible refine keep_drew ?_ | with_reducible refine keep_alloc _ ?_ | with_reducible refine keep_below (by assumption) ?_)))
      clear hK K
      (try simp only [Act.put, List.setIfInBounds_toArray, List.set_cons_zero, List.set_cons_succ])
      refine wpAnyH_ready (rs := [29]) (by kernel_rfl) (by simp) ?_
      refine AllReadyH.cons (o := { dst := some 36, op := .call { callee := .value (.func 49), args := #[.tmp 35], argTypes := #[3] }, type := 9, pos := "l4_word.go:234", after := #[{ on := 28, ground := .data }, { on := 25, ground := .chain }], guard := none }) rfl (fun K hK => ?_) AllReadyH.nil
      go_simp
      refine (itoa6_lit z _ (by omega) (by omega) hx8.out _ t8).mono ?_; rintro r o9 ⟨rfl, b9⟩; have t9 := t8.below b9; have g9 := g8.below b9
      go_wp2_with fail
      refine hK.out _ _ ?_ (fun hHeld => ?_)
      · (try dsimp only); (refine ⟨?_, ?_, ?_, ?_, ?_, ?_, ?_, ?_, ?_, ?_, ?_⟩ <;> (repeat (first | with_reducible assumption | with_reducible refine keep_drew ?_ | with_reducible refine keep_alloc _ ?_ | with_reducible refine keep_below (by assumption) ?_)))
      clear hK K
      (try simp only [Act.put, List.setIfInBounds_toArray, List.set_cons_zero, List.set_cons_succ])
      refine wpAnyH_ready (rs := [33]) (by kernel_rfl) (by simp) ?_
      refine AllReadyH.cons (o := { dst := some 40, op := .call { callee := .value (.func 49), args := #[.tmp 39], argTypes := #[3] }, type := 9, pos := "l4_word.go:234", after := #[{ on := 32, ground := .data }, { on := 29, ground := .chain }], guard := none }) rfl (fun K hK => ?_) AllReadyH.nil
      go_simp
      refine (itoa6_lit e _ (by omega) (by omega) hx9.out _ t9).mono ?_; rintro r o10 ⟨rfl, b10⟩; have t10 := t9.below b10; have g10 := g9.below b10
      go_wp2_with fail
      refine hK.out _ _ ?_ (fun hHeld => ?_)
      · (try dsimp only); (refine ⟨?_, ?_, ?_, ?_, ?_, ?_, ?_, ?_, ?_, ?_, ?_⟩ <;> (repeat (first | with_reducible assumption | with_reducible refine keep_drew ?_ | with_reducible refine keep_alloc _ ?_ | with_reducible refine keep_below (by assumption) ?_)))
      clear hK K
      (try simp only [Act.put, List.setIfInBounds_toArray, List.set_cons_zero, List.set_cons_succ])
      refine wpAnyH_ready (rs := [36]) (by kernel_rfl) (by simp) ?_
      refine AllReadyH.cons (o := { dst := some 43, op := .call { callee := .value (.func 12), args := #[.tmp 42], argTypes := #[24] }, type := 9, pos := "l4_word.go:235", after := #[{ on := 35, ground := .data }, { on := 33, ground := .chain }], guard := none }) rfl (fun K hK => ?_) AllReadyH.nil
      go_simp
      refine (text_lit a len cap F _ hx10.out _ g10 (by omega) t10).mono ?_; rintro r o11 ⟨rfl, b11⟩; have t11 := t10.below b11; have g11 := g10.below b11
      go_wp2_with fail
      refine hK.out _ _ ?_ (fun hHeld => ?_)
      · (try dsimp only); (refine ⟨?_, ?_, ?_, ?_, ?_, ?_, ?_, ?_, ?_, ?_, ?_⟩ <;> (repeat (first | with_reducible assumption | with_reducible refine keep_drew ?_ | with_reducible refine keep_alloc _ ?_ | with_reducible refine keep_below (by assumption) ?_)))
      clear hK K
      (try simp only [Act.put, List.setIfInBounds_toArray, List.set_cons_zero, List.set_cons_succ])
      refine wpAnyH_ready (rs := [37]) (by kernel_rfl) (by simp) ?_
      refine AllReadyH.cons (o := { dst := some 44, op := .buildSlice 48 11 #[(0, .tmp 9), (1, .tmp 12), (2, .tmp 15), (3, .tmp 18), (4, .tmp 21), (5, .tmp 24), (6, .tmp 28), (7, .tmp 32), (8, .tmp 36), (9, .tmp 40), (10, .tmp 43)], type := 48, pos := "l4_word.go:231", after := #[{ on := 2, ground := .data }, { on := 5, ground := .data }, { on := 8, ground := .data }, { on := 11, ground := .data }, { on := 14, ground := .data }, { on := 17, ground := .data }, { on := 21, ground := .data }, { on := 25, ground := .data }, { on := 29, ground := .data }, { on := 33, ground := .data }, { on := 36, ground := .data }], guard := none }) rfl (fun K hK => ?_) AllReadyH.nil
      go_simp
      refine hK.out _ _ ?_ (fun hHeld => ?_)
      · (try dsimp only); (refine ⟨?_, ?_, ?_, ?_, ?_, ?_, ?_, ?_, ?_, ?_, ?_⟩ <;> (repeat (first | with_reducible assumption | with_reducible refine keep_drew ?_ | with_reducible refine keep_alloc _ ?_ | with_reducible refine keep_below (by assumption) ?_)))
      clear hK K
      (try simp only [Act.put, List.setIfInBounds_toArray, List.set_cons_zero, List.set_cons_succ])
      refine wpAnyH_ready (rs := [38]) (by kernel_rfl) (by simp) ?_
      refine AllReadyH.cons (o := { dst := some 45, op := .call { callee := .value (.func 38), args := #[.tmp 44, .const (.string { data := #[32] })], argTypes := #[48, 9] }, type := 9, pos := "l4_word.go:231", after := #[{ on := 37, ground := .data }, { on := 36, ground := .chain }], guard := none }) rfl (fun K hK => ?_) AllReadyH.nil
      go_simp
      refine (join11 x0 x1 x2 x3 x4 x5 x6 x7 x8 x9 x10 J hJ.out hJs _).mono ?_; rintro r o12 ⟨rfl, b12⟩
      go_wp2_with fail
      refine hK.out _ _ ?_ (fun hHeld => ?_)
      · (try dsimp only); (refine ⟨?_, ?_, ?_, ?_, ?_, ?_, ?_, ?_, ?_, ?_, ?_⟩ <;> (repeat (first | with_reducible assumption | with_reducible refine keep_drew ?_ | with_reducible refine keep_alloc _ ?_ | with_reducible refine keep_below (by assumption) ?_)))
      clear hK K
      (try simp only [Act.put, List.setIfInBounds_toArray, List.set_cons_zero, List.set_cons_succ])
      refine wpAnyH_take (i := 39) (oi := { dst := some 3, op := .assign (.tmp 45), type := 9, pos := "l4_word.go:231", after := #[{ on := 38, ground := .data }, { on := 38, ground := .chain }, { on := 0, ground := .phase }, { on := 1, ground := .phase }, { on := 2, ground := .phase }, { on := 3, ground := .phase }, { on := 4, ground := .phase }, { on := 5, ground := .phase }, { on := 6, ground := .phase }, { on := 7, ground := .phase }, { on := 8, ground := .phase }, { on := 9, ground := .phase }, { on := 10, ground := .phase }, { on := 11, ground := .phase }, { on := 12, ground := .phase }, { on := 13, ground := .phase }, { on := 14, ground := .phase }, { on := 15, ground := .phase }, { on := 16, ground := .phase }, { on := 17, ground := .phase }, { on := 18, ground := .phase }, { on := 19, ground := .phase }, { on := 20, ground := .phase }, { on := 21, ground := .phase }, { on := 22, ground := .phase }, { on := 23, ground := .phase }, { on := 24, ground := .phase }, { on := 25, ground := .phase }, { on := 26, ground := .phase }, { on := 27, ground := .phase }, { on := 28, ground := .phase }, { on := 29, ground := .phase }, { on := 30, ground := .phase }, { on := 31, ground := .phase }, { on := 32, ground := .phase }, { on := 33, ground := .phase }, { on := 34, ground := .phase }, { on := 35, ground := .phase }, { on := 36, ground := .phase }, { on := 37, ground := .phase }, { on := 38, ground := .phase }], guard := none }) (v := ?_) rfl (by kernel_rfl) (by kernel_rfl) (by kernel_rfl) (fun _ _ _ h => h) (Or.inl ⟨by rfl, ?_⟩) (by assumption) ?_
      rotate_left 1
      · (intro w hSw; (try dsimp only at hSw); go_simp; try with_reducible rfl)
      (try simp only [Act.put, List.setIfInBounds_toArray, List.set_cons_zero, List.set_cons_succ])
      refine wpAnyH_done (by kernel_rfl) ?_ _
      have BJ : Below w.heap.size w o12 := btrans (balloc _ (btrans (btrans (btrans (btrans (btrans (btrans (btrans (btrans (btrans (btrans (btrans (qd B1) b1) b2) b3) b4) b5) b6) b7) b8) b9) b10) b11)) b12
      clear hHeld
      have k1 : ¬ 9223372036854775807 < J.size + 1 := by omega
      go_wp2_with fail
      refine (S.sum_any J (by omega) _).mono ?_
      rintro r o13 ⟨rfl, b13⟩
      have B13 := btrans BJ b13
      generalize hsn : S.sumN J = sn at *
      go_wp2_with fail
      refine (S.sumText_any sn hsm _ ((B13.cell (p := ⟨9, 15, none⟩) (S.cell_lt hc)).trans hc)).mono ?_
      rintro r o14 ⟨rfl, b14⟩
      have B14 := btrans B13 b14
      have hH : (bs (S.hex8 sn)).size = 8 := S.hexP_len 8 sn
      clear hsn
      generalize bs (S.hex8 sn) = H at *
      have k2 : ¬ 9223372036854775807 < J.size + 1 + H.size := by omega
      go_wp2
      go_ret
      exact ⟨by rw [e1.out]; rfl, B14⟩

end Go.Proofs.YtibnojbhoepcdaaGreatDoor
/- Figures: what is written is read. -/
namespace Go.Proofs.YtibnojbhoepcdaaGreatDoor
theorem dd_rec (n : Nat) (h : ¬ n < 10) : Lib.decDigits n = Lib.decDigits (n / 10) ++ [UInt8.ofNat (48 + n % 10)] := by
  rw [Lib.decDigits, dif_neg h]
theorem dd_fig : ∀ (m n : Nat), n < m → ∀ c ∈ Lib.decDigits n, 48 ≤ c.toNat ∧ c.toNat ≤ 57
  | 0, _, h => by omega
  | m + 1, n, h => by
    intro c hc
    by_cases h1 : n < 10
    · rw [Lib.decDigits_one h1] at hc
      simp only [List.mem_cons, List.not_mem_nil, or_false] at hc
      subst hc
      rw [fig h1]
      omega
    · rw [dd_rec n h1, List.mem_append] at hc
      rcases hc with hc | hc
      · exact dd_fig m (n / 10) (by omega) c hc
      · simp only [List.mem_cons, List.not_mem_nil, or_false] at hc
        subst hc
        rw [fig (by omega)]
        omega
theorem dd_ne (n : Nat) : Lib.decDigits n ≠ [] := by
  by_cases h1 : n < 10
  · rw [Lib.decDigits_one h1]; simp
  · rw [dd_rec n h1]; simp
theorem dd_head : ∀ (m n : Nat), n < m → 1 ≤ n → (Lib.decDigits n).head? ≠ some 48
  | 0, _, h, _ => by omega
  | m + 1, n, h, h0 => by
    by_cases h1 : n < 10
    · rw [Lib.decDigits_one h1]
      intro e
      simp only [List.head?_cons, Option.some.injEq] at e
      have := fig h1
      rw [e] at this
      change 48 = _ at this
      omega
    · rw [dd_rec n h1]
      have hn := dd_ne (n / 10)
      have := dd_head m (n / 10) (by omega) (by omega)
      cases hd : Lib.decDigits (n / 10) with
      | nil => exact absurd hd hn
      | cons a r =>
        rw [hd] at this
        simpa using this
theorem parse_snoc : ∀ (l : List UInt8) (acc u : Nat) (d : Nat), Lib.parseUint10 acc l = .ok u → d < 10 → u < 100000000 → Lib.parseUint10 acc (l ++ [UInt8.ofNat (48 + d)]) = .ok (u * 10 + d)
  | [], acc, u, d, h, hd, hu => by
    simp only [Lib.parseUint10] at h
    injection h with h
    subst h
    have := fig hd
    simp only [List.nil_append, Lib.parseUint10]
    generalize UInt8.ofNat (48 + d) = y at *
    rw [if_pos (by omega), if_neg (by omega), if_neg (by omega)]
    congr 1
    omega
  | c :: r, acc, u, d, h, hd, hu => by
    rw [List.cons_append]
    simp only [Lib.parseUint10] at h ⊢
    split at h
    · next q =>
      rw [if_pos q]
      split at h
      · cases h
      · next q2 =>
        rw [if_neg q2]
        split at h
        · cases h
        · next q3 =>
          rw [if_neg q3]
          exact parse_snoc r _ u d h hd hu
    · cases h
theorem parse_dd : ∀ (m n : Nat), n < m → n < 100000000 → Lib.parseUint10 0 (Lib.decDigits n) = .ok n
  | 0, _, h, _ => by omega
  | m + 1, n, h, hb => by
    by_cases h1 : n < 10
    · rw [Lib.decDigits_one h1]
      have := parse_snoc [] 0 0 n rfl h1 (by omega)
      simpa using this
    · rw [dd_rec n h1, parse_snoc _ 0 (n / 10) (n % 10) (parse_dd m (n / 10) (by omega) (by omega)) (by omega) (by omega)]
      congr 1
      omega
theorem mdig_snoc : ∀ (l : List UInt8) (acc : Int) (d : Nat), (∀ c ∈ l, 48 ≤ c.toNat ∧ c.toNat ≤ 57) → d < 10 → mdig acc (l ++ [UInt8.ofNat (48 + d)]) = mdig acc l * 10 + d
  | [], acc, d, _, hd => by
    have := fig hd
    simp only [List.nil_append, mdig]
    generalize UInt8.ofNat (48 + d) = y at *
    rw [if_neg (by omega)]
    omega
  | c :: r, acc, d, h, hd => by
    have hc := h c (List.mem_cons_self ..)
    rw [List.cons_append]
    simp only [mdig]
    rw [if_neg (by omega), if_neg (by omega)]
    exact mdig_snoc r _ d (fun x hx => h x (List.mem_cons_of_mem _ hx)) hd
theorem mdig_dd : ∀ (m n : Nat), n < m → mdig 0 (Lib.decDigits n) = n
  | 0, _, h => by omega
  | m + 1, n, h => by
    by_cases h1 : n < 10
    · rw [Lib.decDigits_one h1]
      have := mdig_snoc [] 0 n (by simp) h1
      simp only [List.nil_append] at this
      rw [this]
      simp [mdig]
    · rw [dd_rec n h1, mdig_snoc _ 0 (n % 10) (dd_fig (n / 10 + 1) (n / 10) (by omega)) (by omega), mdig_dd m (n / 10) (by omega)]
      omega
/-- a number of six figures, read by the model -/
theorem mnum_dd (n : Nat) (h : n < 1000000) : mnum (Lib.decDigits n) = n := by
  have hl := dd6_len n h
  have hne := dd_ne n
  unfold mnum
  rw [if_neg, mdig_dd (n + 1) n (by omega)]
  intro hc
  rcases hc with hc | hc | ⟨hc, hd⟩
  · exact hne (List.length_eq_zero_iff.1 (by omega))
  · omega
  · by_cases h0 : n = 0
    · subst h0
      rw [Lib.decDigits_one (by omega)] at hc
      simp at hc
    · exact dd_head (n + 1) n (by omega) (by omega) hd
theorem mnum_itoa6 {n : Int} (h0 : 0 ≤ n) (h1 : n ≤ 999999) : mnum (Lib.itoa n) = n := by
  rw [itoa_nat h0, mnum_dd _ (by omega)]
  omega
theorem itoa_miss6 {n : Int} (h0 : 0 ≤ n) (c : UInt8) (hc : c.toNat < 48 ∨ 57 < c.toNat) : c ∉ Lib.itoa n := fun hm => by
  rw [itoa_nat h0] at hm
  have := dd_fig _ _ (Nat.lt_succ_self _) c hm
  omega
theorem atoi_fig {l : List UInt8} {n : Nat} (hne : l ≠ []) (hf : ∀ c ∈ l, 48 ≤ c.toNat ∧ c.toNat ≤ 57) (hp : Lib.parseUint10 0 l = .ok n) (hn : n < 100000000) : Lib.atoiAll l = .ok (n : Int) := by
  cases l with
  | nil => exact absurd rfl hne
  | cons c r =>
    have hc := hf c (List.mem_cons_self ..)
    have r1 : Lib.parseMag (c :: r) = .ok n := by
      unfold Lib.parseMag
      rw [if_neg hne]
      exact hp
    unfold Lib.atoiAll
    simp only [if_neg (show ¬ (c.toNat = 43 ∨ c.toNat = 45) by omega), r1]
    rw [if_neg (by omega), if_neg (by omega), if_neg (by omega)]
theorem pnum_itoa6 {n : Int} (h0 : 0 ≤ n) (h1 : n ≤ 999999) : pnum (Lib.itoa n) = (n, true) := by
  have key : Lib.atoiAll (Lib.itoa n) = .ok n := by
    rw [itoa_nat h0, atoi_fig (dd_ne _) (dd_fig _ _ (Nat.lt_succ_self _)) (parse_dd _ _ (Nat.lt_succ_self _) (by omega)) (by omega)]
    congr 1
    omega
  unfold pnum
  rw [key]
  simp
/-- the program's number with a sign -/
def psg (s : List UInt8) : Int × Bool := match Lib.atoiAll s with
  | .ok n => (n, sgn n == s)
  | .syntax => (0, false)
  | .range => (Lib.atoiSat s, false)
theorem psg_say {s : List UInt8} (h : (psg s).2 = true) : sgn (psg s).1 = s := by
  unfold psg at h ⊢
  split at h
  · exact beq_iff_eq.1 h
  · cases h
  · cases h
/-- the model's number with a sign -/
def msg (s : List UInt8) : Int × Bool := match s with
  | [] => (-1, false)
  | c :: r => if r = [] ∨ (c ≠ 43 ∧ c ≠ 45) then (-1, false) else if mnum r < 0 ∨ c :: r = [45, 48] then (-1, false) else if c = 45 then (-mnum r, true) else (mnum r, true)
theorem sgn_form (n : Int) : ∃ c, (c = 43 ∨ c = 45) ∧ sgn n = c :: Lib.decDigits n.natAbs ∧ (c = 45 ↔ n < 0) := by
  unfold sgn
  split
  · exact ⟨45, Or.inr rfl, rfl, by simp; omega⟩
  · exact ⟨43, Or.inl rfl, rfl, by constructor; (intro h; exact absurd h (by decide)); omega⟩
theorem psg_sgn {n : Int} (h0 : -999999 ≤ n) (h1 : n ≤ 999999) : psg (sgn n) = (n, true) := by
  have key : Lib.atoiAll (sgn n) = .ok n := by
    obtain ⟨c, hc, e, hs⟩ := sgn_form n
    rw [e]
    have r1 : Lib.parseMag (Lib.decDigits n.natAbs) = .ok n.natAbs := by
      unfold Lib.parseMag
      rw [if_neg (dd_ne _)]
      exact parse_dd _ _ (Nat.lt_succ_self _) (by omega)
    unfold Lib.atoiAll
    rcases hc with rfl | rfl
    · have hn : ¬ n < 0 := fun h => absurd (hs.2 h) (by decide)
      simp only [show ((43 : UInt8).toNat = 43 ∨ (43 : UInt8).toNat = 45) from Or.inl rfl, if_true, r1]
      rw [if_neg (by omega), if_neg (by simp), if_neg (by decide)]
      congr 1
      omega
    · have hn : n < 0 := hs.1 rfl
      simp only [show ((45 : UInt8).toNat = 43 ∨ (45 : UInt8).toNat = 45) from Or.inr rfl, if_true, r1]
      rw [if_neg (by simp), if_neg (by omega), if_pos (by decide)]
      congr 1
      omega
  unfold psg
  rw [key]
  simp
theorem sgn_miss (n : Int) (c : UInt8) (hc : c = 32) : c ∉ sgn n := by
  obtain ⟨d, hd, e, _⟩ := sgn_form n
  rw [e]
  intro hm
  rcases List.mem_cons.1 hm with h | h
  · subst h
    rcases hd with h | h <;> rw [h] at hc <;> exact absurd hc (by decide)
  · have := dd_fig _ _ (Nat.lt_succ_self _) c h
    rw [hc] at this
    exact absurd this (by decide)
theorem body_len2 {p k f t s q x y z e : Int} {len : Nat} {F : Nat → Fc} (h : wokB p k f t s q x y z e len F = true) : (bodyL p k f t s q x y z e (txt len F)).length ≤ 291 := by
  obtain ⟨r0, r1, r2, r3, r4, r5, r6, r7, r8, r9, r10, r11, r12, r13, r14, r15, r16, r17, r18, r19, r20⟩ := wok_facts h
  have m8 := tok_len r20
  have l0 := poolL_len p
  have l1 := kindL_len k
  have l2 := dec_len6 f (by omega) (by omega)
  have l3 := dec_len6 t (by omega) (by omega)
  have l4 := dec_len6 s (by omega) (by omega)
  have l5 := dec_len6 q (by omega) (by omega)
  have l6 := sgn_len x (by omega) (by omega)
  have l7 := sgn_len y (by omega) (by omega)
  have l8 := dec_len6 z (by omega) (by omega)
  have l9 := dec_len6 e (by omega) (by omega)
  have l10 : (txt len F).data.toList.length ≤ 200 := txt_size len F m8
  unfold bodyL
  rw [Lib.join_cons]
  simp only [Lib.joinTail, List.map_cons, List.map_nil, List.flatten_cons, List.flatten_nil, List.length_append, List.length_cons, List.length_nil]
  omega
end Go.Proofs.YtibnojbhoepcdaaGreatDoor
/- Words: what is written is read, and what is read was written so. -/
namespace Go.Proofs.YtibnojbhoepcdaaGreatDoor
/-- a word -/
structure Wd where
  p : Int
  k : Int
  f : Int
  t : Int
  s : Int
  q : Int
  x : Int
  y : Int
  z : Int
  e : Int
  T : List Fc
def Wd.ok (W : Wd) : Bool := wokB W.p W.k W.f W.t W.s W.q W.x W.y W.z W.e W.T.length (atF W.T)
/-- its pieces -/
def Wd.pcs (W : Wd) : List (List UInt8) := [poolL W.p, kindL W.k, Lib.itoa W.f, Lib.itoa W.t, Lib.itoa W.s, Lib.itoa W.q, sgn W.x, sgn W.y, Lib.itoa W.z, Lib.itoa W.e, txL W.T]
def Wd.body (W : Wd) : List UInt8 := Lib.join W.pcs [32]
def Wd.hex (W : Wd) : List UInt8 := S.hex8 (S.sumN (bs W.body))
def Wd.txt (W : Wd) : List UInt8 := W.body ++ 32 :: W.hex
def Wd.tx (W : Wd) : ByteArray := wtx W.p W.k W.f W.t W.s W.q W.x W.y W.z W.e W.T.length (atF W.T)
theorem body_eq (W : Wd) : bodyL W.p W.k W.f W.t W.s W.q W.x W.y W.z W.e (txt W.T.length (atF W.T)) = W.body := by
  unfold bodyL Wd.body Wd.pcs
  rw [txt_txL]
theorem bs_app (a b : List UInt8) : bs a ++ bs b = bs (a ++ b) := by
  apply ByteArray.ext
  apply Array.toList_inj.1
  simp [bs]
theorem wtx_ok {W : Wd} (h : W.ok = true) : W.tx = bs W.txt := by
  unfold Wd.tx wtx
  rw [if_pos (show wokB _ _ _ _ _ _ _ _ _ _ _ _ = true from h), body_eq, bs_app, bs_app]
  unfold Wd.txt Wd.hex
  simp
theorem wtx_no {W : Wd} (h : W.ok = false) : W.tx = bs [] := by
  unfold Wd.tx wtx
  rw [if_neg (by rw [show wokB _ _ _ _ _ _ _ _ _ _ _ _ = false from h]; simp)]
theorem mem_join {c : UInt8} {sep : List UInt8} : ∀ {r : List (List UInt8)}, c ∈ Lib.join r sep → c ∈ sep ∨ ∃ p ∈ r, c ∈ p
  | [], h => by simp [Lib.join] at h
  | [a], h => by
    rw [Lib.join_one] at h
    exact Or.inr ⟨a, List.mem_cons_self .., h⟩
  | a :: b :: r, h => by
    rw [join_two _ _ _ (by simp), List.mem_append, List.mem_append] at h
    rcases h with (h | h) | h
    · exact Or.inr ⟨a, List.mem_cons_self .., h⟩
    · exact Or.inl h
    · rcases mem_join h with h | ⟨p, hp, hc⟩
      · exact Or.inl h
      · exact Or.inr ⟨p, List.mem_cons_of_mem _ hp, hc⟩
theorem ftx_free {f : Fc} (h : fok f = true) : (32 : UInt8) ∉ ftx f := by
  obtain ⟨a, b, c, d, -, -⟩ := fok_all h
  rw [ftx_form]
  intro hm
  simp only [List.mem_append, List.mem_cons] at hm
  rcases hm with hm | hm | hm | hm | hm | hm
  · exact itoa_miss a (by omega) 32 (by decide) hm
  · exact absurd hm (by decide)
  · exact itoa_miss c d 32 (by decide) hm
  · exact absurd hm (by decide)
  · exact word_miss _ 32 (by decide) hm
  · exact star_miss _ 32 (by decide) hm
theorem txL_free (T : List Fc) : (32 : UInt8) ∉ txL T := by
  unfold txL
  split
  · next h =>
    split
    · decide
    · intro hm
      rcases mem_join hm with hm | ⟨p, hp, hc⟩
      · exact absurd hm (by decide)
      · obtain ⟨f, hf, e⟩ := List.mem_map.1 hp
        rw [← e] at hc
        exact ftx_free (tokL_fok h f hf) hc
  · decide
theorem hexD_free : ∀ d : Nat, d < 16 → S.hexD d ≠ 32 := by decide
theorem hexP_free : ∀ (k n : Nat), (32 : UInt8) ∉ S.hexP k n
  | 0, _ => by simp [S.hexP]
  | k + 1, n => by
    intro h
    rw [S.hexP, List.mem_append] at h
    rcases h with h | h
    · exact hexP_free k _ h
    · simp only [List.mem_cons, List.not_mem_nil, or_false] at h
      exact hexD_free (n % 16) (Nat.mod_lt _ (by omega)) h.symm
theorem hex_free (n : Nat) : (32 : UInt8) ∉ S.hex8 n := hexP_free 8 n
theorem pool_free (s : Int) : (32 : UInt8) ∉ poolL s := by
  unfold poolL
  split <;> decide
theorem kind_free (s : Int) : (32 : UInt8) ∉ kindL s := by
  unfold kindL
  split
  · decide
  · split
    · decide
    · split
      · decide
      · split
        · decide
        · split <;> decide
theorem ok_facts {W : Wd} (h : W.ok = true) : 1 ≤ W.p ∧ W.p ≤ 2 ∧ 1 ≤ W.k ∧ W.k ≤ 6 ∧ 0 ≤ W.f ∧ W.f ≤ 7 ∧ 0 ≤ W.t ∧ W.t ≤ 7 ∧ 0 ≤ W.s ∧ W.s ≤ 999999 ∧ 0 ≤ W.q ∧ W.q ≤ 7 ∧ -100000 ≤ W.x ∧ W.x ≤ 100000 ∧ -100000 ≤ W.y ∧ W.y ≤ 100000 ∧ 0 ≤ W.z ∧ W.z ≤ 100000 ∧ 1 ≤ W.e ∧ W.e ≤ 1500 ∧ tokL W.T = true := wok_facts h
theorem pcs_free {W : Wd} (h : W.ok = true) : ∀ p ∈ W.pcs ++ [W.hex], (32 : UInt8) ∉ p := by
  obtain ⟨r0, r1, r2, r3, r4, r5, r6, r7, r8, r9, r10, r11, r12, r13, r14, r15, r16, r17, r18, r19, r20⟩ := ok_facts h
  intro p hp
  unfold Wd.pcs at hp
  simp only [List.cons_append, List.nil_append, List.mem_cons, List.not_mem_nil, or_false] at hp
  rcases hp with rfl | rfl | rfl | rfl | rfl | rfl | rfl | rfl | rfl | rfl | rfl | rfl
  · exact pool_free _
  · exact kind_free _
  · exact itoa_miss6 r4 32 (by decide)
  · exact itoa_miss6 r6 32 (by decide)
  · exact itoa_miss6 r8 32 (by decide)
  · exact itoa_miss6 r10 32 (by decide)
  · exact sgn_miss _ 32 rfl
  · exact sgn_miss _ 32 rfl
  · exact itoa_miss6 r16 32 (by decide)
  · exact itoa_miss6 (by omega) 32 (by decide)
  · exact txL_free _
  · exact hex_free _
theorem txt_join (W : Wd) : W.txt = Lib.join (W.pcs ++ [W.hex]) [32] := by
  rw [join_snoc _ _ _ (by simp [Wd.pcs])]
  unfold Wd.txt Wd.body
  simp
theorem cut_txt {W : Wd} (h : W.ok = true) : cutL 32 W.txt = W.pcs ++ [W.hex] := by
  rw [txt_join]
  exact cutL_join 32 _ (by simp [Wd.pcs]) (pcs_free h)
theorem txt_len {W : Wd} (h : W.ok = true) : W.txt.length ≤ 300 ∧ 9 ≤ W.txt.length := by
  have hb : W.body.length ≤ 291 := by
    rw [← body_eq]
    exact body_len2 h
  have hh : W.hex.length = 8 := S.hexP_len 8 _
  unfold Wd.txt
  rw [List.length_append, List.length_cons]
  omega
/-- the number of a pool's name; 0 of another text -/
def poolN (s : List UInt8) : Int := if s = pool1 then 1 else if s = pool2 then 2 else 0
def kindN (s : List UInt8) : Int := if s = kind1 then 1 else if s = kind2 then 2 else if s = kind3 then 3 else if s = kind4 then 4 else if s = kind5 then 5 else if s = kind6 then 6 else 0
theorem pool_say {s : List UInt8} (h : poolN s ≠ 0) : poolL (poolN s) = s := by
  unfold poolN at h ⊢
  split
  · next e => exact e ▸ rfl
  · next h1 =>
    rw [if_neg h1] at h
    split
    · next e => exact e ▸ rfl
    · next h2 => rw [if_neg h2] at h; exact absurd rfl h
theorem pool_read {n : Int} (h0 : 1 ≤ n) (h1 : n ≤ 2) : poolN (poolL n) = n := by
  have hs : n = 1 ∨ n = 2 := by omega
  rcases hs with rfl | rfl <;> decide
theorem kind_say {s : List UInt8} (h : kindN s ≠ 0) : kindL (kindN s) = s := by
  unfold kindN at h ⊢
  split
  · next e => exact e ▸ rfl
  · next h1 =>
    rw [if_neg h1] at h
    split
    · next e => exact e ▸ rfl
    · next h2 =>
      rw [if_neg h2] at h
      split
      · next e => exact e ▸ rfl
      · next h3 =>
        rw [if_neg h3] at h
        split
        · next e => exact e ▸ rfl
        · next h4 =>
          rw [if_neg h4] at h
          split
          · next e => exact e ▸ rfl
          · next h5 =>
            rw [if_neg h5] at h
            split
            · next e => exact e ▸ rfl
            · next h6 => rw [if_neg h6] at h; exact absurd rfl h
theorem kind_read {n : Int} (h0 : 1 ≤ n) (h1 : n ≤ 6) : kindN (kindL n) = n := by
  have hs : n = 1 ∨ n = 2 ∨ n = 3 ∨ n = 4 ∨ n = 5 ∨ n = 6 := by omega
  rcases hs with rfl | rfl | rfl | rfl | rfl | rfl <;> decide
/-- nothing that is ok is written so -/
def NoWd (s : List UInt8) : Prop := ∀ W : Wd, W.ok = true → s ≠ W.txt
/-- a reader that stands behind some pieces and finds no good one -/
theorem fail_at {s r : List UInt8} {ps : List (List UInt8)} (hc : cutL 32 s = ps ++ cutL 32 r) (good : List UInt8 → Prop) (hi : ps.length ≤ 10) (hg : ∀ W : Wd, W.ok = true → ∀ a, W.pcs[ps.length]? = some a → good a) (hb : ∀ a r', r = a ++ 32 :: r' → (32 : UInt8) ∉ a → ¬ good a) : NoWd s := by
  intro W h e
  have h1 := cut_txt h
  rw [← e, hc] at h1
  have hl : W.pcs.length = 11 := rfl
  have h2 := congrArg List.length h1
  rw [List.length_append, List.length_append, hl, List.length_singleton] at h2
  rcases cutL_split 32 r with hr | ⟨a, r', hr, ha⟩
  · rw [cutL_free 32 r hr, List.length_singleton] at h2
    omega
  · have h3 := congrArg (fun l => l[ps.length]?) h1
    try dsimp only at h3
    rw [hr, cutL_hit 32 a r' ha, List.getElem?_append_right (Nat.le_refl _), Nat.sub_self, List.getElem?_append_left (by omega)] at h3
    exact hb a r' hr ha (hg W h a h3.symm)
end Go.Proofs.YtibnojbhoepcdaaGreatDoor
