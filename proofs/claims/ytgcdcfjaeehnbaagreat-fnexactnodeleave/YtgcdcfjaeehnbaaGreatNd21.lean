/- Nodes: copies of the lists that they hold. -/
import Derived.Test.YtgcdcfjaeehnbaaGreatNd20
namespace Go.Proofs.YtgcdcfjaeehnbaaGreat
open Go.ChangeShapes Go.WideShapes Go.ChangeAt Go.RowKit
set_option maxRecDepth 20000
set_option maxHeartbeats 4000000
attribute [local go_sem ↓] Go.wp_at_zero Go.wp_at_succ
def Dtv (F : Nat → Dt) (k : Nat) : Value := if k % 4 = 0 then .int .i64 (F (k / 4)).n else if k % 4 = 1 then .int .i64 (F (k / 4)).i else if k % 4 = 2 then .int .i64 (F (k / 4)).s else .slice (F (k / 4)).ba (F (k / 4)).bl (F (k / 4)).bc
def Dt.zero : Dt := ⟨0, 0, 0, none, 0, 0, (fun _ => 0)⟩
theorem Dtrow_in {w : World} {b t n : Nat} {F : Nat → Dt} (h : w.rowIs b t (n * 4) (Dtv F)) : DtIn w b 0 n F := fun k hk => by
 have e0 := h.cell (i := k * 4) (by omega)
 have e1 := h.cell (i := k * 4 + 1) (by omega)
 have e2 := h.cell (i := k * 4 + 2) (by omega)
 have e3 := h.cell (i := k * 4 + 3) (by omega)
 have m1 : (k * 4 + 1) % 4 = 1 ∧ (k * 4 + 1) / 4 = k := by omega
 have m2 : (k * 4 + 2) % 4 = 2 ∧ (k * 4 + 2) / 4 = k := by omega
 have m3 : (k * 4 + 3) % 4 = 3 ∧ (k * 4 + 3) / 4 = k := by omega
 simp only [Nat.zero_add]
 simp [Dtv] at e0
 simp [Dtv, m1.1, m1.2] at e1
 simp [Dtv, m2.1, m2.2] at e2
 simp [Dtv, m3.1, m3.2] at e3
 exact ⟨e0, e1, e2, e3⟩
theorem Dtrun_make (n : Nat) (hn : n ≤ 1048576) (w : World) :
  (Instr.makeSlice 37 (.int .i64 (n : Int)) (.int .i64 (n : Int))).run Tryz.prog w = .ok (.slice (some ⟨w.heap.size, 0, none⟩) n n) (w.alloc (.cells (madeCells #[.int .i64 0, .int .i64 0, .int .i64 0, .slice none 0 0] (n * 4)) 121)) := by
 have hinf : (Tryz.prog.info? 121).map (fun i => (i.zero, i.size, i.bytes)) = some (some (.agg #[.int .i64 0, .int .i64 0, .int .i64 0, .slice none 0 0]), 4, 48) := by kernel_rfl
 obtain ⟨i, hi, hzz⟩ := Option.map_eq_some_iff.1 hinf
 simp only [Prod.mk.injEq] at hzz
 obtain ⟨hz, hs, hb⟩ := hzz
 have hr := run_make (P := Tryz.prog) w 37 121 i _ Tryz.underlying37 hi hz .i64 .i64 n n (by omega) (Int.le_refl _) (by rw [hb]; omega) (by omega)
 rw [hr, hs, Int.toNat_natCast]
 rfl
theorem Dtrow_made (n : Nat) (w : World) : (w.alloc (.cells (madeCells #[.int .i64 0, .int .i64 0, .int .i64 0, .slice none 0 0] (n * 4)) 121)).rowIs w.heap.size 121 (n * 4) (Dtv fun _ => Dt.zero) :=
 ⟨_, heap_alloc_new _ _, size_madeCells _ _, fun i hi => by
  have : i % 4 = 0 ∨ i % 4 = 1 ∨ i % 4 = 2 ∨ i % 4 = 3 := by omega
  rcases this with h | h | h | h <;> simp [madeCells, hi, Dtv, h, Dt.zero]⟩
theorem Dtrow_put {w : World} {b n k : Nat} {F : Nat → Dt} (h : w.rowIs b 121 (n * 4) (Dtv F)) (x : Dt) :
  ((((w.setCell ⟨b, k * 4, none⟩ (.int .i64 x.n)).setCell ⟨b, k * 4 + 1, none⟩ (.int .i64 x.i)).setCell ⟨b, k * 4 + 2, none⟩ (.int .i64 x.s)).setCell ⟨b, k * 4 + 3, none⟩ (.slice x.ba x.bl x.bc)).rowIs b 121 (n * 4) (Dtv fun j => if j = k then x else F j) :=
 (((((h.set (k * 4) _).set (k * 4 + 1) _).set (k * 4 + 2) _).set (k * 4 + 3) _)).congr fun j hj => by
  by_cases e : j / 4 = k
  ·have : j % 4 = 0 ∨ j % 4 = 1 ∨ j % 4 = 2 ∨ j % 4 = 3 := by omega
   rcases this with h | h | h | h
   ·have : j = k * 4 := by omega
    subst this; simp [Dtv]
   ·have : j = k * 4 + 1 := by omega
    subst this; simp [Dtv, h, e]
   ·have : j = k * 4 + 2 := by omega
    subst this; simp [Dtv, h, e]
   ·have : j = k * 4 + 3 := by omega
    subst this; simp [Dtv, h, e]
  ·have h0 : ¬ j = k * 4 := by omega
   have h1 : ¬ j = k * 4 + 1 := by omega
   have h2 : ¬ j = k * 4 + 2 := by omega
   have h3 : ¬ j = k * 4 + 3 := by omega
   simp [Dtv, e, h0, h1, h2, h3]
theorem Dtbelow_set {w w' : World} {b o : Nat} (x0 x1 x2 x3 : Value) (h : Below w.heap.size w w') (hb : w.heap.size ≤ b) :
  Below w.heap.size w ((((w'.setCell ⟨b, o, none⟩ x0).setCell ⟨b, o + 1, none⟩ x1).setCell ⟨b, o + 2, none⟩ x2).setCell ⟨b, o + 3, none⟩ x3) :=
 ((((h.setCell (p := ⟨b, o, none⟩) hb x0).setCell (p := ⟨b, o + 1, none⟩) hb x1).setCell (p := ⟨b, o + 2, none⟩) hb x2).setCell (p := ⟨b, o + 3, none⟩) hb x3)
def DtEq (x y : Dt) : Prop := x.n = y.n ∧ x.i = y.i ∧ x.s = y.s ∧ x.bl = y.bl ∧ x.bf = y.bf
theorem DtEq.refl (x : Dt) : DtEq x x := ⟨rfl, rfl, rfl, rfl, rfl⟩
def DtOwn (w : World) (b : Nat) (k : Nat) (G : Nat → Dt) : Prop := ∀ j, j < k → ∃ bb, (G j).ba = some ⟨bb, 0, none⟩ ∧ b < bb ∧ IRow w (some ⟨bb, 0, none⟩) (G j).bl (G j).bf
theorem DtOwn.below {w w' : World} {b k : Nat} {G : Nat → Dt} (h : DtOwn w b k G) (hb : Below w.heap.size w w') : DtOwn w' b k G := fun j hj => by
 obtain ⟨bb, h1, h2, h3⟩ := h j hj
 exact ⟨bb, h1, h2, h3.below hb⟩
theorem DtOwn.far {w : World} {b k o : Nat} {G : Nat → Dt} (v : Value) (h : DtOwn w b k G) : DtOwn (w.setCell ⟨b, o, none⟩ v) b k G := fun j hj => by
 obtain ⟨bb, h1, h2, h3⟩ := h j hj
 exact ⟨bb, h1, h2, h3.far (by omega)⟩
theorem DttoS_any (a : Option Addr) (len cap : Nat) (F : Nat → Dt) (w : World) (h : DtSl w a len F) (hl : len ≤ 1048576) (hB : DtB w len F) (hC : ∀ j, j < len → (F j).bl ≤ (F j).bc) :
  Calls Tryz.prog 34 #[.slice a len cap] w fun e w' => ∃ b G, e = .returned (.slice (some ⟨b, 0, none⟩) len len) ∧ w'.rowIs b 121 (len * 4) (Dtv G) ∧ DtOwn w' b len G ∧ (∀ j, DtEq (G j) (F j)) ∧ w.heap.size ≤ b ∧ Below w.heap.size w w' := by
 have hmk := Dtrun_make len hl
 go_enter Tryz.func34, Tryz.ntmps34
 go_wp2
 go_loopw [4] (fun i wr => ∃ (k : Nat) (G : Nat → Dt), k ≤ len ∧ i = .int .i64 k ∧ Below w.heap.size w wr ∧ wr.rowIs w.heap.size 121 (len * 4) (Dtv fun j => if j < k then G j else Dt.zero) ∧ DtOwn wr w.heap.size k G ∧ (∀ j, DtEq (G j) (F j))) (fun i _ => len - (intOf i).toNat)
 case atStart => exact ⟨0, F, Nat.zero_le _, rfl, balloc _ (Below.refl _ _), by simpa using Dtrow_made len w, fun j hj => by omega, fun j => DtEq.refl _⟩
 case round =>
  obtain ⟨k, G, hk, rfl, hb, hr, hO, hE⟩ := hrel
  clear hmk
  by_cases hlt : k < len
  ·obtain ⟨b, off, rfl, hbl, hf⟩ := h (by omega)
   obtain ⟨c0, c1, c2, c3⟩ := (hf.below hb hbl) k hlt
   have hS := (hB k hlt).1.below hb
   have hbl' := (hB k hlt).2
   have hcc := hC k hlt
   obtain ⟨x, hx⟩ : ∃ x, Hid (F k = x) := ⟨_, rfl⟩
   rw [hx.out] at c0 c1 c2 c3 hS hbl' hcc
   obtain ⟨n, i, s, ba, bl, bc, bf⟩ := x
   dsimp only at c0 c1 c2 c3 hS hbl' hcc
   go_wp2_with fail
   refine (Dtto_any n i s ba bl bc bf _ hS hbl' hcc).mono ?_
   rintro e w1 ⟨bb, rfl, hI, hbb, b1⟩
   have hr1 := row_below hr b1
   have hb1 := btrans hb b1
   have hO1 := hO.below b1
   have hlt1 : w.heap.size < bb := by have := hr.lt; omega
   have d0 := hr1.cell (i := k * 4) (by omega)
   have d1 := hr1.cell (i := k * 4 + 1) (by omega)
   have d2 := hr1.cell (i := k * 4 + 2) (by omega)
   have d3 := hr1.cell (i := k * 4 + 3) (by omega)
   have f0 := hr1.frozen (k * 4)
   have f1 := hr1.frozen (k * 4 + 1)
   have f2 := hr1.frozen (k * 4 + 2)
   have f3 := hr1.frozen (k * 4 + 3)
   clear hr b1 c0 c1 c2 c3 hb hS hO
   have hne : bb ≠ w.heap.size := by omega
   go_wp2
   go_roundw
   case rel =>
    refine ⟨k + 1, fun j => if j = k then ⟨n, i, s, some ⟨bb, 0, none⟩, bl, bl, bf⟩ else G j, by omega, by go_num, Dtbelow_set _ _ _ _ hb1 (Nat.le_refl _), (Dtrow_put hr1 ⟨n, i, s, some ⟨bb, 0, none⟩, bl, bl, bf⟩).congr fun j _ => ?_, fun j hj => ?_, fun j => ?_⟩
    ·congr 1
     funext j
     by_cases e : j = k
     ·subst e; simp
     ·have : j < k + 1 ↔ j < k := by omega
      simp [e, this]
    ·by_cases e : j = k
     ·subst e
      simp only [if_true]
      refine ⟨bb, rfl, hlt1, ?_⟩
      refine IRow.far ?_ hne; refine IRow.far ?_ hne; refine IRow.far ?_ hne; refine IRow.far ?_ hne
      exact hI
     ·obtain ⟨b2, h1, h2, h3⟩ := hO1 j (by omega)
      have hne2 : b2 ≠ w.heap.size := by omega
      simp only [e, if_false]
      refine ⟨b2, h1, h2, ?_⟩
      refine IRow.far ?_ hne2; refine IRow.far ?_ hne2; refine IRow.far ?_ hne2; refine IRow.far ?_ hne2
      exact h3
    ·by_cases e : j = k
     ·subst e
      simp only [if_true]
      rw [hx.out]
      exact ⟨rfl, rfl, rfl, rfl, rfl⟩
     ·simp only [e, if_false]
      exact hE j
   case measure => simp [intOf]; omega
  ·go_wp2
   go_ret
   have e : k = len := by omega
   subst e
   exact ⟨w.heap.size, G, rfl, hr.congr fun j hj => by
    have h9 : j / 4 < k := by omega
    simp [Dtv, h9], hO, hE, Nat.le_refl _, hb⟩
theorem DtOwn.B {w : World} {b len : Nat} {G F : Nat → Dt} (h : DtOwn w b len G) (hE : ∀ j, DtEq (G j) (F j)) (hB : ∀ j, j < len → (F j).bl ≤ 1048576) : DtB w len G := fun j hj => by
 obtain ⟨b2, h1, h2, h3⟩ := h j hj
 have he := (hE j).2.2.2.1
 exact ⟨h1 ▸ h3.sl, by rw [he]; exact hB j hj⟩
theorem Dtrow_sl {w : World} {b t n : Nat} {F : Nat → Dt} (h : w.rowIs b t (n * 4) (Dtv F)) : DtSl w (some ⟨b, 0, none⟩) n F := fun _ => ⟨b, 0, rfl, h.lt, Dtrow_in h⟩
def Plv (F : Nat → Pl) (k : Nat) : Value := if k % 6 = 0 then .int .i64 (F (k / 6)).n else if k % 6 = 1 then .int .i64 (F (k / 6)).x else if k % 6 = 2 then .int .i64 (F (k / 6)).y else if k % 6 = 3 then .int .i64 (F (k / 6)).h else if k % 6 = 4 then .int .i64 (F (k / 6)).e else .slice (F (k / 6)).ba (F (k / 6)).bl (F (k / 6)).bc
def Pl.zero : Pl := ⟨0, 0, 0, 0, 0, none, 0, 0, (fun _ => 0)⟩
theorem Plrow_in {w : World} {b t n : Nat} {F : Nat → Pl} (h : w.rowIs b t (n * 6) (Plv F)) : PlIn w b 0 n F := fun k hk => by
 have e0 := h.cell (i := k * 6) (by omega)
 have e1 := h.cell (i := k * 6 + 1) (by omega)
 have e2 := h.cell (i := k * 6 + 2) (by omega)
 have e3 := h.cell (i := k * 6 + 3) (by omega)
 have e4 := h.cell (i := k * 6 + 4) (by omega)
 have e5 := h.cell (i := k * 6 + 5) (by omega)
 have m1 : (k * 6 + 1) % 6 = 1 ∧ (k * 6 + 1) / 6 = k := by omega
 have m2 : (k * 6 + 2) % 6 = 2 ∧ (k * 6 + 2) / 6 = k := by omega
 have m3 : (k * 6 + 3) % 6 = 3 ∧ (k * 6 + 3) / 6 = k := by omega
 have m4 : (k * 6 + 4) % 6 = 4 ∧ (k * 6 + 4) / 6 = k := by omega
 have m5 : (k * 6 + 5) % 6 = 5 ∧ (k * 6 + 5) / 6 = k := by omega
 simp only [Nat.zero_add]
 simp [Plv] at e0
 simp [Plv, m1.1, m1.2] at e1
 simp [Plv, m2.1, m2.2] at e2
 simp [Plv, m3.1, m3.2] at e3
 simp [Plv, m4.1, m4.2] at e4
 simp [Plv, m5.1, m5.2] at e5
 exact ⟨e0, e1, e2, e3, e4, e5⟩
theorem Plrun_make (n : Nat) (hn : n ≤ 1048576) (w : World) :
  (Instr.makeSlice 39 (.int .i64 (n : Int)) (.int .i64 (n : Int))).run Tryz.prog w = .ok (.slice (some ⟨w.heap.size, 0, none⟩) n n) (w.alloc (.cells (madeCells #[.int .i64 0, .int .i64 0, .int .i64 0, .int .i64 0, .int .i64 0, .slice none 0 0] (n * 6)) 103)) := by
 have hinf : (Tryz.prog.info? 103).map (fun i => (i.zero, i.size, i.bytes)) = some (some (.agg #[.int .i64 0, .int .i64 0, .int .i64 0, .int .i64 0, .int .i64 0, .slice none 0 0]), 6, 64) := by kernel_rfl
 obtain ⟨i, hi, hzz⟩ := Option.map_eq_some_iff.1 hinf
 simp only [Prod.mk.injEq] at hzz
 obtain ⟨hz, hs, hb⟩ := hzz
 have hr := run_make (P := Tryz.prog) w 39 103 i _ Tryz.underlying39 hi hz .i64 .i64 n n (by omega) (Int.le_refl _) (by rw [hb]; omega) (by omega)
 rw [hr, hs, Int.toNat_natCast]
 rfl
theorem Plrow_made (n : Nat) (w : World) : (w.alloc (.cells (madeCells #[.int .i64 0, .int .i64 0, .int .i64 0, .int .i64 0, .int .i64 0, .slice none 0 0] (n * 6)) 103)).rowIs w.heap.size 103 (n * 6) (Plv fun _ => Pl.zero) :=
 ⟨_, heap_alloc_new _ _, size_madeCells _ _, fun i hi => by
  have : i % 6 = 0 ∨ i % 6 = 1 ∨ i % 6 = 2 ∨ i % 6 = 3 ∨ i % 6 = 4 ∨ i % 6 = 5 := by omega
  rcases this with h | h | h | h | h | h <;> simp [madeCells, hi, Plv, h, Pl.zero]⟩
theorem Plrow_put {w : World} {b n k : Nat} {F : Nat → Pl} (h : w.rowIs b 103 (n * 6) (Plv F)) (x : Pl) :
  ((((((w.setCell ⟨b, k * 6, none⟩ (.int .i64 x.n)).setCell ⟨b, k * 6 + 1, none⟩ (.int .i64 x.x)).setCell ⟨b, k * 6 + 2, none⟩ (.int .i64 x.y)).setCell ⟨b, k * 6 + 3, none⟩ (.int .i64 x.h)).setCell ⟨b, k * 6 + 4, none⟩ (.int .i64 x.e)).setCell ⟨b, k * 6 + 5, none⟩ (.slice x.ba x.bl x.bc)).rowIs b 103 (n * 6) (Plv fun j => if j = k then x else F j) :=
 (((((((h.set (k * 6) _).set (k * 6 + 1) _).set (k * 6 + 2) _).set (k * 6 + 3) _).set (k * 6 + 4) _).set (k * 6 + 5) _)).congr fun j hj => by
  by_cases e : j / 6 = k
  ·have : j % 6 = 0 ∨ j % 6 = 1 ∨ j % 6 = 2 ∨ j % 6 = 3 ∨ j % 6 = 4 ∨ j % 6 = 5 := by omega
   rcases this with h | h | h | h | h | h
   ·have : j = k * 6 := by omega
    subst this; simp [Plv]
   ·have : j = k * 6 + 1 := by omega
    subst this; simp [Plv, h, e]
   ·have : j = k * 6 + 2 := by omega
    subst this; simp [Plv, h, e]
   ·have : j = k * 6 + 3 := by omega
    subst this; simp [Plv, h, e]
   ·have : j = k * 6 + 4 := by omega
    subst this; simp [Plv, h, e]
   ·have : j = k * 6 + 5 := by omega
    subst this; simp [Plv, h, e]
  ·have h0 : ¬ j = k * 6 := by omega
   have h1 : ¬ j = k * 6 + 1 := by omega
   have h2 : ¬ j = k * 6 + 2 := by omega
   have h3 : ¬ j = k * 6 + 3 := by omega
   have h4 : ¬ j = k * 6 + 4 := by omega
   have h5 : ¬ j = k * 6 + 5 := by omega
   simp [Plv, e, h0, h1, h2, h3, h4, h5]
theorem Plbelow_set {w w' : World} {b o : Nat} (x0 x1 x2 x3 x4 x5 : Value) (h : Below w.heap.size w w') (hb : w.heap.size ≤ b) :
  Below w.heap.size w ((((((w'.setCell ⟨b, o, none⟩ x0).setCell ⟨b, o + 1, none⟩ x1).setCell ⟨b, o + 2, none⟩ x2).setCell ⟨b, o + 3, none⟩ x3).setCell ⟨b, o + 4, none⟩ x4).setCell ⟨b, o + 5, none⟩ x5) :=
 ((((((h.setCell (p := ⟨b, o, none⟩) hb x0).setCell (p := ⟨b, o + 1, none⟩) hb x1).setCell (p := ⟨b, o + 2, none⟩) hb x2).setCell (p := ⟨b, o + 3, none⟩) hb x3).setCell (p := ⟨b, o + 4, none⟩) hb x4).setCell (p := ⟨b, o + 5, none⟩) hb x5)
def PlEq (x y : Pl) : Prop := x.n = y.n ∧ x.x = y.x ∧ x.y = y.y ∧ x.h = y.h ∧ x.e = y.e ∧ x.bl = y.bl ∧ x.bf = y.bf
theorem PlEq.refl (x : Pl) : PlEq x x := ⟨rfl, rfl, rfl, rfl, rfl, rfl, rfl⟩
def PlOwn (w : World) (b : Nat) (k : Nat) (G : Nat → Pl) : Prop := ∀ j, j < k → ∃ bb, (G j).ba = some ⟨bb, 0, none⟩ ∧ b < bb ∧ IRow w (some ⟨bb, 0, none⟩) (G j).bl (G j).bf
theorem PlOwn.below {w w' : World} {b k : Nat} {G : Nat → Pl} (h : PlOwn w b k G) (hb : Below w.heap.size w w') : PlOwn w' b k G := fun j hj => by
 obtain ⟨bb, h1, h2, h3⟩ := h j hj
 exact ⟨bb, h1, h2, h3.below hb⟩
theorem PlOwn.far {w : World} {b k o : Nat} {G : Nat → Pl} (v : Value) (h : PlOwn w b k G) : PlOwn (w.setCell ⟨b, o, none⟩ v) b k G := fun j hj => by
 obtain ⟨bb, h1, h2, h3⟩ := h j hj
 exact ⟨bb, h1, h2, h3.far (by omega)⟩
theorem PltoS_any (a : Option Addr) (len cap : Nat) (F : Nat → Pl) (w : World) (h : PlSl w a len F) (hl : len ≤ 1048576) (hB : PlB w len F) (hC : ∀ j, j < len → (F j).bl ≤ (F j).bc) :
  Calls Tryz.prog 36 #[.slice a len cap] w fun e w' => ∃ b G, e = .returned (.slice (some ⟨b, 0, none⟩) len len) ∧ w'.rowIs b 103 (len * 6) (Plv G) ∧ PlOwn w' b len G ∧ (∀ j, PlEq (G j) (F j)) ∧ w.heap.size ≤ b ∧ Below w.heap.size w w' := by
 have hmk := Plrun_make len hl
 go_enter Tryz.func36, Tryz.ntmps36
 go_wp2
 go_loopw [4] (fun i wr => ∃ (k : Nat) (G : Nat → Pl), k ≤ len ∧ i = .int .i64 k ∧ Below w.heap.size w wr ∧ wr.rowIs w.heap.size 103 (len * 6) (Plv fun j => if j < k then G j else Pl.zero) ∧ PlOwn wr w.heap.size k G ∧ (∀ j, PlEq (G j) (F j))) (fun i _ => len - (intOf i).toNat)
 case atStart => exact ⟨0, F, Nat.zero_le _, rfl, balloc _ (Below.refl _ _), by simpa using Plrow_made len w, fun j hj => by omega, fun j => PlEq.refl _⟩
 case round =>
  obtain ⟨k, G, hk, rfl, hb, hr, hO, hE⟩ := hrel
  clear hmk
  by_cases hlt : k < len
  ·obtain ⟨b, off, rfl, hbl, hf⟩ := h (by omega)
   obtain ⟨c0, c1, c2, c3, c4, c5⟩ := (hf.below hb hbl) k hlt
   have hS := (hB k hlt).1.below hb
   have hbl' := (hB k hlt).2
   have hcc := hC k hlt
   obtain ⟨x, hx⟩ : ∃ x, Hid (F k = x) := ⟨_, rfl⟩
   rw [hx.out] at c0 c1 c2 c3 c4 c5 hS hbl' hcc
   obtain ⟨n, x, y, h, e, ba, bl, bc, bf⟩ := x
   dsimp only at c0 c1 c2 c3 c4 c5 hS hbl' hcc
   go_wp2_with fail
   refine (Plto_any n x y h e ba bl bc bf _ hS hbl' hcc).mono ?_
   rintro e w1 ⟨bb, rfl, hI, hbb, b1⟩
   have hr1 := row_below hr b1
   have hb1 := btrans hb b1
   have hO1 := hO.below b1
   have hlt1 : w.heap.size < bb := by have := hr.lt; omega
   have d0 := hr1.cell (i := k * 6) (by omega)
   have d1 := hr1.cell (i := k * 6 + 1) (by omega)
   have d2 := hr1.cell (i := k * 6 + 2) (by omega)
   have d3 := hr1.cell (i := k * 6 + 3) (by omega)
   have d4 := hr1.cell (i := k * 6 + 4) (by omega)
   have d5 := hr1.cell (i := k * 6 + 5) (by omega)
   have f0 := hr1.frozen (k * 6)
   have f1 := hr1.frozen (k * 6 + 1)
   have f2 := hr1.frozen (k * 6 + 2)
   have f3 := hr1.frozen (k * 6 + 3)
   have f4 := hr1.frozen (k * 6 + 4)
   have f5 := hr1.frozen (k * 6 + 5)
   clear hr b1 c0 c1 c2 c3 c4 c5 hb hS hO
   have hne : bb ≠ w.heap.size := by omega
   go_wp2
   go_roundw
   case rel =>
    refine ⟨k + 1, fun j => if j = k then ⟨n, x, y, h, e, some ⟨bb, 0, none⟩, bl, bl, bf⟩ else G j, by omega, by go_num, Plbelow_set _ _ _ _ _ _ hb1 (Nat.le_refl _), (Plrow_put hr1 ⟨n, x, y, h, e, some ⟨bb, 0, none⟩, bl, bl, bf⟩).congr fun j _ => ?_, fun j hj => ?_, fun j => ?_⟩
    ·congr 1
     funext j
     by_cases e : j = k
     ·subst e; simp
     ·have : j < k + 1 ↔ j < k := by omega
      simp [e, this]
    ·by_cases e : j = k
     ·subst e
      simp only [if_true]
      refine ⟨bb, rfl, hlt1, ?_⟩
      refine IRow.far ?_ hne; refine IRow.far ?_ hne; refine IRow.far ?_ hne; refine IRow.far ?_ hne; refine IRow.far ?_ hne; refine IRow.far ?_ hne
      exact hI
     ·obtain ⟨b2, h1, h2, h3⟩ := hO1 j (by omega)
      have hne2 : b2 ≠ w.heap.size := by omega
      simp only [e, if_false]
      refine ⟨b2, h1, h2, ?_⟩
      refine IRow.far ?_ hne2; refine IRow.far ?_ hne2; refine IRow.far ?_ hne2; refine IRow.far ?_ hne2; refine IRow.far ?_ hne2; refine IRow.far ?_ hne2
      exact h3
    ·by_cases e : j = k
     ·subst e
      simp only [if_true]
      rw [hx.out]
      exact ⟨rfl, rfl, rfl, rfl, rfl, rfl, rfl⟩
     ·simp only [e, if_false]
      exact hE j
   case measure => simp [intOf]; omega
  ·go_wp2
   go_ret
   have e : k = len := by omega
   subst e
   exact ⟨w.heap.size, G, rfl, hr.congr fun j hj => by
    have h9 : j / 6 < k := by omega
    simp [Plv, h9], hO, hE, Nat.le_refl _, hb⟩
theorem PlOwn.B {w : World} {b len : Nat} {G F : Nat → Pl} (h : PlOwn w b len G) (hE : ∀ j, PlEq (G j) (F j)) (hB : ∀ j, j < len → (F j).bl ≤ 1048576) : PlB w len G := fun j hj => by
 obtain ⟨b2, h1, h2, h3⟩ := h j hj
 have he := (hE j).2.2.2.2.2.1
 exact ⟨h1 ▸ h3.sl, by rw [he]; exact hB j hj⟩
theorem Plrow_sl {w : World} {b t n : Nat} {F : Nat → Pl} (h : w.rowIs b t (n * 6) (Plv F)) : PlSl w (some ⟨b, 0, none⟩) n F := fun _ => ⟨b, 0, rfl, h.lt, Plrow_in h⟩
def Fgv (F : Nat → Fg) (k : Nat) : Value := if k % 2 = 0 then .int .i64 (F (k / 2)).n else .slice (F (k / 2)).ba (F (k / 2)).bl (F (k / 2)).bc
def Fg.zero : Fg := ⟨0, none, 0, 0, (fun _ => Fc.zero)⟩
theorem Fgrow_in {w : World} {b t n : Nat} {F : Nat → Fg} (h : w.rowIs b t (n * 2) (Fgv F)) : FgIn w b 0 n F := fun k hk => by
 have e0 := h.cell (i := k * 2) (by omega)
 have e1 := h.cell (i := k * 2 + 1) (by omega)
 have m1 : (k * 2 + 1) % 2 = 1 ∧ (k * 2 + 1) / 2 = k := by omega
 simp only [Nat.zero_add]
 simp [Fgv] at e0
 simp [Fgv, m1.1, m1.2] at e1
 exact ⟨e0, e1⟩
theorem Fgrun_make (n : Nat) (hn : n ≤ 1048576) (w : World) :
  (Instr.makeSlice 40 (.int .i64 (n : Int)) (.int .i64 (n : Int))).run Tryz.prog w = .ok (.slice (some ⟨w.heap.size, 0, none⟩) n n) (w.alloc (.cells (madeCells #[.int .i64 0, .slice none 0 0] (n * 2)) 123)) := by
 have hinf : (Tryz.prog.info? 123).map (fun i => (i.zero, i.size, i.bytes)) = some (some (.agg #[.int .i64 0, .slice none 0 0]), 2, 32) := by kernel_rfl
 obtain ⟨i, hi, hzz⟩ := Option.map_eq_some_iff.1 hinf
 simp only [Prod.mk.injEq] at hzz
 obtain ⟨hz, hs, hb⟩ := hzz
 have hr := run_make (P := Tryz.prog) w 40 123 i _ Tryz.underlying40 hi hz .i64 .i64 n n (by omega) (Int.le_refl _) (by rw [hb]; omega) (by omega)
 rw [hr, hs, Int.toNat_natCast]
 rfl
theorem Fgrow_made (n : Nat) (w : World) : (w.alloc (.cells (madeCells #[.int .i64 0, .slice none 0 0] (n * 2)) 123)).rowIs w.heap.size 123 (n * 2) (Fgv fun _ => Fg.zero) :=
 ⟨_, heap_alloc_new _ _, size_madeCells _ _, fun i hi => by
  have : i % 2 = 0 ∨ i % 2 = 1 := by omega
  rcases this with h | h <;> simp [madeCells, hi, Fgv, h, Fg.zero]⟩
theorem Fgrow_put {w : World} {b n k : Nat} {F : Nat → Fg} (h : w.rowIs b 123 (n * 2) (Fgv F)) (x : Fg) :
  ((w.setCell ⟨b, k * 2, none⟩ (.int .i64 x.n)).setCell ⟨b, k * 2 + 1, none⟩ (.slice x.ba x.bl x.bc)).rowIs b 123 (n * 2) (Fgv fun j => if j = k then x else F j) :=
 (((h.set (k * 2) _).set (k * 2 + 1) _)).congr fun j hj => by
  by_cases e : j / 2 = k
  ·have : j % 2 = 0 ∨ j % 2 = 1 := by omega
   rcases this with h | h
   ·have : j = k * 2 := by omega
    subst this; simp [Fgv]
   ·have : j = k * 2 + 1 := by omega
    subst this; simp [Fgv, h, e]
  ·have h0 : ¬ j = k * 2 := by omega
   have h1 : ¬ j = k * 2 + 1 := by omega
   simp [Fgv, e, h0, h1]
theorem Fgbelow_set {w w' : World} {b o : Nat} (x0 x1 : Value) (h : Below w.heap.size w w') (hb : w.heap.size ≤ b) :
  Below w.heap.size w ((w'.setCell ⟨b, o, none⟩ x0).setCell ⟨b, o + 1, none⟩ x1) :=
 ((h.setCell (p := ⟨b, o, none⟩) hb x0).setCell (p := ⟨b, o + 1, none⟩) hb x1)
def FgEq (x y : Fg) : Prop := x.n = y.n ∧ x.bl = y.bl ∧ x.bf = y.bf
theorem FgEq.refl (x : Fg) : FgEq x x := ⟨rfl, rfl, rfl⟩
def FgOwn (w : World) (b : Nat) (k : Nat) (G : Nat → Fg) : Prop := ∀ j, j < k → ∃ bb, (G j).ba = some ⟨bb, 0, none⟩ ∧ b < bb ∧ FRow w (some ⟨bb, 0, none⟩) (G j).bl (G j).bf
theorem FgOwn.below {w w' : World} {b k : Nat} {G : Nat → Fg} (h : FgOwn w b k G) (hb : Below w.heap.size w w') : FgOwn w' b k G := fun j hj => by
 obtain ⟨bb, h1, h2, h3⟩ := h j hj
 exact ⟨bb, h1, h2, h3.below hb⟩
theorem FgOwn.far {w : World} {b k o : Nat} {G : Nat → Fg} (v : Value) (h : FgOwn w b k G) : FgOwn (w.setCell ⟨b, o, none⟩ v) b k G := fun j hj => by
 obtain ⟨bb, h1, h2, h3⟩ := h j hj
 exact ⟨bb, h1, h2, h3.far (by omega)⟩
theorem FgtoS_any (a : Option Addr) (len cap : Nat) (F : Nat → Fg) (w : World) (h : FgSl w a len F) (hl : len ≤ 1048576) (hB : FgB w len F) (hC : ∀ j, j < len → (F j).bl ≤ (F j).bc) :
  Calls Tryz.prog 37 #[.slice a len cap] w fun e w' => ∃ b G, e = .returned (.slice (some ⟨b, 0, none⟩) len len) ∧ w'.rowIs b 123 (len * 2) (Fgv G) ∧ FgOwn w' b len G ∧ (∀ j, FgEq (G j) (F j)) ∧ w.heap.size ≤ b ∧ Below w.heap.size w w' := by
 have hmk := Fgrun_make len hl
 go_enter Tryz.func37, Tryz.ntmps37
 go_wp2
 go_loopw [4] (fun i wr => ∃ (k : Nat) (G : Nat → Fg), k ≤ len ∧ i = .int .i64 k ∧ Below w.heap.size w wr ∧ wr.rowIs w.heap.size 123 (len * 2) (Fgv fun j => if j < k then G j else Fg.zero) ∧ FgOwn wr w.heap.size k G ∧ (∀ j, FgEq (G j) (F j))) (fun i _ => len - (intOf i).toNat)
 case atStart => exact ⟨0, F, Nat.zero_le _, rfl, balloc _ (Below.refl _ _), by simpa using Fgrow_made len w, fun j hj => by omega, fun j => FgEq.refl _⟩
 case round =>
  obtain ⟨k, G, hk, rfl, hb, hr, hO, hE⟩ := hrel
  clear hmk
  by_cases hlt : k < len
  ·obtain ⟨b, off, rfl, hbl, hf⟩ := h (by omega)
   obtain ⟨c0, c1⟩ := (hf.below hb hbl) k hlt
   have hS := (hB k hlt).1.below hb
   have hbl' := (hB k hlt).2
   have hcc := hC k hlt
   obtain ⟨x, hx⟩ : ∃ x, Hid (F k = x) := ⟨_, rfl⟩
   rw [hx.out] at c0 c1 hS hbl' hcc
   obtain ⟨n, ba, bl, bc, bf⟩ := x
   dsimp only at c0 c1 hS hbl' hcc
   go_wp2_with fail
   refine (Fgto_any n ba bl bc bf _ hS hbl' hcc).mono ?_
   rintro e w1 ⟨bb, rfl, hI, hbb, b1⟩
   have hr1 := row_below hr b1
   have hb1 := btrans hb b1
   have hO1 := hO.below b1
   have hlt1 : w.heap.size < bb := by have := hr.lt; omega
   have d0 := hr1.cell (i := k * 2) (by omega)
   have d1 := hr1.cell (i := k * 2 + 1) (by omega)
   have f0 := hr1.frozen (k * 2)
   have f1 := hr1.frozen (k * 2 + 1)
   clear hr b1 c0 c1 hb hS hO
   have hne : bb ≠ w.heap.size := by omega
   go_wp2
   go_roundw
   case rel =>
    refine ⟨k + 1, fun j => if j = k then ⟨n, some ⟨bb, 0, none⟩, bl, bl, bf⟩ else G j, by omega, by go_num, Fgbelow_set _ _ hb1 (Nat.le_refl _), (Fgrow_put hr1 ⟨n, some ⟨bb, 0, none⟩, bl, bl, bf⟩).congr fun j _ => ?_, fun j hj => ?_, fun j => ?_⟩
    ·congr 1
     funext j
     by_cases e : j = k
     ·subst e; simp
     ·have : j < k + 1 ↔ j < k := by omega
      simp [e, this]
    ·by_cases e : j = k
     ·subst e
      simp only [if_true]
      refine ⟨bb, rfl, hlt1, ?_⟩
      refine FRow.far ?_ hne; refine FRow.far ?_ hne
      exact hI
     ·obtain ⟨b2, h1, h2, h3⟩ := hO1 j (by omega)
      have hne2 : b2 ≠ w.heap.size := by omega
      simp only [e, if_false]
      refine ⟨b2, h1, h2, ?_⟩
      refine FRow.far ?_ hne2; refine FRow.far ?_ hne2
      exact h3
    ·by_cases e : j = k
     ·subst e
      simp only [if_true]
      rw [hx.out]
      exact ⟨rfl, rfl, rfl⟩
     ·simp only [e, if_false]
      exact hE j
   case measure => simp [intOf]; omega
  ·go_wp2
   go_ret
   have e : k = len := by omega
   subst e
   exact ⟨w.heap.size, G, rfl, hr.congr fun j hj => by
    have h9 : j / 2 < k := by omega
    simp [Fgv, h9], hO, hE, Nat.le_refl _, hb⟩
theorem FgOwn.B {w : World} {b len : Nat} {G F : Nat → Fg} (h : FgOwn w b len G) (hE : ∀ j, FgEq (G j) (F j)) (hB : ∀ j, j < len → (F j).bl ≤ 1048576) : FgB w len G := fun j hj => by
 obtain ⟨b2, h1, h2, h3⟩ := h j hj
 have he := (hE j).2.1
 exact ⟨h1 ▸ h3.sl, by rw [he]; exact hB j hj⟩
theorem Fgrow_sl {w : World} {b t n : Nat} {F : Nat → Fg} (h : w.rowIs b t (n * 2) (Fgv F)) : FgSl w (some ⟨b, 0, none⟩) n F := fun _ => ⟨b, 0, rfl, h.lt, Fgrow_in h⟩
end Go.Proofs.YtgcdcfjaeehnbaaGreat
