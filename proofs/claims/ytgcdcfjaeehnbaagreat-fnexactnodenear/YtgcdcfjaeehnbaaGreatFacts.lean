/- Lists of facts in memory: what is read of them; the copy that the laws make. -/
import Derived.Test.YtgcdcfjaeehnbaaGreatExOver
import Derived.Deep.OwnRows
import Derived.Laws.MakeOwn
namespace Go.Proofs.YtgcdcfjaeehnbaaGreat
open Go.ChangeShapes Go.WideShapes Go.ChangeAt Go.RowKit
attribute [local go_sem ↓] Go.wp_at_zero Go.wp_at_succ
/-- a fact, its numbers -/
structure Fc where
  n : Int
  i : Int
  s : Int
  g : Bool
/-- facts lie in block b, from off on -/
def FactsIn (w : World) (b off len : Nat) (F : Nat → Fc) : Prop :=
  ∀ k, k < len → w.cell? ⟨b, off + k * 4, none⟩ = some (.int .i64 (F k).n) ∧ w.cell? ⟨b, off + k * 4 + 1, none⟩ = some (.int .i64 (F k).i) ∧ w.cell? ⟨b, off + k * 4 + 2, none⟩ = some (.int .i64 (F k).s) ∧ w.cell? ⟨b, off + k * 4 + 3, none⟩ = some (.bool (F k).g)
/-- a slice of facts: where there are any they lie in memory that is there -/
def FSl (w : World) (a : Option Addr) (len : Nat) (F : Nat → Fc) : Prop :=
  0 < len → ∃ b off, a = some ⟨b, off, none⟩ ∧ b < w.heap.size ∧ FactsIn w b off len F
theorem FactsIn.below {B : Nat} {w w' : World} {b off len : Nat} {F : Nat → Fc} (h : FactsIn w b off len F) (hb : Below B w w') (hl : b < B) : FactsIn w' b off len F := fun k hk => by
  obtain ⟨h0, h1, h2, h3⟩ := h k hk
  exact ⟨(hb.cell (p := ⟨b, _, none⟩) hl).trans h0, (hb.cell (p := ⟨b, _, none⟩) hl).trans h1, (hb.cell (p := ⟨b, _, none⟩) hl).trans h2, (hb.cell (p := ⟨b, _, none⟩) hl).trans h3⟩
theorem FSl.below {w w' : World} {a : Option Addr} {len : Nat} {F : Nat → Fc} (h : FSl w a len F) (hb : Below w.heap.size w w') : FSl w' a len F := fun hl => by
  obtain ⟨b, off, e, hlt, hf⟩ := h hl
  exact ⟨b, off, e, by have := hb.size; omega, hf.below hb hlt⟩
/-- a row of facts of the call's own -/
def fv (F : Nat → Fc) (k : Nat) : Value := if k % 4 = 0 then .int .i64 (F (k / 4)).n else if k % 4 = 1 then .int .i64 (F (k / 4)).i else if k % 4 = 2 then .int .i64 (F (k / 4)).s else .bool (F (k / 4)).g
theorem row_in {w : World} {b t n : Nat} {F : Nat → Fc} (h : w.rowIs b t (n * 4) (fv F)) : FactsIn w b 0 n F := fun k hk => by
  have e0 := h.cell (i := k * 4) (by omega)
  have e1 := h.cell (i := k * 4 + 1) (by omega)
  have e2 := h.cell (i := k * 4 + 2) (by omega)
  have e3 := h.cell (i := k * 4 + 3) (by omega)
  have m1 : (k * 4 + 1) % 4 = 1 ∧ (k * 4 + 1) / 4 = k := by omega
  have m2 : (k * 4 + 2) % 4 = 2 ∧ (k * 4 + 2) / 4 = k := by omega
  have m3 : (k * 4 + 3) % 4 = 3 ∧ (k * 4 + 3) / 4 = k := by omega
  simp only [Nat.zero_add]
  simp [fv] at e0
  simp [fv, m1.1, m1.2] at e1
  simp [fv, m2.1, m2.2] at e2
  simp [fv, m3.1, m3.2] at e3
  exact ⟨e0, e1, e2, e3⟩
def Fc.zero : Fc := ⟨0, 0, 0, false⟩
theorem info24 : (Tryz.prog.info? 96).map (fun i => (i.zero, i.size, i.bytes)) = some (some (.agg #[.int .i64 0, .int .i64 0, .int .i64 0, .bool false]), 4, 32) := by kernel_rfl
theorem run_make_facts (n : Nat) (hn : n ≤ 1048576) (w : World) :
    (Instr.makeSlice 34 (.int .i64 (n : Int)) (.int .i64 (n : Int))).run Tryz.prog w = .ok (.slice (some ⟨w.heap.size, 0, none⟩) n n) (w.alloc (.cells (madeCells #[.int .i64 0, .int .i64 0, .int .i64 0, .bool false] (n * 4)) 96)) := by
  obtain ⟨i, hi, hzz⟩ := Option.map_eq_some_iff.1 info24
  simp only [Prod.mk.injEq] at hzz
  obtain ⟨hz, hs, hb⟩ := hzz
  have hr := run_make (P := Tryz.prog) w 34 96 i _ Tryz.underlying34 hi hz .i64 .i64 n n (by omega) (Int.le_refl _) (by rw [hb]; omega) (by omega)
  rw [hr, hs, Int.toNat_natCast]
  rfl
theorem row_made (n : Nat) (w : World) : (w.alloc (.cells (madeCells #[.int .i64 0, .int .i64 0, .int .i64 0, .bool false] (n * 4)) 96)).rowIs w.heap.size 96 (n * 4) (fv fun _ => Fc.zero) :=
  ⟨_, heap_alloc_new _ _, size_madeCells _ _, fun i hi => by
    have : i % 4 = 0 ∨ i % 4 = 1 ∨ i % 4 = 2 ∨ i % 4 = 3 := by omega
    rcases this with h | h | h | h <;> simp [madeCells, hi, fv, h, Fc.zero]⟩
theorem row_put {w : World} {b n k : Nat} {F : Nat → Fc} (h : w.rowIs b 96 (n * 4) (fv F)) (x : Fc) :
    ((((w.setCell ⟨b, k * 4, none⟩ (.int .i64 x.n)).setCell ⟨b, k * 4 + 1, none⟩ (.int .i64 x.i)).setCell ⟨b, k * 4 + 2, none⟩ (.int .i64 x.s)).setCell ⟨b, k * 4 + 3, none⟩ (.bool x.g)).rowIs b 96 (n * 4) (fv fun j => if j = k then x else F j) :=
  ((((h.set (k * 4) _).set (k * 4 + 1) _).set (k * 4 + 2) _).set (k * 4 + 3) _).congr fun j hj => by
    by_cases e : j / 4 = k
    · have : j % 4 = 0 ∨ j % 4 = 1 ∨ j % 4 = 2 ∨ j % 4 = 3 := by omega
      rcases this with h | h | h | h
      · have : j = k * 4 := by omega
        subst this; simp [fv]
      · have : j = k * 4 + 1 := by omega
        subst this; simp [fv, h, e]
      · have : j = k * 4 + 2 := by omega
        subst this; simp [fv, h, e]
      · have : j = k * 4 + 3 := by omega
        subst this; simp [fv, h, e]
    · have h0 : ¬ j = k * 4 := by omega
      have h1 : ¬ j = k * 4 + 1 := by omega
      have h2 : ¬ j = k * 4 + 2 := by omega
      have h3 : ¬ j = k * 4 + 3 := by omega
      simp [fv, e, h0, h1, h2, h3]
theorem szFactS_any (a : Option Addr) (len cap : Nat) (left : Int) (w : World) (h0 : 0 ≤ left) (h1 : left ≤ 1048576) (hl : len ≤ maxLen) :
    Calls Tryz.prog 23 #[.slice a len cap, .int .i64 left] w fun e w' => e = .returned (.int .i64 (if left < (len : Int) then -1 else left - len)) ∧ w' = w := by
  unfold maxLen at hl
  go_enter Tryz.func23, Tryz.ntmps23
  go_wp2
  all_goals (go_ret; exact ⟨ret_int (by first | rfl | (split <;> omega)), rfl⟩)
theorem toFact_below (n i s : Int) (g : Bool) (w : World) :
    Calls Tryz.prog 93 #[.agg #[.int .i64 n, .int .i64 i, .int .i64 s, .bool g]] w fun r w' => r = .returned (.agg #[.int .i64 n, .int .i64 i, .int .i64 s, .bool g]) ∧ Below w.heap.size w w' :=
  (toFact_any n i s g w).mono (by rintro r w' ⟨rfl, o1, o2, o3, rfl⟩; exact ⟨rfl, balloc _ (balloc _ (balloc _ (Below.refl _ _)))⟩)
theorem row_below {w w' : World} {b t n : Nat} {f : Nat → Value} (h : w.rowIs b t n f) (hb : Below w.heap.size w w') : w'.rowIs b t n f := h.of_block (hb.block b h.lt)
theorem below_set4 {w w' : World} {b o : Nat} (x y z e : Value) (h : Below w.heap.size w w') (hb : w.heap.size ≤ b) :
    Below w.heap.size w ((((w'.setCell ⟨b, o, none⟩ x).setCell ⟨b, o + 1, none⟩ y).setCell ⟨b, o + 2, none⟩ z).setCell ⟨b, o + 3, none⟩ e) :=
  (((h.setCell (p := ⟨b, o, none⟩) hb x).setCell (p := ⟨b, o + 1, none⟩) hb y).setCell (p := ⟨b, o + 2, none⟩) hb z).setCell (p := ⟨b, o + 3, none⟩) hb e
set_option maxHeartbeats 400000 in
theorem toFactS_any (a : Option Addr) (len cap : Nat) (F : Nat → Fc) (w : World) (h : FSl w a len F) (hl : len ≤ 1048576) (hc : len ≤ cap) :
    Calls Tryz.prog 31 #[.slice a len cap] w fun e w' => ∃ b, e = .returned (.slice (some ⟨b, 0, none⟩) len len) ∧ FSl w' (some ⟨b, 0, none⟩) len F ∧ b < w'.heap.size ∧ w.heap.size ≤ b ∧ Below w.heap.size w w' := by
  have hmk := run_make_facts len hl
  go_enter Tryz.func31, Tryz.ntmps31
  go_wp2
  go_loopw [4] (fun i wr => ∃ k : Nat, k ≤ len ∧ i = .int .i64 k ∧ Below w.heap.size w wr ∧ wr.rowIs w.heap.size 96 (len * 4) (fv fun j => if j < k then F j else Fc.zero)) (fun i _ => len - (intOf i).toNat)
  case atStart => exact ⟨0, Nat.zero_le _, rfl, balloc _ (Below.refl _ _), by simpa using row_made len w⟩
  case round =>
    obtain ⟨k, hk, rfl, hb, hr⟩ := hrel
    clear hmk
    by_cases hlt : k < len
    · obtain ⟨b, off, rfl, hbl, hf⟩ := h (by omega)
      obtain ⟨c0, c1, c2, c3⟩ := (hf.below hb hbl) k hlt
      go_wp2_with fail
      refine (toFact_below _ _ _ _ _).mono ?_
      rintro e w1 ⟨rfl, b1⟩
      have hr1 := row_below hr b1
      have hb1 := btrans hb b1
      have d0 := hr1.cell (i := k * 4) (by omega)
      have d1 := hr1.cell (i := k * 4 + 1) (by omega)
      have d2 := hr1.cell (i := k * 4 + 2) (by omega)
      have d3 := hr1.cell (i := k * 4 + 3) (by omega)
      have f0 := hr1.frozen (k * 4)
      have f1 := hr1.frozen (k * 4 + 1)
      have f2 := hr1.frozen (k * 4 + 2)
      have f3 := hr1.frozen (k * 4 + 3)
      clear hr b1 c0 c1 c2 c3 hb
      go_wp2
      go_roundw
      case rel =>
        refine ⟨k + 1, by omega, by go_num, below_set4 _ _ _ _ hb1 (Nat.le_refl _), (row_put hr1 (F k)).congr fun j _ => ?_⟩
        congr 1
        funext j
        by_cases e : j = k
        · subst e; simp
        · have : j < k + 1 ↔ j < k := by omega
          simp [e, this]
      case measure => simp [intOf]; omega
    · go_wp2
      go_ret
      have e : k = len := by omega
      subst e
      refine ⟨w.heap.size, rfl, fun _ => ⟨_, _, rfl, hr.lt, fun j hj => ?_⟩, hr.lt, Nat.le_refl _, hb⟩
      have := row_in hr j hj
      simpa [hj] using this
end Go.Proofs.YtgcdcfjaeehnbaaGreat
