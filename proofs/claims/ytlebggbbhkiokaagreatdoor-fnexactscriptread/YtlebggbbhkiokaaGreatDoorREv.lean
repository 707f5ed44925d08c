/- Lists of events in memory: what is read of them; the copy that the law makes. -/
import Derived.Test.YtlebggbbhkiokaaGreatDoorProg
import Derived.Test.YtlebggbbhkiokaaGreatDoorRMath
import Derived.Below
import Derived.LoopTactic
import Derived.WalkKit
import Derived.ProofKit
import Derived.WalkLawsBesides
import Derived.Deep.QuietTactic
import Derived.BigQuiet
import Derived.Deep.RegionHeld3
import Derived.Deep.DrawnRows
import Derived.Deep.OwnRows
import Derived.Laws.MakeOwn
namespace Go.Proofs.YtlebggbbhkiokaaGreatDoor
open Go.ChangeShapes Go.WideShapes Go.ChangeAt Go.RowKit
theorem ret_int {k : IntKind} {a b : Int} (h : a = b) : Ending.returned (.int k a) = .returned (.int k b) := by rw [h]
theorem ret_bool {a b : Bool} (h : a = b) : Ending.returned (.bool a) = .returned (.bool b) := by rw [h]
theorem balloc {w w' : World} (o : Obj) (h : Below w.heap.size w w') : Below w.heap.size w (w'.alloc o) := h.alloc h.size o
theorem btrans {a W w' : World} (h : Below a.heap.size a W) (k : Below W.heap.size W w') : Below a.heap.size a w' := h.trans (k.mono h.size)
theorem within_any (n lo hi : Int) (w : World) :
    Calls Tryz.prog 35 #[.int .i64 n, .int .i64 lo, .int .i64 hi] w fun e w' => e = .returned (.bool (inb n lo hi)) ∧ w' = w := by
  go_enter Tryz.func35, Tryz.ntmps35
  go_wp2
  all_goals (go_ret; exact ⟨ret_bool (by unfold inb; by_cases h1 : lo ≤ n <;> by_cases h2 : n ≤ hi <;> simp [h1, h2] <;> omega), rfl⟩)
theorem lin_any (n lo hi : Int) (w : World) :
    Calls Tryz.prog 24 #[.int .i64 n, .int .i64 lo, .int .i64 hi] w fun e w' => e = .returned (.bool (inb n lo hi)) ∧ w' = w := by
  go_enter Tryz.func24, Tryz.ntmps24
  go_wp2
  all_goals (go_ret; exact ⟨ret_bool (by unfold inb; by_cases h1 : lo ≤ n <;> by_cases h2 : n ≤ hi <;> simp [h1, h2] <;> omega), rfl⟩)
def Hid (p : Prop) : Prop := p
theorem Hid.out {p : Prop} (h : Hid p) : p := h
attribute [local go_sem ↓] Go.wp_at_zero Go.wp_at_succ
theorem keep_alloc {w : World} {b o : Nat} {v : Value} (x : Obj) (h : w.cell? ⟨b, o, none⟩ = some v) : (w.alloc x).cell? ⟨b, o, none⟩ = some v :=
  (World.cell?_of_block (w := w) (Below.heap_alloc w x b (World.block_lt_of_cell? w _ h))).trans h
theorem keep_drew {w : World} {b o : Nat} {v : Value} (h : w.cell? ⟨b, o, none⟩ = some v) : w.drew.cell? ⟨b, o, none⟩ = some v := by simpa using h
theorem keep_below {W w' : World} {b o : Nat} {v : Value} (hb : Below W.heap.size W w') (h : W.cell? ⟨b, o, none⟩ = some v) : w'.cell? ⟨b, o, none⟩ = some v :=
  (hb.cell (p := ⟨b, o, none⟩) (World.block_lt_of_cell? W _ h)).trans h
def FactsIn (w : World) (b off len : Nat) (F : Nat → Fc) : Prop :=
  ∀ k, k < len → w.cell? ⟨b, off + k * 4, none⟩ = some (.int .i64 (F k).n) ∧ w.cell? ⟨b, off + k * 4 + 1, none⟩ = some (.int .i64 (F k).i) ∧ w.cell? ⟨b, off + k * 4 + 2, none⟩ = some (.int .i64 (F k).s) ∧ w.cell? ⟨b, off + k * 4 + 3, none⟩ = some (.bool (F k).g)
def FSl (w : World) (a : Option Addr) (len : Nat) (F : Nat → Fc) : Prop :=
  0 < len → ∃ b off, a = some ⟨b, off, none⟩ ∧ b < w.heap.size ∧ FactsIn w b off len F
theorem FactsIn.below {B : Nat} {w w' : World} {b off len : Nat} {F : Nat → Fc} (h : FactsIn w b off len F) (hb : Below B w w') (hl : b < B) : FactsIn w' b off len F := fun k hk => by
  obtain ⟨h0, h1, h2, h3⟩ := h k hk
  exact ⟨(hb.cell (p := ⟨b, _, none⟩) hl).trans h0, (hb.cell (p := ⟨b, _, none⟩) hl).trans h1, (hb.cell (p := ⟨b, _, none⟩) hl).trans h2, (hb.cell (p := ⟨b, _, none⟩) hl).trans h3⟩
theorem FSl.below {w w' : World} {a : Option Addr} {len : Nat} {F : Nat → Fc} (h : FSl w a len F) (hb : Below w.heap.size w w') : FSl w' a len F := fun hl => by
  obtain ⟨b, off, e, hlt, hf⟩ := h hl
  exact ⟨b, off, e, by have := hb.size; omega, hf.below hb hlt⟩
def fv (F : Nat → Fc) (k : Nat) : Value := if k % 4 = 0 then .int .i64 (F (k / 4)).n else if k % 4 = 1 then .int .i64 (F (k / 4)).i else if k % 4 = 2 then .int .i64 (F (k / 4)).s else .bool (F (k / 4)).g
theorem row_in {w : World} {b t n : Nat} {F : Nat → Fc} (h : w.rowIs b t (n * 4) (fv F)) : FactsIn w b 0 n F := fun k hk => by
  have e0 := h.cell (i := k * 4) (by omega)
  have e1 := h.cell (i := k * 4 + 1) (by omega)
  have e2 := h.cell (i := k * 4 + 2) (by omega)
  have e3 := h.cell (i := k * 4 + 3) (by omega)
  have m1 : (k * 4 + 1) % 4 = 1 ∧ (k * 4 + 1) / 4 = k := by omega
  have m2 : (k * 4 + 2) % 4 = 2 ∧ (k * 4 + 2) / 4 = k := by omega
  have m3 : (k * 4 + 3) % 4 = 3 ∧ (k * 4 + 3) / 4 = k := by omega
  simp only [Nat.zero_add]
  simp [fv] at e0
  simp [fv, m1.1, m1.2] at e1
  simp [fv, m2.1, m2.2] at e2
  simp [fv, m3.1, m3.2] at e3
  exact ⟨e0, e1, e2, e3⟩
def Fc.zero : Fc := ⟨0, 0, 0, false⟩
theorem info24 : (Tryz.prog.info? 31).map (fun i => (i.zero, i.size, i.bytes)) = some (some (.agg #[.int .i64 0, .int .i64 0, .int .i64 0, .bool false]), 4, 32) := by kernel_rfl
theorem run_make_facts (n : Nat) (hn : n ≤ 1048576) (w : World) :
    (Instr.makeSlice 22 (.int .i64 (n : Int)) (.int .i64 (n : Int))).run Tryz.prog w = .ok (.slice (some ⟨w.heap.size, 0, none⟩) n n) (w.alloc (.cells (madeCells #[.int .i64 0, .int .i64 0, .int .i64 0, .bool false] (n * 4)) 31)) := by
  obtain ⟨i, hi, hzz⟩ := Option.map_eq_some_iff.1 info24
  simp only [Prod.mk.injEq] at hzz
  obtain ⟨hz, hs, hb⟩ := hzz
  have hr := run_make (P := Tryz.prog) w 22 31 i _ Tryz.underlying22 hi hz .i64 .i64 n n (by omega) (Int.le_refl _) (by rw [hb]; omega) (by omega)
  rw [hr, hs, Int.toNat_natCast]
  rfl
theorem row_made (n : Nat) (w : World) : (w.alloc (.cells (madeCells #[.int .i64 0, .int .i64 0, .int .i64 0, .bool false] (n * 4)) 31)).rowIs w.heap.size 31 (n * 4) (fv fun _ => Fc.zero) :=
  ⟨_, heap_alloc_new _ _, size_madeCells _ _, fun i hi => by
    have : i % 4 = 0 ∨ i % 4 = 1 ∨ i % 4 = 2 ∨ i % 4 = 3 := by omega
    rcases this with h | h | h | h <;> simp [madeCells, hi, fv, h, Fc.zero]⟩
theorem row_put {w : World} {b n k : Nat} {F : Nat → Fc} (h : w.rowIs b 31 (n * 4) (fv F)) (x : Fc) :
    ((((w.setCell ⟨b, k * 4, none⟩ (.int .i64 x.n)).setCell ⟨b, k * 4 + 1, none⟩ (.int .i64 x.i)).setCell ⟨b, k * 4 + 2, none⟩ (.int .i64 x.s)).setCell ⟨b, k * 4 + 3, none⟩ (.bool x.g)).rowIs b 31 (n * 4) (fv fun j => if j = k then x else F j) :=
  ((((h.set (k * 4) _).set (k * 4 + 1) _).set (k * 4 + 2) _).set (k * 4 + 3) _).congr fun j hj => by
    by_cases e : j / 4 = k
    · have : j % 4 = 0 ∨ j % 4 = 1 ∨ j % 4 = 2 ∨ j % 4 = 3 := by omega
      rcases this with h | h | h | h
      · have : j = k * 4 := by omega
        subst this; simp [fv]
      · have : j = k * 4 + 1 := by omega
        subst this; simp [fv, h, e]
      · have : j = k * 4 + 2 := by omega
        subst this; simp [fv, h, e]
      · have : j = k * 4 + 3 := by omega
        subst this; simp [fv, h, e]
    · have h0 : ¬ j = k * 4 := by omega
      have h1 : ¬ j = k * 4 + 1 := by omega
      have h2 : ¬ j = k * 4 + 2 := by omega
      have h3 : ¬ j = k * 4 + 3 := by omega
      simp [fv, e, h0, h1, h2, h3]
theorem row_below {w w' : World} {b t n : Nat} {f : Nat → Value} (h : w.rowIs b t n f) (hb : Below w.heap.size w w') : w'.rowIs b t n f := h.of_block (hb.block b h.lt)
theorem below_set4 {w w' : World} {b o : Nat} (x y z e : Value) (h : Below w.heap.size w w') (hb : w.heap.size ≤ b) :
    Below w.heap.size w ((((w'.setCell ⟨b, o, none⟩ x).setCell ⟨b, o + 1, none⟩ y).setCell ⟨b, o + 2, none⟩ z).setCell ⟨b, o + 3, none⟩ e) :=
  (((h.setCell (p := ⟨b, o, none⟩) hb x).setCell (p := ⟨b, o + 1, none⟩) hb y).setCell (p := ⟨b, o + 2, none⟩) hb z).setCell (p := ⟨b, o + 3, none⟩) hb e
theorem eqFact_same (n i s : Int) (g : Bool) (w : World) :
    Calls Tryz.prog 14 #[.agg #[.int .i64 n, .int .i64 i, .int .i64 s, .bool g], .agg #[.int .i64 n, .int .i64 i, .int .i64 s, .bool g]] w fun r w' => r = .returned (.bool true) ∧ Below w.heap.size w w' := by
  have e0 : (g != g) = false := by simp
  go_enter Tryz.func14, Tryz.ntmps14
  go_wp2
  go_ret
  exact ⟨rfl, balloc _ (balloc _ (Below.refl _ _))⟩
set_option maxHeartbeats 400000 in
theorem eqFactS_same (a a' : Option Addr) (len cap cap' : Nat) (F : Nat → Fc) (w : World) (h : FSl w a len F) (h' : FSl w a' len F) (hl : len ≤ 1048576) :
    Calls Tryz.prog 6 #[.slice a len cap, .slice a' len cap'] w fun e w' => e = .returned (.bool true) ∧ Below w.heap.size w w' := by
  go_enter Tryz.func6, Tryz.ntmps6
  go_wp2
  go_loopw [5] (fun i wr => ∃ k : Nat, k ≤ len ∧ i = .int .i64 k ∧ Below w.heap.size w wr) (fun i _ => len - (intOf i).toNat)
  case atStart => exact ⟨0, Nat.zero_le _, rfl, Below.refl _ _⟩
  case round =>
    obtain ⟨k, hk, rfl, hb⟩ := hrel
    by_cases hlt : k < len
    · obtain ⟨b, off, rfl, hbl, hf⟩ := h (by omega)
      obtain ⟨c0, c1, c2, c3⟩ := (hf.below hb hbl) k hlt
      obtain ⟨b', off', rfl, hbl', hf'⟩ := h' (by omega)
      obtain ⟨d0, d1, d2, d3⟩ := (hf'.below hb hbl') k hlt
      have i0 : (0 : Int) ≤ (k : Int) := by omega
      have i1 : (k : Int) < (len : Int) := by omega
      go_wp2_with fail
      go_region_held3 (fun w' => w'.cell? ⟨b, off + k * 4, none⟩ = some (.int .i64 (F k).n) ∧ w'.cell? ⟨b, off + k * 4 + 1, none⟩ = some (.int .i64 (F k).i) ∧ w'.cell? ⟨b, off + k * 4 + 2, none⟩ = some (.int .i64 (F k).s) ∧ w'.cell? ⟨b, off + k * 4 + 3, none⟩ = some (.bool (F k).g) ∧ w'.cell? ⟨b', off' + k * 4, none⟩ = some (.int .i64 (F k).n) ∧ w'.cell? ⟨b', off' + k * 4 + 1, none⟩ = some (.int .i64 (F k).i) ∧ w'.cell? ⟨b', off' + k * 4 + 2, none⟩ = some (.int .i64 (F k).s) ∧ w'.cell? ⟨b', off' + k * 4 + 3, none⟩ = some (.bool (F k).g)) (refine ⟨?_, ?_, ?_, ?_, ?_, ?_, ?_, ?_⟩ <;> (repeat (first | with_reducible assumption | with_reducible refine keep_drew ?_ | with_reducible refine keep_below (by assumption) ?_))) (first | (go_at_call 14; refine (eqFact_same _ _ _ _ _).mono ?_; rintro e w1 ⟨rfl, b1⟩))
      go_wp2
      go_roundw
      case rel => exact ⟨k + 1, by omega, by go_num, btrans hb.drew b1⟩
      case measure => simp [intOf]; omega
    · go_wp2
      go_ret
      exact ⟨rfl, hb⟩
theorem own_below {w w' : World} {base size n : Nat} {e : TypeId} {v : Value} {xs : List Value} (h : w.ownsRow base e size v n xs) (hb : Below w.heap.size w w') : w'.ownsRow base e size v n xs := by
  refine ⟨h.1, h.2.imp id ?_⟩
  rintro ⟨g, cap, cur, hv, hg, hh, r⟩
  exact ⟨g, cap, cur, hv, hg, (hb.block g (lt_of_block hh)).trans hh, r⟩
theorem own_grow {a w w' : World} {v : Value} {B n : Nat} {e : TypeId} {size : Nat} {xs : List Value} (hb : Below B a w) (hB : B ≤ w.heap.size) (ho : w.ownsRow B e size v n xs) (hg : w.grownBy w' v.ownBlock) : Below B a w' :=
  hb.grown hg hB (fun k hk => (ho.lt k hk).1)
end Go.Proofs.YtlebggbbhkiokaaGreatDoor
