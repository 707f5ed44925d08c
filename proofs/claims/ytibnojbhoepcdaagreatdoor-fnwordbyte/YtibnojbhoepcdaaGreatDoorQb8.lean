/- Texts of the proof, laid together: Slots. -/
import Derived.Test.YtibnojbhoepcdaaGreatDoorQb3
import Derived.Test.YtibnojbhoepcdaaGreatDoorQb1
import Derived.LoopTactic
import Derived.WalkKit
import Derived.ProofKit
import Derived.WalkLawsBesides
import Derived.Deep.QuietTactic
import Derived.BigQuiet
import Derived.Deep.RegionHeld3
import Derived.Deep.DrawnRows
/- Blocks of four cells of the call's own; numbers that are picked. -/
namespace Go.Proofs.YtibnojbhoepcdaaGreatDoor
open Go.ChangeShapes Go.WideShapes Go.ChangeAt Go.RowKit
set_option maxRecDepth 20000 in
theorem Rd.set {G : Cd} {B rb p : Nat} {w : World} (h : Rd G B rb p w) (R o : Nat) (v : Value) (h1 : R ≠ rb) (h2 : B ≤ R) : Rd G B rb p (w.setCell ⟨R, o, none⟩ v) := by
  obtain ⟨a1, a2, a3, a4, a5, a, cap, hl, a6, hc0, a7⟩ := h
  refine ⟨a1, by simpa [World.setCell] using a2, a3, ?_, ?_, a, cap, hl, ?_, hc0, ?_⟩
  · rw [World.frozen?_setCell]; exact a4
  · rw [cell_far _ (show rb ≠ R by omega)]; exact a5
  · rw [cell_far _ (show rb ≠ R by omega)]; exact a6
  · rcases a7 with a7 | ⟨b, off, rfl, hb, hcc⟩
    · exact .inl a7
    · refine .inr ⟨b, off, rfl, hb, fun i hi => ?_⟩
      rw [cell_far _ (show b ≠ R by omega)]; exact hcc i hi
set_option maxRecDepth 20000 in
theorem Off.set {rb : Nat} {a b : World} (h : Off rb a b) (R o : Nat) (v : Value) (hR : a.heap.size ≤ R) : Off rb a (b.setCell ⟨R, o, none⟩ v) :=
  ⟨h.os, h.tape, h.output, by have := h.size; simpa [World.setCell] using this, fun k hk hn => (Below.heap_setCell b ⟨R, o, none⟩ v k (show k ≠ R by omega)).trans (h.block k hk hn)⟩
/-- four cells of a block may be written -/
def Slot4 (w : World) (b : Nat) : Prop := ∀ i, i < 4 → (∃ v, w.cell? ⟨b, i, none⟩ = some v) ∧ w.frozen? ⟨b, i, none⟩ = false
set_option maxRecDepth 20000 in
theorem Slot4.aside {w w' : World} {b rb : Nat} (h : Slot4 w b) (ha : Aside1 rb w w') (hb : b ≠ rb) : Slot4 w' b := fun i hi => by
  obtain ⟨⟨v, hv⟩, hf⟩ := h i hi
  exact ⟨⟨v, (ha.cell (p := ⟨b, i, none⟩) hb).trans hv⟩, (ha.frozen (p := ⟨b, i, none⟩) hb).trans hf⟩
set_option maxRecDepth 20000 in
theorem Slot4.off {w w' : World} {b rb : Nat} (h : Slot4 w b) (ha : Off rb w w') (hb : b ≠ rb) : Slot4 w' b := fun i hi => by
  obtain ⟨⟨v, hv⟩, hf⟩ := h i hi
  have hlt : b < w.heap.size := World.block_lt_of_cell? w _ hv
  exact ⟨⟨v, (ha.cell (p := ⟨b, i, none⟩) hlt hb).trans hv⟩, (ha.frozen (p := ⟨b, i, none⟩) hlt hb).trans hf⟩
set_option maxRecDepth 20000 in
theorem Slot4.alloc {w : World} {b : Nat} (h : Slot4 w b) (o : Obj) : Slot4 (w.alloc o) b := fun i hi => by
  obtain ⟨⟨v, hv⟩, hf⟩ := h i hi
  have hlt : b < w.heap.size := World.block_lt_of_cell? w _ hv
  exact ⟨⟨v, keep_alloc o hv⟩, (World.frozen?_of_block (w := w) (Below.heap_alloc w o b hlt)).trans hf⟩
set_option maxRecDepth 20000 in
theorem Slot4.new (w : World) (x y h e : Value) (t : TypeId) : Slot4 (w.alloc (.cells #[x, y, h, e] t)) w.heap.size := fun i hi => by
  have : i = 0 ∨ i = 1 ∨ i = 2 ∨ i = 3 := by omega
  rcases this with rfl | rfl | rfl | rfl <;> exact ⟨⟨_, by simp; rfl⟩, by simp [go_sem]⟩
set_option maxRecDepth 20000 in
theorem three (w : World) (x0 x1 x2 : Int) (m : Nat) (hm : m < 3) : ∃ r : Int, (w.alloc (.cells #[.int .i64 x0, .int .i64 x1, .int .i64 x2] 3)).cell? ⟨w.heap.size, m, none⟩ = some (.int .i64 r) := by
  have h : m = 0 ∨ m = 1 ∨ m = 2 := by omega
  rcases h with rfl | rfl | rfl <;> exact ⟨_, by simp; rfl⟩
set_option maxRecDepth 20000 in
theorem two (w : World) (x0 x1 : Int) (m : Nat) (hm : m < 2) : ∃ r : Int, (w.alloc (.cells #[.int .i64 x0, .int .i64 x1] 3)).cell? ⟨w.heap.size, m, none⟩ = some (.int .i64 r) := by
  have h : m = 0 ∨ m = 1 := by omega
  rcases h with rfl | rfl <;> exact ⟨_, by simp; rfl⟩
set_option maxRecDepth 20000 in
theorem Slot4.below {w w' : World} {b : Nat} (h : Slot4 w b) (hb : Below w.heap.size w w') : Slot4 w' b := fun i hi => by
  obtain ⟨⟨v, hv⟩, hf⟩ := h i hi
  have hlt : b < w.heap.size := World.block_lt_of_cell? w _ hv
  exact ⟨⟨v, (hb.cell (p := ⟨b, i, none⟩) hlt).trans hv⟩, (hb.frozen (p := ⟨b, i, none⟩) hlt).trans hf⟩
set_option maxRecDepth 20000 in
theorem Rd.below {G : Cd} {B rb p : Nat} {w w' : World} (h : Rd G B rb p w) (hb : Below w.heap.size w w') : Rd G B rb p w' := by
  obtain ⟨a1, a2, a3, a4, a5, a, cap, hl, a6, hc0, a7⟩ := h
  refine ⟨a1, by have := hb.size; omega, a3, ?_, ?_, a, cap, hl, ?_, hc0, ?_⟩
  · exact (hb.frozen (p := ⟨rb, 1, none⟩) a2).trans a4
  · exact (hb.cell (p := ⟨rb, 1, none⟩) a2).trans a5
  · exact (hb.cell (p := ⟨rb, 0, none⟩) a2).trans a6
  · rcases a7 with a7 | ⟨b, off, rfl, hbb, hcc⟩
    · exact .inl a7
    · refine .inr ⟨b, off, rfl, hbb, fun i hi => ?_⟩
      exact (hb.cell (p := ⟨b, off + i, none⟩) (show b < w.heap.size by omega)).trans (hcc i hi)
set_option maxRecDepth 20000 in
theorem Off.ofBelow {w w' : World} (rb : Nat) (hb : Below w.heap.size w w') : Off rb w w' := ⟨hb.os, hb.tape, hb.output, hb.size, fun k hk _ => hb.block k hk⟩
set_option maxRecDepth 20000 in
/-- four stores into a block of the call's own -/
theorem Rd.set4 {G : Cd} {B rb p : Nat} {w : World} (h : Rd G B rb p w) (R : Nat) (a b c d : Value) (h1 : R ≠ rb) (h2 : B ≤ R) : Rd G B rb p ((((w.setCell ⟨R, 0, none⟩ a).setCell ⟨R, 1, none⟩ b).setCell ⟨R, 2, none⟩ c).setCell ⟨R, 3, none⟩ d) :=
  (((h.set R 0 a h1 h2).set R 1 b h1 h2).set R 2 c h1 h2).set R 3 d h1 h2
set_option maxRecDepth 20000 in
theorem Off.set4 {rb : Nat} {u w : World} (h : Off rb u w) (R : Nat) (a b c d : Value) (hR : u.heap.size ≤ R) : Off rb u ((((w.setCell ⟨R, 0, none⟩ a).setCell ⟨R, 1, none⟩ b).setCell ⟨R, 2, none⟩ c).setCell ⟨R, 3, none⟩ d) :=
  (((h.set R 0 a hR).set R 1 b hR).set R 2 c hR).set R 3 d hR
set_option maxRecDepth 20000 in
theorem pick_lit {G : Cd} (B rb p : Nat) (n v : Int) (w : World) (h : Rd G B rb p w) (hp : p < 1000000) (hv : Hid (G.pk p n = v)) :
    Calls Tryz.prog 29 #[.pointer (some ⟨rb, 0, none⟩), .int .i64 n] w fun e w' => e = .returned (.int .i64 v) ∧ Rd G B rb (p + 1) w' ∧ Aside1 rb w w' :=
  (pick_any B rb p n w h hp).mono (by rintro e w' ⟨rfl, _, r, o⟩; exact ⟨by rw [hv.out], r, o⟩)
set_option maxRecDepth 20000 in
theorem gate_any (n : Int) (w : World) : Calls Tryz.prog 102 #[.int .i64 n] w fun e w' => ∃ g : Bool, e = .returned (.bool g) ∧ w' = w := by
  go_enter Tryz.func102, Tryz.ntmps102
  go_wp2
  go_ret
  exact ⟨_, rfl, rfl⟩
set_option maxRecDepth 20000 in
theorem keep_aside {rb : Nat} {w w' : World} {b o : Nat} {v : Value} (h : Aside1 rb w w') (hb : b ≠ rb) (hc : w.cell? ⟨b, o, none⟩ = some v) : w'.cell? ⟨b, o, none⟩ = some v := (h.cell (p := ⟨b, o, none⟩) hb).trans hc
set_option maxRecDepth 20000 in
theorem keep_setD {w : World} {b o b' o' : Nat} {v : Value} (u : Value) (hp : b ≠ b') (h : w.cell? ⟨b, o, none⟩ = some v) : (w.setCell ⟨b', o', none⟩ u).cell? ⟨b, o, none⟩ = some v := (cell_far u hp).trans h
set_option maxRecDepth 20000 in
theorem Rd.drew {G : Cd} {B rb p : Nat} {w : World} (h : Rd G B rb p w) : Rd G B rb p w.drew := h.below (Below.drew (Below.refl _ _))
set_option maxRecDepth 20000 in
theorem Slot4.drew {w : World} {b : Nat} (h : Slot4 w b) : Slot4 w.drew b := h.below (Below.drew (Below.refl _ _))
set_option maxRecDepth 20000 in
theorem Off.drew {rb : Nat} {a b : World} (h : Off rb a b) : Off rb a b.drew := h.trans (Off.ofBelow rb (Below.drew (Below.refl _ _)))
set_option maxRecDepth 20000 in
theorem Slot4.lt {w : World} {b : Nat} (h : Slot4 w b) : b < w.heap.size := by
  obtain ⟨⟨v, hv⟩, _⟩ := h 0 (by omega)
  exact World.block_lt_of_cell? w _ hv
set_option maxRecDepth 20000 in
theorem at0 (w : World) (x0 x1 x2 : Int) : (w.alloc (.cells #[.int .i64 x0, .int .i64 x1, .int .i64 x2] 3)).cell? ⟨w.heap.size, 0, none⟩ = some (.int .i64 x0) := by simp
set_option maxRecDepth 20000 in
theorem at1 (w : World) (x0 x1 x2 : Int) : (w.alloc (.cells #[.int .i64 x0, .int .i64 x1, .int .i64 x2] 3)).cell? ⟨w.heap.size, 1, none⟩ = some (.int .i64 x1) := by simp
set_option maxRecDepth 20000 in
theorem at2 (w : World) (x0 x1 x2 : Int) : (w.alloc (.cells #[.int .i64 x0, .int .i64 x1, .int .i64 x2] 3)).cell? ⟨w.heap.size, 2, none⟩ = some (.int .i64 x2) := by simp
end Go.Proofs.YtibnojbhoepcdaaGreatDoor
