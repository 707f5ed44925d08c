/- A code is opened: the reader lies in new memory. -/
import Derived.Test.YthfafmafhodlkaaPick
import Derived.LoopTactic
import Derived.WalkKit
import Derived.ProofKit
import Derived.WalkLawsBesides
namespace Go.Proofs.Ythfafmafhodlkaa
open Go.ChangeShapes Go.WideShapes Go.ChangeAt Go.RowKit
/-- the bytes of a code that came in, below B -/
def Bytes (B : Nat) (w : World) (a : Option Addr) (len : Nat) : Prop :=
  ∃ f : Nat → Int, (∀ i, 0 ≤ f i ∧ f i ≤ 255) ∧ (len = 0 ∨ ∃ b off, a = some ⟨b, off, none⟩ ∧ b < B ∧ ∀ i, i < len → w.cell? ⟨b, off + i, none⟩ = some (.int .u8 (f i)))
/-- of what was there, nothing but block rb has turned -/
structure Off (rb : Nat) (w w' : World) : Prop where
  os : w'.os = w.os
  tape : w'.tape = w.tape
  output : w'.output = w.output
  size : w.heap.size ≤ w'.heap.size
  block : ∀ k, k < w.heap.size → k ≠ rb → w'.heap[k]? = w.heap[k]?
theorem Off.refl (rb : Nat) (w : World) : Off rb w w := ⟨rfl, rfl, rfl, Nat.le_refl _, fun _ _ _ => rfl⟩
theorem Off.trans {rb : Nat} {a b c : World} (h : Off rb a b) (k : Off rb b c) : Off rb a c :=
  ⟨k.os.trans h.os, k.tape.trans h.tape, k.output.trans h.output, Nat.le_trans h.size k.size, fun i hi hn => (k.block i (by have := h.size; omega) hn).trans (h.block i hi hn)⟩
theorem Aside1.off {rb : Nat} {w w' : World} (h : Aside1 rb w w') : Off rb w w' := ⟨h.os, h.tape, h.output, by rw [h.size]; exact Nat.le_refl _, fun k _ hn => h.block k hn⟩
theorem Off.alloc {rb : Nat} {a b : World} (h : Off rb a b) (o : Obj) : Off rb a (b.alloc o) :=
  h.trans ⟨rfl, rfl, rfl, by simp, fun k hk _ => Below.heap_alloc _ _ _ hk⟩
theorem Off.below {rb B : Nat} {w w' : World} (h : Off rb w w') (hB : B ≤ rb) (hs : B ≤ w.heap.size) : Below B w w' :=
  ⟨h.os, h.tape, h.output, h.size, fun k hk => h.block k (by omega) (by omega)⟩
theorem Off.cell {rb : Nat} {w w' : World} (h : Off rb w w') {p : Addr} (hp : p.block < w.heap.size) (hn : p.block ≠ rb) : w'.cell? p = w.cell? p := World.cell?_of_block (w := w) (h.block p.block hp hn)
theorem Off.frozen {rb : Nat} {w w' : World} (h : Off rb w w') {p : Addr} (hp : p.block < w.heap.size) (hn : p.block ≠ rb) : w'.frozen? p = w.frozen? p := World.frozen?_of_block (w := w) (h.block p.block hp hn)
theorem Rd.alloc {G : Cd} {B rb p : Nat} {w : World} (h : Rd G B rb p w) (o : Obj) : Rd G B rb p (w.alloc o) := by
  obtain ⟨h1, h2, h3, h4, h5, a, cap, hl, h6, hc0, h7⟩ := h
  have hc : ∀ x : Addr, x.block < w.heap.size → (w.alloc o).cell? x = w.cell? x := fun x hx => World.cell?_of_block (w := w) (Below.heap_alloc w o x.block hx)
  refine ⟨h1, by simp; omega, h3, ?_, ?_, a, cap, hl, ?_, hc0, ?_⟩
  · exact (World.frozen?_of_block (w := w) (Below.heap_alloc w o rb h2)).trans h4
  · rw [hc _ h2]; exact h5
  · rw [hc _ h2]; exact h6
  · rcases h7 with h7 | ⟨b, off, rfl, hb, hcc⟩
    · exact .inl h7
    · refine .inr ⟨b, off, rfl, hb, fun i hi => ?_⟩
      rw [hc _ (show b < w.heap.size by omega)]; exact hcc i hi
theorem Bytes.below {B B' : Nat} {w w' : World} {a : Option Addr} {len : Nat} (h : Bytes B w a len) (hb : Below B' w w') (hB : B ≤ B') : Bytes B w' a len := by
  obtain ⟨f, hf, h⟩ := h
  refine ⟨f, hf, ?_⟩
  rcases h with h | ⟨b, off, rfl, hbb, hc⟩
  · exact .inl h
  · refine .inr ⟨b, off, rfl, hbb, fun i hi => ?_⟩
    rw [hb.cell (p := ⟨b, off + i, none⟩) (show b < B' by omega)]; exact hc i hi
theorem Bytes.take {B : Nat} {w : World} {a : Option Addr} {len n : Nat} (h : Bytes B w a len) (hn : n ≤ len) : Bytes B w a n := by
  obtain ⟨f, hf, h⟩ := h
  refine ⟨f, hf, ?_⟩
  rcases h with h | ⟨b, off, rfl, hbb, hc⟩
  · exact .inl (by omega)
  · exact .inr ⟨b, off, rfl, hbb, fun i hi => hc i (by omega)⟩
theorem rd_new (B : Nat) (a : Option Addr) (len cap : Nat) (w : World) (hB : B ≤ w.heap.size) (h : Bytes B w a len) (hl : len ≤ 2000) :
    ∃ G, Rd G B w.heap.size 0 (w.alloc (.cells #[.slice a len cap, .int .i64 0] 62)) := by
  have hb : Below B w (w.alloc (.cells #[.slice a len cap, .int .i64 0] 62)) := (Below.refl _ _).alloc hB _
  obtain ⟨f, hf, h2⟩ := h.below hb (Nat.le_refl _)
  exact ⟨⟨len, f⟩, hB, by simp, by omega, by simp [go_sem], by simp, a, cap, hl, by simp, hf, h2⟩
theorem open_any (B : Nat) (a : Option Addr) (len cap : Nat) (w : World) (hB : B ≤ w.heap.size) (h : Bytes B w a len) (hl : len ≤ cap) :
    Calls Try.prog 21 #[.slice a len cap] w fun e w' => e = .returned (.pointer (some ⟨w.heap.size, 0, none⟩)) ∧ (∃ G, Rd G B w.heap.size 0 w') ∧ Below w.heap.size w w' ∧ w'.heap.size = w.heap.size + 1 := by
  by_cases hlen : 2000 < len
  · go_enter Try.func21, Try.ntmps21
    go_wp2
    go_ret
    exact ⟨rfl, rd_new B a 2000 cap w hB (h.take (by omega)) (by omega), (Below.refl _ _).alloc (Nat.le_refl _) _, by simp⟩
  · go_enter Try.func21, Try.ntmps21
    go_wp2
    go_ret
    exact ⟨rfl, rd_new B a len cap w hB h (by omega), (Below.refl _ _).alloc (Nat.le_refl _) _, by simp⟩
theorem Off.belowAll {rb : Nat} {w w1 w' : World} (hb : Below w.heap.size w w1) (h : Off rb w1 w') (hB : w.heap.size ≤ rb) : Below w.heap.size w w' :=
  hb.trans (h.below hB hb.size)
end Go.Proofs.Ythfafmafhodlkaa
