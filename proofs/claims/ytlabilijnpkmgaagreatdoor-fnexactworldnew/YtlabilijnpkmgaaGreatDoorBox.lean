/- Boxes of values. -/
import Derived.Test.YtlabilijnpkmgaaGreatDoorGatesF
import Derived.Deep.Cut
import Derived.Deep.MidRow
namespace Go.Proofs.YtlabilijnpkmgaaGreatDoor
open Go.ChangeShapes Go.WideShapes Go.ChangeAt Go.RowKit
theorem cell_block {w : World} {b o : Nat} {cs : Array Value} {t : TypeId} {v : Value} (h : w.heap[b]? = some (.cells cs t (0, 0))) (hc : cs[o]? = some v) : w.cell? ⟨b, o, none⟩ = some v := by
  simp [World.cell?, h, hc]
/-- a box of values -/
structure Ws (w : World) (b : Nat) (xs : List Value) : Prop where
  lt : b < w.heap.size
  c : ∀ i v, xs[i]? = some v → w.cell? ⟨b, i, none⟩ = some v
  z : ∀ o, w.frozen? ⟨b, o, none⟩ = false
theorem Ws.new {w : World} {b : Nat} {cs : Array Value} {t : TypeId} (h : w.heap[b]? = some (.cells cs t (0, 0))) : Ws w b cs.toList :=
  ⟨lt_of_block h, fun i v hv => cell_block h (by simpa using hv), fun o => by simp [World.frozen?, h]⟩
theorem Ws.box {w : World} (cs : Array Value) (t : TypeId) : Ws (w.alloc (.cells cs t)) w.heap.size cs.toList := Ws.new (heap_alloc_new _ _)
theorem Ws.below {w w' : World} {b : Nat} {xs : List Value} (h : Ws w b xs) (k : Below w.heap.size w w') : Ws w' b xs :=
  ⟨Nat.lt_of_lt_of_le h.lt k.size, fun i v hv => keep_below k (h.c i v hv), fun o => (k.frozen (p := ⟨b, o, none⟩) h.lt).trans (h.z o)⟩
theorem Ws.alloc {w : World} {b : Nat} {xs : List Value} (h : Ws w b xs) (o : Obj) : Ws (w.alloc o) b xs := h.below (balloc o (Below.refl w.heap.size w))
theorem Ws.range {w : World} {b : Nat} {xs : List Value} (h : Ws w b xs) : w.rangeAt b 0 xs := fun j v hv => by
 rw [Nat.zero_add]; exact h.c j v hv
theorem range_below' {w w' : World} {b : Nat} {v : Value} {xs : List Value} (h : w.rangeAt b 0 (v :: xs)) (k : Below w.heap.size w w') : w'.rangeAt b 0 (v :: xs) := fun j x hx =>
 keep_below k (h j x hx)
theorem cs_far {w : World} {b i c j : Nat} {u : Value} (v : Value) (hbc : b ≠ c) (h : w.cell? ⟨b, i, none⟩ = some u) : (w.setCell ⟨c, j, none⟩ v).cell? ⟨b, i, none⟩ = some u := (World.cell?_setCell_far _ _ _ _ (fun e => hbc e.symm)).trans h
theorem Ws.far {w : World} {b b' k : Nat} {v : Value} {xs : List Value} (h : Ws w b xs) (hb : b ≠ b') : Ws (w.setCell ⟨b', k, none⟩ v) b xs :=
  ⟨by simpa [World.setCell] using h.lt, fun i u hv => cs_far _ hb (h.c i u hv), fun o => by rw [World.frozen?_setCell]; exact h.z o⟩
theorem Ws.set {w : World} {b : Nat} {xs : List Value} (h : Ws w b xs) (i : Nat) (hi : i < xs.length) (v : Value) : Ws (w.setCell ⟨b, i, none⟩ v) b (xs.set i v) := by
  refine ⟨by simpa [World.setCell] using h.lt, fun j u hu => ?_, fun o => by rw [World.frozen?_setCell]; exact h.z o⟩
  by_cases e : i = j
  · subst e
    rw [List.getElem?_set_self hi] at hu
    injection hu with hu
    subst hu
    rw [World.cell?_setCell_same' _ _ _ (by rw [h.c i xs[i] (List.getElem?_eq_getElem hi)]; rfl)]
  · rw [List.getElem?_set_ne e] at hu
    exact (World.cell?_setCell_other _ _ _ _ (by simp)).trans (h.c j u hu)
theorem Ws.there {w : World} {b n : Nat} {xs : List Value} (h : Ws w b xs) (hn : xs.length = n) : w.there b 0 n := fun j hj => by
  refine ⟨?_, h.z _⟩
  rw [Nat.zero_add, h.c j xs[j] (List.getElem?_eq_getElem (by omega))]
  rfl
theorem below_cells {B : Nat} {w : World} (b : Nat) : ∀ (vs : List Value) (o : Nat) (w' : World), B ≤ b → Below B w w' → Below B w (w'.setCells b o vs)
  | [], _, _, _, h => h
  | v :: vs, o, _, hb, h => below_cells b vs (o + 1) _ hb (h.setCell (p := ⟨b, o, none⟩) hb v)
end Go.Proofs.YtlabilijnpkmgaaGreatDoor
