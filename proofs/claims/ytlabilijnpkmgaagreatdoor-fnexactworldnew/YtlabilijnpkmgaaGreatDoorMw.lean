/- What is written lies in some blocks; rows of one's own by the place's number. -/
import Derived.Test.YtlabilijnpkmgaaGreatDoorMsk
import Derived.Below
import Derived.Deep.MidRow
import Derived.Deep.OwnRows
import Derived.Laws.OwnMore
namespace Go.Proofs.YtlabilijnpkmgaaGreatDoor
open Go.RowKit
/-- only blocks of S are written -/
structure Mw (S : Nat → Prop) (w w' : World) : Prop where
  os : w'.os = w.os
  tape : w'.tape = w.tape
  output : w'.output = w.output
  size : w.heap.size ≤ w'.heap.size
  block : ∀ k, k < w.heap.size → ¬ S k → w'.heap[k]? = w.heap[k]?
section
variable {S T : Nat → Prop} {a w w' w'' : World}
theorem Mw.refl (S : Nat → Prop) (w : World) : Mw S w w := ⟨rfl, rfl, rfl, Nat.le_refl _, fun _ _ _ => rfl⟩
theorem Mw.trans (h : Mw S w w') (k : Mw S w' w'') : Mw S w w'' :=
  ⟨k.os.trans h.os, k.tape.trans h.tape, k.output.trans h.output, Nat.le_trans h.size k.size, fun i hi q => (k.block i (Nat.lt_of_lt_of_le hi h.size) q).trans (h.block i hi q)⟩
theorem Mw.mono (h : Mw S w w') (q : ∀ k, S k → T k) : Mw T w w' := ⟨h.os, h.tape, h.output, h.size, fun k hk n => h.block k hk fun s => n (q k s)⟩
theorem Mw.grown {r : Option Nat} (h : w.grownBy w' r) (q : ∀ k, r = some k → S k) : Mw S w w' := ⟨h.os, h.tape, h.output, h.size, fun k hk n => h.block k hk fun e => n (q k e.symm)⟩
theorem Mw.of_below (h : Below w.heap.size w w') : Mw S w w' := ⟨h.os, h.tape, h.output, h.size, fun k hk _ => h.block k hk⟩
theorem Mw.below (k : Mw S w w') (h : Below a.heap.size a w) (q : ∀ i, S i → a.heap.size ≤ i) : Below a.heap.size a w' :=
  ⟨k.os.trans h.os, k.tape.trans h.tape, k.output.trans h.output, Nat.le_trans h.size k.size, fun i hi => (k.block i (Nat.lt_of_lt_of_le hi h.size) (fun s => by have := q i s; omega)).trans (h.block i hi)⟩
/-- what was made behind a world does not count as written -/
theorem Mw.fresh (k : Mw S w w') (q : ∀ i, S i → i < w.heap.size → T i) : Mw T w w' := ⟨k.os, k.tape, k.output, k.size, fun i hi n => k.block i hi fun s => n (q i s hi)⟩
theorem Mw.drew (h : Mw S w w') : Mw S w w'.drew := ⟨h.os, h.tape, h.output, h.size, h.block⟩
theorem Mw.set {b o : Nat} {v : Value} (h : Mw S w w') (hb : S b) : Mw S w (w'.setCell ⟨b, o, none⟩ v) :=
  ⟨h.os, h.tape, h.output, by simpa [World.setCell] using h.size, fun k hk n => (heap_setCell_other w' ⟨b, o, none⟩ k v (fun e => n (by simp at e; exact e ▸ hb))).trans (h.block k hk n)⟩
theorem Mw.alloc (h : Mw S w w') (o : Obj) : Mw S w (w'.alloc o) := ⟨h.os, h.tape, h.output, Nat.le_trans h.size (by simp), fun k hk n => (_root_.Go.heap_alloc_old w' o (Nat.lt_of_lt_of_le hk h.size)).trans (h.block k hk n)⟩
theorem lt_cell {ad : Addr} {v : Value} (hc : w.cell? ad = some v) : ad.block < w.heap.size := by
  unfold World.cell? at hc
  rcases Nat.lt_or_ge ad.block w.heap.size with q | q
  · exact q
  · exfalso
    rw [Array.getElem?_eq_none q] at hc
    simp at hc
theorem Mw.cell {ad : Addr} {v : Value} (k : Mw S w w') (hc : w.cell? ad = some v) (q : ¬ S ad.block) : w'.cell? ad = some v :=
  (World.cell?_of_block (k.block ad.block (lt_cell hc) q)).trans hc
theorem Mw.range {b o : Nat} {xs : List Value} (k : Mw S w w') (h : w.rangeAt b o xs) (q : ¬ S b) : w'.rangeAt b o xs := fun j x hx => k.cell (h j x hx) q
theorem own_mw {base size n : Nat} {e : TypeId} {v : Value} {xs : List Value} (h : w.ownsRow base e size v n xs) (k : Mw S w w') (q : ∀ x, v.ownBlock = some x → ¬ S x) : w'.ownsRow base e size v n xs := by
  have h0 := h
  refine ⟨h.1, h.2.imp id ?_⟩
  rintro ⟨g, cap, cur, rfl, hg, r⟩
  have hb : (Value.slice (some ⟨g, 0, none⟩) n cap).ownBlock = some g := rfl
  exact ⟨g, cap, cur, rfl, hg, (k.block g (h0.lt g hb).2 (q g hb)).trans r.1, r.2⟩
end
/-- a row's cells by their numbers -/
def rv (f : Nat → Value) (n : Nat) : List Value := (List.range n).map f
theorem rv_len (f : Nat → Value) (n : Nat) : (rv f n).length = n := by simp [rv]
theorem rv_get {f : Nat → Value} {n j : Nat} (h : j < n) : (rv f n)[j]? = some (f j) := by simp [rv, h]
theorem rv_set (f : Nat → Value) (n j : Nat) (x : Value) : (rv f n).set j x = rv (fun i => if i = j then x else f i) n := by
  apply List.ext_getElem?
  intro i
  by_cases hi : i < n
  · by_cases e : i = j
    · subst e; simp [rv, hi]
    · rw [List.getElem?_set_ne (fun q => e q.symm), rv_get hi, rv_get hi, if_neg e]
  · rw [List.getElem?_eq_none (by simp [rv]; omega), List.getElem?_eq_none (by simp [rv]; omega)]
theorem rv_congr {f g : Nat → Value} {n : Nat} (h : ∀ j, j < n → f j = g j) : rv f n = rv g n := by
  unfold rv
  exact List.map_congr_left fun j hj => h j (List.mem_range.1 hj)
theorem rv_ext {xs : List Value} {n : Nat} {f : Nat → Value} (hl : xs.length = n) (h : ∀ j, j < n → xs[j]? = some (f j)) : xs = rv f n := by
  apply List.ext_getElem?
  intro i
  by_cases hi : i < n
  · rw [h i hi, rv_get hi]
  · rw [List.getElem?_eq_none (by omega), List.getElem?_eq_none (by simp [rv]; omega)]
theorem rv_add (f : Nat → Value) (n m : Nat) : rv f (n + m) = rv f n ++ rv (fun j => f (n + j)) m := by
  unfold rv
  rw [List.range_add, List.map_append, List.map_map]
  rfl
section
variable {S : Nat → Prop} {w w' : World} {base base' size size' n n' : Nat} {e e' : TypeId} {v v' : Value} {xs xs' : List Value} {f : Nat → Value}
/-- rows whose elements' types differ lie in different blocks -/
theorem own_apart (h : w.ownsRow base e size v n xs) (h' : w.ownsRow base' e' size' v' n' xs') (he : e ≠ e') : ∀ x, v.ownBlock = some x → v'.ownBlock ≠ some x := by
  intro x hx hx'
  rcases h.2 with ⟨rfl, _⟩ | ⟨g, cap, cur, rfl, _, hh, _⟩
  · simp [Value.ownBlock] at hx
  · rcases h'.2 with ⟨rfl, _⟩ | ⟨g', cap', cur', rfl, _, hh', _⟩
    · simp [Value.ownBlock] at hx'
    · simp [Value.ownBlock] at hx hx'
      subst hx
      subst hx'
      rw [hh] at hh'
      simp only [Option.some.injEq, Obj.cells.injEq] at hh'
      exact he hh'.2.1
/-- a row is no box of another type -/
theorem own_box (h : w.ownsRow base e size v n xs) {b : Nat} {c : Array Value} {t : TypeId} {z : Nat × Nat} (hb : w.heap[b]? = some (.cells c t z)) (he : e ≠ t) : v.ownBlock ≠ some b := by
  intro hx
  rcases h.2 with ⟨rfl, _⟩ | ⟨g, cap, cur, rfl, _, hh, _⟩
  · simp [Value.ownBlock] at hx
  · simp [Value.ownBlock] at hx
    subst hx
    rw [hh] at hb
    simp only [Option.some.injEq, Obj.cells.injEq] at hb
    exact he hb.2.1
theorem own_cases (h : w.ownsRow base e size v n xs) : (v = .slice none 0 0 ∧ n = 0) ∨ ∃ g cap, v = .slice (some ⟨g, 0, none⟩) n cap ∧ base ≤ g ∧ g < w.heap.size ∧ n ≤ cap := by
  rcases h.2 with ⟨rfl, hn⟩ | ⟨g, cap, cur, rfl, hg, hh, hc, _⟩
  · exact .inl ⟨rfl, hn⟩
  · exact .inr ⟨g, cap, rfl, hg, (Array.getElem?_eq_some_iff.1 hh).1, hc⟩
theorem own_slice (h : w.ownsRow base e size v n xs) : ∃ a cap, v = .slice a n cap ∧ n ≤ cap := by
  rcases own_cases h with ⟨rfl, rfl⟩ | ⟨g, cap, rfl, _, _, hc⟩
  · exact ⟨_, _, rfl, Nat.le_refl _⟩
  · exact ⟨_, _, rfl, hc⟩
theorem own_at {g cap : Nat} (h : w.ownsRow base e size (.slice (some ⟨g, 0, none⟩) n cap) n (rv f (n * size))) {j : Nat} (hj : j < n * size) : w.cell? ⟨g, j, none⟩ = some (f j) := (h.cellAt j hj).trans (rv_get hj)
theorem own_put {g cap : Nat} (h : w.ownsRow base e size (.slice (some ⟨g, 0, none⟩) n cap) n (rv f (n * size))) (j : Nat) (x : Value) : (w.setCell ⟨g, j, none⟩ x).ownsRow base e size (.slice (some ⟨g, 0, none⟩) n cap) n (rv (fun i => if i = j then x else f i) (n * size)) := by
  have := (h.stored j x).1
  rwa [rv_set] at this
theorem own_base {b2 : Nat} (h : w.ownsRow base e size v n xs) (q : ∀ x, v.ownBlock = some x → b2 ≤ x) : w.ownsRow b2 e size v n xs := by
  refine ⟨h.1, h.2.imp id ?_⟩
  rintro ⟨g, cap, cur, rfl, hg, r⟩
  exact ⟨g, cap, cur, rfl, q g rfl, r⟩
/-- what is copied from -/
def Src (w : World) (v : Value) (n k : Nat) (f : Nat → Value) : Prop := (v = .slice none 0 0 ∧ n = 0) ∨ ∃ b off cap, v = .slice (some ⟨b, off, none⟩) n cap ∧ (0 < n → b < w.heap.size) ∧ ∀ j, j < k → w.cell? ⟨b, off + j, none⟩ = some (f j)
theorem own_src (h : w.ownsRow base e size v n (rv f (n * size))) : Src w v n (n * size) f := by
  rcases own_cases h with ⟨rfl, rfl⟩ | ⟨g, cap, rfl, _, hl, _⟩
  · exact .inl ⟨rfl, rfl⟩
  · exact .inr ⟨g, 0, cap, rfl, fun _ => hl, fun j hj => by rw [Nat.zero_add]; exact own_at h hj⟩
theorem Src.below {k : Nat} (h : Src w v n k f) (hb : Below w.heap.size w w') : Src w' v n k f := by
  rcases h with h | ⟨b, off, cap, rfl, hl, hc⟩
  · exact .inl h
  · exact .inr ⟨b, off, cap, rfl, fun q => Nat.lt_of_lt_of_le (hl q) hb.size, fun j hj => (World.cell?_of_block (a := ⟨b, off + j, none⟩) (hb.block b (lt_cell (hc j hj)))).trans (hc j hj)⟩
end
end Go.Proofs.YtlabilijnpkmgaaGreatDoor
