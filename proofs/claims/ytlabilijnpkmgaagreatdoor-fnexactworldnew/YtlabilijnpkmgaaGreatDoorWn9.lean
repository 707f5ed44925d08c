/- Marks in new nodes. -/
import Derived.Test.YtlabilijnpkmgaaGreatDoorWn8
namespace Go.Proofs.YtlabilijnpkmgaaGreatDoor
open Go.ChangeShapes Go.WideShapes Go.ChangeAt Go.RowKit
attribute [local go_sem ↓] Go.wp_at_zero Go.wp_at_succ
/-- cells of a row from a place on, which may be written -/
structure Wo (w : World) (b o : Nat) (xs : List Value) : Prop where
  lt : b < w.heap.size
  c : ∀ j v, xs[j]? = some v → w.cell? ⟨b, o + j, none⟩ = some v
  z : ∀ j, w.frozen? ⟨b, o + j, none⟩ = false
theorem heap_lt {w w' : World} {b : Nat} (h : b < w.heap.size) (e : w'.heap[b]? = w.heap[b]?) : b < w'.heap.size := by
  rcases Nat.lt_or_ge b w'.heap.size with q | q
  · exact q
  · rw [Array.getElem?_eq_none q, Array.getElem?_eq_getElem h] at e
    simp at e
theorem cso {w : World} {b p j : Nat} (v : Value) (h : p ≠ j) : (w.setCell ⟨b, j, none⟩ v).cell? ⟨b, p, none⟩ = w.cell? ⟨b, p, none⟩ :=
  World.cell?_setCell_other _ _ _ _ (fun e => h (by simpa using (congrArg Addr.off e).symm))
theorem Wo.block {w w' : World} {b o : Nat} {xs : List Value} (h : Wo w b o xs) (e : w'.heap[b]? = w.heap[b]?) : Wo w' b o xs :=
  ⟨heap_lt h.lt e, fun j v hj => (World.cell?_of_block (a := ⟨b, o + j, none⟩) e).trans (h.c j v hj), fun j => (World.frozen?_of_block (a := ⟨b, o + j, none⟩) e).trans (h.z j)⟩
theorem Wo.set {w : World} {b o : Nat} {xs : List Value} (h : Wo w b o xs) (i : Nat) (hi : i < xs.length) (v : Value) : Wo (w.setCell ⟨b, o + i, none⟩ v) b o (xs.set i v) := by
  refine ⟨by simpa [World.setCell] using h.lt, fun j u hj => ?_, fun j => by simpa only [World.frozen?_setCell] using h.z j⟩
  by_cases e : i = j
  · subst e
    rw [List.getElem?_set_self hi] at hj
    obtain rfl := Option.some.inj hj
    have := h.c i _ (List.getElem?_eq_getElem hi)
    simp [go_sem, this]
  · rw [List.getElem?_set_ne e] at hj
    exact (cso v (by omega)).trans (h.c j u hj)
/-- what was written of a block lies among 21 cells -/
def Far (w w' : World) (g o : Nat) : Prop := g < w'.heap.size ∧ (∀ p, p < o ∨ o + 21 ≤ p → w'.cell? ⟨g, p, none⟩ = w.cell? ⟨g, p, none⟩) ∧ ∀ p, w'.frozen? ⟨g, p, none⟩ = w.frozen? ⟨g, p, none⟩
theorem Far.set {w w' : World} {g o : Nat} (h : Far w w' g o) (j : Nat) (hj : j < 21) (v : Value) : Far w (w'.setCell ⟨g, o + j, none⟩ v) g o :=
  ⟨by simpa [World.setCell] using h.1, fun p hp => (cso v (by omega)).trans (h.2.1 p hp), fun p => by simpa only [World.frozen?_setCell] using h.2.2 p⟩
theorem Far.block {w w' w'' : World} {g o : Nat} (h : Far w w' g o) (e : w''.heap[g]? = w'.heap[g]?) : Far w w'' g o :=
  ⟨heap_lt h.1 e, fun p hp => (World.cell?_of_block (a := ⟨g, p, none⟩) e).trans (h.2.1 p hp), fun p => (World.frozen?_of_block (a := ⟨g, p, none⟩) e).trans (h.2.2 p)⟩
theorem Far.keep {w w' : World} {g o o' : Nat} {xs : List Value} (h : Far w w' g o) (q : Wo w g o' xs) (d : o' + xs.length ≤ o ∨ o + 21 ≤ o') : Wo w' g o' xs :=
  ⟨h.1, fun j v hj => by
    have := (List.getElem?_eq_some_iff.1 hj).1
    exact (h.2.1 (o' + j) (by omega)).trans (q.c j v hj), fun j => (h.2.2 (o' + j)).trans (q.z j)⟩
set_option maxHeartbeats 1000000 in
theorem markFact1K (b : Nat) (n i s : Int) (g : Bool) (K : Int) (w : World) (h : Row1 w b n i s g) (h0 : 0 ≤ K) (hk : K ≤ 1000000) :
    Calls Tryz.prog 23 #[.slice (some ⟨b, 0, none⟩) 1 1, .int .i64 K] w fun r w' => r = .returned (.int .i64 (K + 4)) ∧ Row1 w' b (K) (K + 1) (K + 1 + 1) (((K + 1 + 1 + 1) % 3) == 0) ∧ w.grownBy w' (some b) := by
  obtain ⟨⟨c0, c1, c2, c3⟩, f0, f1, f2, f3⟩ := h
  have fin : Row1 ((((w.setCell ⟨b, 0, none⟩ (.int .i64 K)).setCell ⟨b, 1, none⟩ (.int .i64 (K + 1))).setCell ⟨b, 2, none⟩ (.int .i64 (K + 1 + 1))).setCell ⟨b, 3, none⟩ (.bool (((K + 1 + 1 + 1) % 3) == 0))) b (K) (K + 1) (K + 1 + 1) (((K + 1 + 1 + 1) % 3) == 0) := by
    refine ⟨⟨cs_off _ (by decide) (cs_off _ (by decide) (cs_off _ (by decide) (cs_same _ c0))), cs_off _ (by decide) (cs_off _ (by decide) (cs_same _ (cs_off _ (by decide) c1))), cs_off _ (by decide) (cs_same _ (cs_off _ (by decide) (cs_off _ (by decide) c2))), cs_same _ (cs_off _ (by decide) (cs_off _ (by decide) (cs_off _ (by decide) c3)))⟩, ?_, ?_, ?_, ?_⟩ <;> simp only [World.frozen?_setCell] <;> assumption
  have gr : w.grownBy ((((w.setCell ⟨b, 0, none⟩ (.int .i64 K)).setCell ⟨b, 1, none⟩ (.int .i64 (K + 1))).setCell ⟨b, 2, none⟩ (.int .i64 (K + 1 + 1))).setCell ⟨b, 3, none⟩ (.bool (((K + 1 + 1 + 1) % 3) == 0))) (some b) := grown_trans (grown_trans (grown_trans (grown_set w b 0 _) (grown_set _ b 1 _)) (grown_set _ b 2 _)) (grown_set _ b 3 _)
  go_enter Tryz.func23, Tryz.ntmps23
  go_wp2
  go_loopw [1, 5] (fun x j wr => (j = .int .i64 0 ∧ x = .int .i64 K ∧ wr = w) ∨ (j = .int .i64 1 ∧ x = .int .i64 (K + 1 + 1 + 1 + 1) ∧ wr = ((((w.setCell ⟨b, 0, none⟩ (.int .i64 K)).setCell ⟨b, 1, none⟩ (.int .i64 (K + 1))).setCell ⟨b, 2, none⟩ (.int .i64 (K + 1 + 1))).setCell ⟨b, 3, none⟩ (.bool (((K + 1 + 1 + 1) % 3) == 0))))) (fun _ j _ => 1 - (intOf j).toNat)
  case atStart => exact .inl ⟨rfl, rfl, rfl⟩
  case round =>
    rcases hrel with ⟨rfl, rfl, hw⟩ | ⟨rfl, rfl, hw⟩
    · subst hw
      go_wp2
      go_roundw
      case rel => exact .inr ⟨by simp, by go_num, by simp⟩
      case measure => simp [intOf]
    · subst hw
      go_wp2
      go_ret
      exact ⟨by rw [show K + 1 + 1 + 1 + 1 = K + 4 by omega]; rfl, fin, gr⟩
set_option maxHeartbeats 1000000 in
theorem heldFact1K (b : Nat) (K : Int) (w : World) (h : Row1 w b (K) (K + 1) (K + 1 + 1) (((K + 1 + 1 + 1) % 3) == 0)) (h0 : 0 ≤ K) (hk : K ≤ 1000000) :
    Calls Tryz.prog 27 #[.slice (some ⟨b, 0, none⟩) 1 1, .int .i64 K] w fun r w' => r = .returned (.int .i64 (K + 4)) ∧ w' = w := by
  obtain ⟨⟨c0, c1, c2, c3⟩, _⟩ := h
  have e0 : ((((K + 1 + 1 + 1) % 3) == 0) != (((K + 1 + 1 + 1) % 3) == 0)) = false := by simp
  go_enter Tryz.func27, Tryz.ntmps27
  go_wp2
  go_loopw [1, 5] (fun x j wr => wr = w ∧ ((j = .int .i64 0 ∧ x = .int .i64 K) ∨ (j = .int .i64 1 ∧ x = .int .i64 (K + 1 + 1 + 1 + 1)))) (fun _ j _ => 1 - (intOf j).toNat)
  case atStart => simp
  case round =>
    obtain ⟨hw, hrel⟩ := hrel
    subst hw
    rcases hrel with ⟨rfl, rfl⟩ | ⟨rfl, rfl⟩
    · go_wp2
      go_roundw
      case rel => exact ⟨by simp, .inr ⟨by simp, by go_num⟩⟩
      case measure => simp [intOf]
    · go_wp2
      go_ret
      exact ⟨by rw [show K + 1 + 1 + 1 + 1 = K + 4 by omega]; rfl, rfl⟩
/-- a new node's cells with marks -/
def mkA (K : Int) (t : Value) : Array Value := #[.int .i64 (K), .bool (((K + 1) % 3) == 0), .bool (((K + 1 + 1) % 3) == 0), .bool (((K + 1 + 1 + 1) % 3) == 0), .int .i64 (K + 1 + 1 + 1 + 1), .int .i64 (K + 1 + 1 + 1 + 1 + 1), .int .i64 (K + 1 + 1 + 1 + 1 + 1 + 1), .int .i64 (K + 1 + 1 + 1 + 1 + 1 + 1 + 1), t, .slice none 0 0, .int .i64 (K + 12), .int .i64 (K + 12 + 1), .int .i64 (K + 12 + 1 + 1), .bool (((K + 12 + 1 + 1 + 1) % 3) == 0), .slice none 0 0, .int .i64 (K + 16), .int .i64 (K + 16 + 1), .int .i64 (K + 16 + 1 + 1), .int .i64 (K + 16 + 1 + 1 + 1), .slice none 0 0, .slice none 0 0]
/-- a node of a row with its marks -/
def Mkd (w : World) (g : Nat) (tb : Nat → Nat) (i : Nat) : Prop := Wo w g (i * 21) (mkA (1 + 20 * (i : Int)) (.slice (some ⟨tb i, 0, none⟩) 1 1)).toList ∧ Row1 w (tb i) (1 + 20 * (i : Int) + 8) (1 + 20 * (i : Int) + 8 + 1) (1 + 20 * (i : Int) + 8 + 1 + 1) (((1 + 20 * (i : Int) + 8 + 1 + 1 + 1) % 3) == 0)
set_option maxRecDepth 20000 in
set_option maxHeartbeats 8000000 in
theorem markNodeS_any (g c : Nat) (tb : Nat → Nat) (w : World) (h : ∀ i, i < 8 → Wo w g (i * 21) (okN (i : Int) (gtB i) (.slice (some ⟨tb i, 0, none⟩) 1 1)).toList ∧ Row1 w (tb i) (i : Int) 0 1 (gtB i)) (hg : ∀ i, i < 8 → tb i ≠ g) (hd : ∀ i j, i < j → j < 8 → tb i ≠ tb j) :
    Calls Tryz.prog 20 #[.slice (some ⟨g, 0, none⟩) 8 c, .int .i64 1] w fun r w' => r = .returned (.int .i64 161) ∧ (∀ i, i < 8 → Mkd w' g tb i) ∧ Mw (fun b => b = g ∨ ∃ i, i < 8 ∧ b = tb i) w w' := by
  go_enter Tryz.func20, Tryz.ntmps20
  go_wp2
  go_loopw [1, 5] (fun x i wr => ∃ k : Nat, k ≤ 8 ∧ i = .int .i64 k ∧ x = .int .i64 (1 + 20 * (k : Int)) ∧ (∀ i, i < k → Mkd wr g tb i) ∧ (∀ i, k ≤ i → i < 8 → Wo wr g (i * 21) (okN (i : Int) (gtB i) (.slice (some ⟨tb i, 0, none⟩) 1 1)).toList ∧ Row1 wr (tb i) (i : Int) 0 1 (gtB i)) ∧ Mw (fun b => b = g ∨ ∃ i, i < 8 ∧ b = tb i) w wr) (fun _ i _ => 8 - (intOf i).toNat)
  case atStart => exact ⟨0, Nat.zero_le _, rfl, rfl, fun i hi => by omega, fun i _ hi => h i hi, Mw.refl _ _⟩
  case round =>
    obtain ⟨k, hk, rfl, rfl, h1, h2, hm⟩ := hrel
    by_cases hlt : k < 8
    · have i0 : (0 : Int) ≤ (k : Int) := by omega
      have i1 : (k : Int) < (8 : Int) := by omega
      obtain ⟨K, hK⟩ : ∃ K, Hid (1 + 20 * (k : Int) = K) := ⟨_, rfl⟩
      have k0 : 0 ≤ K := by have := hK.out; omega
      have k1 : K ≤ 161 := by have := hK.out; omega
      rw [hK.out]
      obtain ⟨X0, r0⟩ := h2 k (Nat.le_refl _) hlt
      have m0 : Mw (fun b => b = g) wr wr := Mw.refl _ _
      have y0 : Far wr wr g (k * 21) := ⟨X0.lt, fun _ _ => rfl, fun _ => rfl⟩
      have h1' : Hid _ := h1
      have h2' : Hid _ := h2
      have hg' : Hid _ := hg
      have hd' : Hid _ := hd
      clear h1 h2 hg hd h
      have c : wr.cell? ⟨g, k * 21, none⟩ = some (.int .i64 (k : Int)) := X0.c 0 _ rfl
      have z : wr.frozen? ⟨g, k * 21, none⟩ = false := X0.z 0
      go_upto_region 5 with fail
      have X1 : Wo (wr.setCell ⟨g, k * 21, none⟩ (.int .i64 (K))) g (k * 21) [.int .i64 (K), .bool true, .bool false, .bool (gtB k), .int .i64 0, .int .i64 0, .int .i64 0, .int .i64 0, .slice (some ⟨tb k, 0, none⟩) 1 1, .slice none 0 0, .int .i64 (-1), .int .i64 0, .int .i64 0, .bool false, .slice none 0 0, .int .i64 0, .int .i64 0, .int .i64 0, .int .i64 1500, .slice none 0 0, .slice none 0 0] := X0.set 0 (by show 0 < 21; decide) (.int .i64 (K))
      have m1 : Mw (fun b => b = g) wr (wr.setCell ⟨g, k * 21, none⟩ (.int .i64 (K))) := m0.set rfl
      have y1 : Far wr (wr.setCell ⟨g, k * 21, none⟩ (.int .i64 (K))) g (k * 21) := y0.set 0 (by decide) (.int .i64 (K))
      generalize wr.setCell ⟨g, k * 21, none⟩ (.int .i64 (K)) = u1 at *
      clear c z X0 m0 y0
      have c : u1.cell? ⟨g, k * 21 + 1, none⟩ = some (.bool true) := X1.c 1 _ rfl
      have z : u1.frozen? ⟨g, k * 21 + 1, none⟩ = false := X1.z 1
      go_upto_region 7 with fail
      have X2 : Wo (u1.setCell ⟨g, k * 21 + 1, none⟩ (.bool (((K + 1) % 3) == 0))) g (k * 21) [.int .i64 (K), .bool (((K + 1) % 3) == 0), .bool false, .bool (gtB k), .int .i64 0, .int .i64 0, .int .i64 0, .int .i64 0, .slice (some ⟨tb k, 0, none⟩) 1 1, .slice none 0 0, .int .i64 (-1), .int .i64 0, .int .i64 0, .bool false, .slice none 0 0, .int .i64 0, .int .i64 0, .int .i64 0, .int .i64 1500, .slice none 0 0, .slice none 0 0] := X1.set 1 (by show 1 < 21; decide) (.bool (((K + 1) % 3) == 0))
      have m2 : Mw (fun b => b = g) wr (u1.setCell ⟨g, k * 21 + 1, none⟩ (.bool (((K + 1) % 3) == 0))) := m1.set rfl
      have y2 : Far wr (u1.setCell ⟨g, k * 21 + 1, none⟩ (.bool (((K + 1) % 3) == 0))) g (k * 21) := y1.set 1 (by decide) (.bool (((K + 1) % 3) == 0))
      generalize u1.setCell ⟨g, k * 21 + 1, none⟩ (.bool (((K + 1) % 3) == 0)) = u2 at *
      clear c z X1 m1 y1
      have c : u2.cell? ⟨g, k * 21 + 2, none⟩ = some (.bool false) := X2.c 2 _ rfl
      have z : u2.frozen? ⟨g, k * 21 + 2, none⟩ = false := X2.z 2
      go_upto_region 9 with fail
      have X3 : Wo (u2.setCell ⟨g, k * 21 + 2, none⟩ (.bool (((K + 1 + 1) % 3) == 0))) g (k * 21) [.int .i64 (K), .bool (((K + 1) % 3) == 0), .bool (((K + 1 + 1) % 3) == 0), .bool (gtB k), .int .i64 0, .int .i64 0, .int .i64 0, .int .i64 0, .slice (some ⟨tb k, 0, none⟩) 1 1, .slice none 0 0, .int .i64 (-1), .int .i64 0, .int .i64 0, .bool false, .slice none 0 0, .int .i64 0, .int .i64 0, .int .i64 0, .int .i64 1500, .slice none 0 0, .slice none 0 0] := X2.set 2 (by show 2 < 21; decide) (.bool (((K + 1 + 1) % 3) == 0))
      have m3 : Mw (fun b => b = g) wr (u2.setCell ⟨g, k * 21 + 2, none⟩ (.bool (((K + 1 + 1) % 3) == 0))) := m2.set rfl
      have y3 : Far wr (u2.setCell ⟨g, k * 21 + 2, none⟩ (.bool (((K + 1 + 1) % 3) == 0))) g (k * 21) := y2.set 2 (by decide) (.bool (((K + 1 + 1) % 3) == 0))
      generalize u2.setCell ⟨g, k * 21 + 2, none⟩ (.bool (((K + 1 + 1) % 3) == 0)) = u3 at *
      clear c z X2 m2 y2
      have c : u3.cell? ⟨g, k * 21 + 3, none⟩ = some (.bool (gtB k)) := X3.c 3 _ rfl
      have z : u3.frozen? ⟨g, k * 21 + 3, none⟩ = false := X3.z 3
      go_upto_region 11 with fail
      have X4 : Wo (u3.setCell ⟨g, k * 21 + 3, none⟩ (.bool (((K + 1 + 1 + 1) % 3) == 0))) g (k * 21) [.int .i64 (K), .bool (((K + 1) % 3) == 0), .bool (((K + 1 + 1) % 3) == 0), .bool (((K + 1 + 1 + 1) % 3) == 0), .int .i64 0, .int .i64 0, .int .i64 0, .int .i64 0, .slice (some ⟨tb k, 0, none⟩) 1 1, .slice none 0 0, .int .i64 (-1), .int .i64 0, .int .i64 0, .bool false, .slice none 0 0, .int .i64 0, .int .i64 0, .int .i64 0, .int .i64 1500, .slice none 0 0, .slice none 0 0] := X3.set 3 (by show 3 < 21; decide) (.bool (((K + 1 + 1 + 1) % 3) == 0))
      have m4 : Mw (fun b => b = g) wr (u3.setCell ⟨g, k * 21 + 3, none⟩ (.bool (((K + 1 + 1 + 1) % 3) == 0))) := m3.set rfl
      have y4 : Far wr (u3.setCell ⟨g, k * 21 + 3, none⟩ (.bool (((K + 1 + 1 + 1) % 3) == 0))) g (k * 21) := y3.set 3 (by decide) (.bool (((K + 1 + 1 + 1) % 3) == 0))
      generalize u3.setCell ⟨g, k * 21 + 3, none⟩ (.bool (((K + 1 + 1 + 1) % 3) == 0)) = u4 at *
      clear c z X3 m3 y3
      have c : u4.cell? ⟨g, k * 21 + 4, none⟩ = some (.int .i64 0) := X4.c 4 _ rfl
      have z : u4.frozen? ⟨g, k * 21 + 4, none⟩ = false := X4.z 4
      go_upto_region 13 with fail
      have X5 : Wo (u4.setCell ⟨g, k * 21 + 4, none⟩ (.int .i64 (K + 1 + 1 + 1 + 1))) g (k * 21) [.int .i64 (K), .bool (((K + 1) % 3) == 0), .bool (((K + 1 + 1) % 3) == 0), .bool (((K + 1 + 1 + 1) % 3) == 0), .int .i64 (K + 1 + 1 + 1 + 1), .int .i64 0, .int .i64 0, .int .i64 0, .slice (some ⟨tb k, 0, none⟩) 1 1, .slice none 0 0, .int .i64 (-1), .int .i64 0, .int .i64 0, .bool false, .slice none 0 0, .int .i64 0, .int .i64 0, .int .i64 0, .int .i64 1500, .slice none 0 0, .slice none 0 0] := X4.set 4 (by show 4 < 21; decide) (.int .i64 (K + 1 + 1 + 1 + 1))
      have m5 : Mw (fun b => b = g) wr (u4.setCell ⟨g, k * 21 + 4, none⟩ (.int .i64 (K + 1 + 1 + 1 + 1))) := m4.set rfl
      have y5 : Far wr (u4.setCell ⟨g, k * 21 + 4, none⟩ (.int .i64 (K + 1 + 1 + 1 + 1))) g (k * 21) := y4.set 4 (by decide) (.int .i64 (K + 1 + 1 + 1 + 1))
      generalize u4.setCell ⟨g, k * 21 + 4, none⟩ (.int .i64 (K + 1 + 1 + 1 + 1)) = u5 at *
      clear c z X4 m4 y4
      have c : u5.cell? ⟨g, k * 21 + 5, none⟩ = some (.int .i64 0) := X5.c 5 _ rfl
      have z : u5.frozen? ⟨g, k * 21 + 5, none⟩ = false := X5.z 5
      go_upto_region 15 with fail
      have X6 : Wo (u5.setCell ⟨g, k * 21 + 5, none⟩ (.int .i64 (K + 1 + 1 + 1 + 1 + 1))) g (k * 21) [.int .i64 (K), .bool (((K + 1) % 3) == 0), .bool (((K + 1 + 1) % 3) == 0), .bool (((K + 1 + 1 + 1) % 3) == 0), .int .i64 (K + 1 + 1 + 1 + 1), .int .i64 (K + 1 + 1 + 1 + 1 + 1), .int .i64 0, .int .i64 0, .slice (some ⟨tb k, 0, none⟩) 1 1, .slice none 0 0, .int .i64 (-1), .int .i64 0, .int .i64 0, .bool false, .slice none 0 0, .int .i64 0, .int .i64 0, .int .i64 0, .int .i64 1500, .slice none 0 0, .slice none 0 0] := X5.set 5 (by show 5 < 21; decide) (.int .i64 (K + 1 + 1 + 1 + 1 + 1))
      have m6 : Mw (fun b => b = g) wr (u5.setCell ⟨g, k * 21 + 5, none⟩ (.int .i64 (K + 1 + 1 + 1 + 1 + 1))) := m5.set rfl
      have y6 : Far wr (u5.setCell ⟨g, k * 21 + 5, none⟩ (.int .i64 (K + 1 + 1 + 1 + 1 + 1))) g (k * 21) := y5.set 5 (by decide) (.int .i64 (K + 1 + 1 + 1 + 1 + 1))
      generalize u5.setCell ⟨g, k * 21 + 5, none⟩ (.int .i64 (K + 1 + 1 + 1 + 1 + 1)) = u6 at *
      clear c z X5 m5 y5
      have c : u6.cell? ⟨g, k * 21 + 6, none⟩ = some (.int .i64 0) := X6.c 6 _ rfl
      have z : u6.frozen? ⟨g, k * 21 + 6, none⟩ = false := X6.z 6
      go_upto_region 17 with fail
      have X7 : Wo (u6.setCell ⟨g, k * 21 + 6, none⟩ (.int .i64 (K + 1 + 1 + 1 + 1 + 1 + 1))) g (k * 21) [.int .i64 (K), .bool (((K + 1) % 3) == 0), .bool (((K + 1 + 1) % 3) == 0), .bool (((K + 1 + 1 + 1) % 3) == 0), .int .i64 (K + 1 + 1 + 1 + 1), .int .i64 (K + 1 + 1 + 1 + 1 + 1), .int .i64 (K + 1 + 1 + 1 + 1 + 1 + 1), .int .i64 0, .slice (some ⟨tb k, 0, none⟩) 1 1, .slice none 0 0, .int .i64 (-1), .int .i64 0, .int .i64 0, .bool false, .slice none 0 0, .int .i64 0, .int .i64 0, .int .i64 0, .int .i64 1500, .slice none 0 0, .slice none 0 0] := X6.set 6 (by show 6 < 21; decide) (.int .i64 (K + 1 + 1 + 1 + 1 + 1 + 1))
      have m7 : Mw (fun b => b = g) wr (u6.setCell ⟨g, k * 21 + 6, none⟩ (.int .i64 (K + 1 + 1 + 1 + 1 + 1 + 1))) := m6.set rfl
      have y7 : Far wr (u6.setCell ⟨g, k * 21 + 6, none⟩ (.int .i64 (K + 1 + 1 + 1 + 1 + 1 + 1))) g (k * 21) := y6.set 6 (by decide) (.int .i64 (K + 1 + 1 + 1 + 1 + 1 + 1))
      generalize u6.setCell ⟨g, k * 21 + 6, none⟩ (.int .i64 (K + 1 + 1 + 1 + 1 + 1 + 1)) = u7 at *
      clear c z X6 m6 y6
      have c : u7.cell? ⟨g, k * 21 + 7, none⟩ = some (.int .i64 0) := X7.c 7 _ rfl
      have z : u7.frozen? ⟨g, k * 21 + 7, none⟩ = false := X7.z 7
      go_upto_region 19 with fail
      have X8 : Wo (u7.setCell ⟨g, k * 21 + 7, none⟩ (.int .i64 (K + 1 + 1 + 1 + 1 + 1 + 1 + 1))) g (k * 21) [.int .i64 (K), .bool (((K + 1) % 3) == 0), .bool (((K + 1 + 1) % 3) == 0), .bool (((K + 1 + 1 + 1) % 3) == 0), .int .i64 (K + 1 + 1 + 1 + 1), .int .i64 (K + 1 + 1 + 1 + 1 + 1), .int .i64 (K + 1 + 1 + 1 + 1 + 1 + 1), .int .i64 (K + 1 + 1 + 1 + 1 + 1 + 1 + 1), .slice (some ⟨tb k, 0, none⟩) 1 1, .slice none 0 0, .int .i64 (-1), .int .i64 0, .int .i64 0, .bool false, .slice none 0 0, .int .i64 0, .int .i64 0, .int .i64 0, .int .i64 1500, .slice none 0 0, .slice none 0 0] := X7.set 7 (by show 7 < 21; decide) (.int .i64 (K + 1 + 1 + 1 + 1 + 1 + 1 + 1))
      have m8 : Mw (fun b => b = g) wr (u7.setCell ⟨g, k * 21 + 7, none⟩ (.int .i64 (K + 1 + 1 + 1 + 1 + 1 + 1 + 1))) := m7.set rfl
      have y8 : Far wr (u7.setCell ⟨g, k * 21 + 7, none⟩ (.int .i64 (K + 1 + 1 + 1 + 1 + 1 + 1 + 1))) g (k * 21) := y7.set 7 (by decide) (.int .i64 (K + 1 + 1 + 1 + 1 + 1 + 1 + 1))
      generalize u7.setCell ⟨g, k * 21 + 7, none⟩ (.int .i64 (K + 1 + 1 + 1 + 1 + 1 + 1 + 1)) = u8 at *
      clear c z X7 m7 y7
      have hne : tb k ≠ g := hg'.out k hlt
      have r1 : Row1 u8 (tb k) (k : Int) 0 1 (gtB k) := r0.block (m8.block (tb k) r0.lt hne)
      clear r0
      have c : u8.cell? ⟨g, k * 21 + 8, none⟩ = some (.slice (some ⟨tb k, 0, none⟩) 1 1) := X8.c 8 _ rfl
      go_wp2_with fail
      rw [show K + 1 + 1 + 1 + 1 + 1 + 1 + 1 + 1 = K + 8 by omega]
      refine (markFact1K (tb k) (k : Int) 0 1 (gtB k) (K + 8) u8 r1 (by omega) (by omega)).mono ?_
      rintro r v ⟨rfl, r2, hgr⟩
      clear c r1
      have X : Wo v g (k * 21) [.int .i64 (K), .bool (((K + 1) % 3) == 0), .bool (((K + 1 + 1) % 3) == 0), .bool (((K + 1 + 1 + 1) % 3) == 0), .int .i64 (K + 1 + 1 + 1 + 1), .int .i64 (K + 1 + 1 + 1 + 1 + 1), .int .i64 (K + 1 + 1 + 1 + 1 + 1 + 1), .int .i64 (K + 1 + 1 + 1 + 1 + 1 + 1 + 1), .slice (some ⟨tb k, 0, none⟩) 1 1, .slice none 0 0, .int .i64 (-1), .int .i64 0, .int .i64 0, .bool false, .slice none 0 0, .int .i64 0, .int .i64 0, .int .i64 0, .int .i64 1500, .slice none 0 0, .slice none 0 0] := X8.block (hgr.block g X8.lt (by simpa using fun e => hne e.symm))
      have m : Mw (fun b => b = g ∨ b = tb k) wr v := (m8.mono (fun x q => .inl q)).trans (Mw.grown hgr (fun x e => by injection e with e; exact .inr e.symm))
      have y : Far wr v g (k * 21) := y8.block (hgr.block g X8.lt (by simpa using fun e => hne e.symm))
      clear X8 m8 y8 hgr
      rw [show K + 8 + 4 = K + 12 by omega]
      have c : v.cell? ⟨g, k * 21 + 9, none⟩ = some (.slice none 0 0) := X.c 9 _ rfl
      go_wp2_with fail
      refine (markItemS_nil (K + 12) _).mono ?_
      rintro r v0 ⟨rfl, hv⟩
      obtain rfl := hv.symm
      clear hv c
      have X9 := X
      have y9 := y
      have m9 : Mw (fun b => b = g) v v := Mw.refl _ _
      clear X y
      have c : v.cell? ⟨g, k * 21 + 10, none⟩ = some (.int .i64 (-1)) := X9.c 10 _ rfl
      have z : v.frozen? ⟨g, k * 21 + 10, none⟩ = false := X9.z 10
      go_upto_region 23 with fail
      have X10 : Wo (v.setCell ⟨g, k * 21 + 10, none⟩ (.int .i64 (K + 12))) g (k * 21) [.int .i64 (K), .bool (((K + 1) % 3) == 0), .bool (((K + 1 + 1) % 3) == 0), .bool (((K + 1 + 1 + 1) % 3) == 0), .int .i64 (K + 1 + 1 + 1 + 1), .int .i64 (K + 1 + 1 + 1 + 1 + 1), .int .i64 (K + 1 + 1 + 1 + 1 + 1 + 1), .int .i64 (K + 1 + 1 + 1 + 1 + 1 + 1 + 1), .slice (some ⟨tb k, 0, none⟩) 1 1, .slice none 0 0, .int .i64 (K + 12), .int .i64 0, .int .i64 0, .bool false, .slice none 0 0, .int .i64 0, .int .i64 0, .int .i64 0, .int .i64 1500, .slice none 0 0, .slice none 0 0] := X9.set 10 (by show 10 < 21; decide) (.int .i64 (K + 12))
      have m10 : Mw (fun b => b = g) v (v.setCell ⟨g, k * 21 + 10, none⟩ (.int .i64 (K + 12))) := m9.set rfl
      have y10 : Far wr (v.setCell ⟨g, k * 21 + 10, none⟩ (.int .i64 (K + 12))) g (k * 21) := y9.set 10 (by decide) (.int .i64 (K + 12))
      generalize v.setCell ⟨g, k * 21 + 10, none⟩ (.int .i64 (K + 12)) = u10 at *
      clear c z X9 m9 y9
      have c : u10.cell? ⟨g, k * 21 + 11, none⟩ = some (.int .i64 0) := X10.c 11 _ rfl
      have z : u10.frozen? ⟨g, k * 21 + 11, none⟩ = false := X10.z 11
      go_upto_region 25 with fail
      have X11 : Wo (u10.setCell ⟨g, k * 21 + 11, none⟩ (.int .i64 (K + 12 + 1))) g (k * 21) [.int .i64 (K), .bool (((K + 1) % 3) == 0), .bool (((K + 1 + 1) % 3) == 0), .bool (((K + 1 + 1 + 1) % 3) == 0), .int .i64 (K + 1 + 1 + 1 + 1), .int .i64 (K + 1 + 1 + 1 + 1 + 1), .int .i64 (K + 1 + 1 + 1 + 1 + 1 + 1), .int .i64 (K + 1 + 1 + 1 + 1 + 1 + 1 + 1), .slice (some ⟨tb k, 0, none⟩) 1 1, .slice none 0 0, .int .i64 (K + 12), .int .i64 (K + 12 + 1), .int .i64 0, .bool false, .slice none 0 0, .int .i64 0, .int .i64 0, .int .i64 0, .int .i64 1500, .slice none 0 0, .slice none 0 0] := X10.set 11 (by show 11 < 21; decide) (.int .i64 (K + 12 + 1))
      have m11 : Mw (fun b => b = g) v (u10.setCell ⟨g, k * 21 + 11, none⟩ (.int .i64 (K + 12 + 1))) := m10.set rfl
      have y11 : Far wr (u10.setCell ⟨g, k * 21 + 11, none⟩ (.int .i64 (K + 12 + 1))) g (k * 21) := y10.set 11 (by decide) (.int .i64 (K + 12 + 1))
      generalize u10.setCell ⟨g, k * 21 + 11, none⟩ (.int .i64 (K + 12 + 1)) = u11 at *
      clear c z X10 m10 y10
      have c : u11.cell? ⟨g, k * 21 + 12, none⟩ = some (.int .i64 0) := X11.c 12 _ rfl
      have z : u11.frozen? ⟨g, k * 21 + 12, none⟩ = false := X11.z 12
      go_upto_region 27 with fail
      have X12 : Wo (u11.setCell ⟨g, k * 21 + 12, none⟩ (.int .i64 (K + 12 + 1 + 1))) g (k * 21) [.int .i64 (K), .bool (((K + 1) % 3) == 0), .bool (((K + 1 + 1) % 3) == 0), .bool (((K + 1 + 1 + 1) % 3) == 0), .int .i64 (K + 1 + 1 + 1 + 1), .int .i64 (K + 1 + 1 + 1 + 1 + 1), .int .i64 (K + 1 + 1 + 1 + 1 + 1 + 1), .int .i64 (K + 1 + 1 + 1 + 1 + 1 + 1 + 1), .slice (some ⟨tb k, 0, none⟩) 1 1, .slice none 0 0, .int .i64 (K + 12), .int .i64 (K + 12 + 1), .int .i64 (K + 12 + 1 + 1), .bool false, .slice none 0 0, .int .i64 0, .int .i64 0, .int .i64 0, .int .i64 1500, .slice none 0 0, .slice none 0 0] := X11.set 12 (by show 12 < 21; decide) (.int .i64 (K + 12 + 1 + 1))
      have m12 : Mw (fun b => b = g) v (u11.setCell ⟨g, k * 21 + 12, none⟩ (.int .i64 (K + 12 + 1 + 1))) := m11.set rfl
      have y12 : Far wr (u11.setCell ⟨g, k * 21 + 12, none⟩ (.int .i64 (K + 12 + 1 + 1))) g (k * 21) := y11.set 12 (by decide) (.int .i64 (K + 12 + 1 + 1))
      generalize u11.setCell ⟨g, k * 21 + 12, none⟩ (.int .i64 (K + 12 + 1 + 1)) = u12 at *
      clear c z X11 m11 y11
      have c : u12.cell? ⟨g, k * 21 + 13, none⟩ = some (.bool false) := X12.c 13 _ rfl
      have z : u12.frozen? ⟨g, k * 21 + 13, none⟩ = false := X12.z 13
      go_upto_region 29 with fail
      have X13 : Wo (u12.setCell ⟨g, k * 21 + 13, none⟩ (.bool (((K + 12 + 1 + 1 + 1) % 3) == 0))) g (k * 21) [.int .i64 (K), .bool (((K + 1) % 3) == 0), .bool (((K + 1 + 1) % 3) == 0), .bool (((K + 1 + 1 + 1) % 3) == 0), .int .i64 (K + 1 + 1 + 1 + 1), .int .i64 (K + 1 + 1 + 1 + 1 + 1), .int .i64 (K + 1 + 1 + 1 + 1 + 1 + 1), .int .i64 (K + 1 + 1 + 1 + 1 + 1 + 1 + 1), .slice (some ⟨tb k, 0, none⟩) 1 1, .slice none 0 0, .int .i64 (K + 12), .int .i64 (K + 12 + 1), .int .i64 (K + 12 + 1 + 1), .bool (((K + 12 + 1 + 1 + 1) % 3) == 0), .slice none 0 0, .int .i64 0, .int .i64 0, .int .i64 0, .int .i64 1500, .slice none 0 0, .slice none 0 0] := X12.set 13 (by show 13 < 21; decide) (.bool (((K + 12 + 1 + 1 + 1) % 3) == 0))
      have m13 : Mw (fun b => b = g) v (u12.setCell ⟨g, k * 21 + 13, none⟩ (.bool (((K + 12 + 1 + 1 + 1) % 3) == 0))) := m12.set rfl
      have y13 : Far wr (u12.setCell ⟨g, k * 21 + 13, none⟩ (.bool (((K + 12 + 1 + 1 + 1) % 3) == 0))) g (k * 21) := y12.set 13 (by decide) (.bool (((K + 12 + 1 + 1 + 1) % 3) == 0))
      generalize u12.setCell ⟨g, k * 21 + 13, none⟩ (.bool (((K + 12 + 1 + 1 + 1) % 3) == 0)) = u13 at *
      clear c z X12 m12 y12
      have c : u13.cell? ⟨g, k * 21 + 14, none⟩ = some (.slice none 0 0) := X13.c 14 _ rfl
      go_wp2_with fail
      rw [show K + 12 + 1 + 1 + 1 + 1 = K + 16 by omega]
      refine (markDoubtS_nil (K + 16) _).mono ?_
      rintro r v0 ⟨rfl, hv⟩
      obtain rfl := hv.symm
      clear hv c
      have c : u13.cell? ⟨g, k * 21 + 15, none⟩ = some (.int .i64 0) := X13.c 15 _ rfl
      have z : u13.frozen? ⟨g, k * 21 + 15, none⟩ = false := X13.z 15
      go_upto_region 32 with fail
      have X14 : Wo (u13.setCell ⟨g, k * 21 + 15, none⟩ (.int .i64 (K + 16))) g (k * 21) [.int .i64 (K), .bool (((K + 1) % 3) == 0), .bool (((K + 1 + 1) % 3) == 0), .bool (((K + 1 + 1 + 1) % 3) == 0), .int .i64 (K + 1 + 1 + 1 + 1), .int .i64 (K + 1 + 1 + 1 + 1 + 1), .int .i64 (K + 1 + 1 + 1 + 1 + 1 + 1), .int .i64 (K + 1 + 1 + 1 + 1 + 1 + 1 + 1), .slice (some ⟨tb k, 0, none⟩) 1 1, .slice none 0 0, .int .i64 (K + 12), .int .i64 (K + 12 + 1), .int .i64 (K + 12 + 1 + 1), .bool (((K + 12 + 1 + 1 + 1) % 3) == 0), .slice none 0 0, .int .i64 (K + 16), .int .i64 0, .int .i64 0, .int .i64 1500, .slice none 0 0, .slice none 0 0] := X13.set 15 (by show 15 < 21; decide) (.int .i64 (K + 16))
      have m14 : Mw (fun b => b = g) v (u13.setCell ⟨g, k * 21 + 15, none⟩ (.int .i64 (K + 16))) := m13.set rfl
      have y14 : Far wr (u13.setCell ⟨g, k * 21 + 15, none⟩ (.int .i64 (K + 16))) g (k * 21) := y13.set 15 (by decide) (.int .i64 (K + 16))
      generalize u13.setCell ⟨g, k * 21 + 15, none⟩ (.int .i64 (K + 16)) = u14 at *
      clear c z X13 m13 y13
      have c : u14.cell? ⟨g, k * 21 + 16, none⟩ = some (.int .i64 0) := X14.c 16 _ rfl
      have z : u14.frozen? ⟨g, k * 21 + 16, none⟩ = false := X14.z 16
      go_upto_region 34 with fail
      have X15 : Wo (u14.setCell ⟨g, k * 21 + 16, none⟩ (.int .i64 (K + 16 + 1))) g (k * 21) [.int .i64 (K), .bool (((K + 1) % 3) == 0), .bool (((K + 1 + 1) % 3) == 0), .bool (((K + 1 + 1 + 1) % 3) == 0), .int .i64 (K + 1 + 1 + 1 + 1), .int .i64 (K + 1 + 1 + 1 + 1 + 1), .int .i64 (K + 1 + 1 + 1 + 1 + 1 + 1), .int .i64 (K + 1 + 1 + 1 + 1 + 1 + 1 + 1), .slice (some ⟨tb k, 0, none⟩) 1 1, .slice none 0 0, .int .i64 (K + 12), .int .i64 (K + 12 + 1), .int .i64 (K + 12 + 1 + 1), .bool (((K + 12 + 1 + 1 + 1) % 3) == 0), .slice none 0 0, .int .i64 (K + 16), .int .i64 (K + 16 + 1), .int .i64 0, .int .i64 1500, .slice none 0 0, .slice none 0 0] := X14.set 16 (by show 16 < 21; decide) (.int .i64 (K + 16 + 1))
      have m15 : Mw (fun b => b = g) v (u14.setCell ⟨g, k * 21 + 16, none⟩ (.int .i64 (K + 16 + 1))) := m14.set rfl
      have y15 : Far wr (u14.setCell ⟨g, k * 21 + 16, none⟩ (.int .i64 (K + 16 + 1))) g (k * 21) := y14.set 16 (by decide) (.int .i64 (K + 16 + 1))
      generalize u14.setCell ⟨g, k * 21 + 16, none⟩ (.int .i64 (K + 16 + 1)) = u15 at *
      clear c z X14 m14 y14
      have c : u15.cell? ⟨g, k * 21 + 17, none⟩ = some (.int .i64 0) := X15.c 17 _ rfl
      have z : u15.frozen? ⟨g, k * 21 + 17, none⟩ = false := X15.z 17
      go_upto_region 36 with fail
      have X16 : Wo (u15.setCell ⟨g, k * 21 + 17, none⟩ (.int .i64 (K + 16 + 1 + 1))) g (k * 21) [.int .i64 (K), .bool (((K + 1) % 3) == 0), .bool (((K + 1 + 1) % 3) == 0), .bool (((K + 1 + 1 + 1) % 3) == 0), .int .i64 (K + 1 + 1 + 1 + 1), .int .i64 (K + 1 + 1 + 1 + 1 + 1), .int .i64 (K + 1 + 1 + 1 + 1 + 1 + 1), .int .i64 (K + 1 + 1 + 1 + 1 + 1 + 1 + 1), .slice (some ⟨tb k, 0, none⟩) 1 1, .slice none 0 0, .int .i64 (K + 12), .int .i64 (K + 12 + 1), .int .i64 (K + 12 + 1 + 1), .bool (((K + 12 + 1 + 1 + 1) % 3) == 0), .slice none 0 0, .int .i64 (K + 16), .int .i64 (K + 16 + 1), .int .i64 (K + 16 + 1 + 1), .int .i64 1500, .slice none 0 0, .slice none 0 0] := X15.set 17 (by show 17 < 21; decide) (.int .i64 (K + 16 + 1 + 1))
      have m16 : Mw (fun b => b = g) v (u15.setCell ⟨g, k * 21 + 17, none⟩ (.int .i64 (K + 16 + 1 + 1))) := m15.set rfl
      have y16 : Far wr (u15.setCell ⟨g, k * 21 + 17, none⟩ (.int .i64 (K + 16 + 1 + 1))) g (k * 21) := y15.set 17 (by decide) (.int .i64 (K + 16 + 1 + 1))
      generalize u15.setCell ⟨g, k * 21 + 17, none⟩ (.int .i64 (K + 16 + 1 + 1)) = u16 at *
      clear c z X15 m15 y15
      have c : u16.cell? ⟨g, k * 21 + 18, none⟩ = some (.int .i64 1500) := X16.c 18 _ rfl
      have z : u16.frozen? ⟨g, k * 21 + 18, none⟩ = false := X16.z 18
      go_upto_region 38 with fail
      have X17 : Wo (u16.setCell ⟨g, k * 21 + 18, none⟩ (.int .i64 (K + 16 + 1 + 1 + 1))) g (k * 21) [.int .i64 (K), .bool (((K + 1) % 3) == 0), .bool (((K + 1 + 1) % 3) == 0), .bool (((K + 1 + 1 + 1) % 3) == 0), .int .i64 (K + 1 + 1 + 1 + 1), .int .i64 (K + 1 + 1 + 1 + 1 + 1), .int .i64 (K + 1 + 1 + 1 + 1 + 1 + 1), .int .i64 (K + 1 + 1 + 1 + 1 + 1 + 1 + 1), .slice (some ⟨tb k, 0, none⟩) 1 1, .slice none 0 0, .int .i64 (K + 12), .int .i64 (K + 12 + 1), .int .i64 (K + 12 + 1 + 1), .bool (((K + 12 + 1 + 1 + 1) % 3) == 0), .slice none 0 0, .int .i64 (K + 16), .int .i64 (K + 16 + 1), .int .i64 (K + 16 + 1 + 1), .int .i64 (K + 16 + 1 + 1 + 1), .slice none 0 0, .slice none 0 0] := X16.set 18 (by show 18 < 21; decide) (.int .i64 (K + 16 + 1 + 1 + 1))
      have m17 : Mw (fun b => b = g) v (u16.setCell ⟨g, k * 21 + 18, none⟩ (.int .i64 (K + 16 + 1 + 1 + 1))) := m16.set rfl
      have y17 : Far wr (u16.setCell ⟨g, k * 21 + 18, none⟩ (.int .i64 (K + 16 + 1 + 1 + 1))) g (k * 21) := y16.set 18 (by decide) (.int .i64 (K + 16 + 1 + 1 + 1))
      generalize u16.setCell ⟨g, k * 21 + 18, none⟩ (.int .i64 (K + 16 + 1 + 1 + 1)) = u17 at *
      clear c z X16 m16 y16
      have c : u17.cell? ⟨g, k * 21 + 19, none⟩ = some (.slice none 0 0) := X17.c 19 _ rfl
      have d : u17.cell? ⟨g, k * 21 + 20, none⟩ = some (.slice none 0 0) := X17.c 20 _ rfl
      go_wp2_with fail
      rw [show K + 16 + 1 + 1 + 1 + 1 = K + 20 by omega]
      refine (markPlaceS_nil (K + 20) _).mono ?_
      rintro r v0 ⟨rfl, hv⟩
      obtain rfl := hv.symm
      clear hv c
      go_wp2_with fail
      refine (markForeignS_nil (K + 20) _).mono ?_
      rintro r v0 ⟨rfl, hv⟩
      obtain rfl := hv.symm
      clear hv d
      have r3 := r2.block (m17.block (tb k) r2.lt hne)
      have mm : Mw (fun b => b = g ∨ b = tb k) wr u17 := m.trans (m17.mono (fun x q => .inl q))
      clear r2 m m17
      go_wp2
      go_roundw
      case rel =>
        refine ⟨k + 1, by omega, by go_num, by rw [← hK.out]; go_num, fun i hi => ?_, fun i hi hi8 => ?_, hm.trans (mm.mono (fun x q => q.imp id (fun q => ⟨k, hlt, q⟩)))⟩
        · by_cases e : i = k
          · subst e
            unfold Mkd
            rw [hK.out]
            exact ⟨X17, r3⟩
          · obtain ⟨q1, q2⟩ := h1'.out i (by omega)
            exact ⟨y17.keep q1 (.inl (by show i * 21 + 21 ≤ _; omega)), q2.block (mm.block (tb i) q2.lt (fun q => q.elim (hg'.out i (by omega)) (fun q => hd'.out i k (by omega) hlt q)))⟩
        · obtain ⟨q1, q2⟩ := h2'.out i (by omega) hi8
          exact ⟨y17.keep q1 (.inr (by omega)), q2.block (mm.block (tb i) q2.lt (fun q => q.elim (hg'.out i (by omega)) (fun q => hd'.out k i (by omega) hi8 q.symm)))⟩
      case measure => simp [intOf]; omega
    · go_wp2
      go_ret
      obtain rfl : k = 8 := by omega
      exact ⟨rfl, h1, hm⟩
end Go.Proofs.YtlabilijnpkmgaaGreatDoor
