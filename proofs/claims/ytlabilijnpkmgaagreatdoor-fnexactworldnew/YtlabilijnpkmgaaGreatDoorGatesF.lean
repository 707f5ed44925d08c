/- What is left of the text on gateways. -/
import Derived.Test.YtlabilijnpkmgaaGreatDoorGates
import Derived.Laws.OwnMore
import Derived.Test.YtlabilijnpkmgaaGreatDoorGates
namespace Go.Proofs.YtlabilijnpkmgaaGreatDoor
open Go.ChangeShapes Go.WideShapes Go.ChangeAt Go.RowKit
attribute [local go_sem ↓] Go.wp_at_zero Go.wp_at_succ
theorem fsl_row {w : World} {b t n : Nat} {F : Nat → Fc} (h : w.rowIs b t (n * 4) (fv F)) : FSl w (some ⟨b, 0, none⟩) n F := fun _ => ⟨b, 0, rfl, h.lt, row_in h⟩
theorem own_mono {w : World} {base base' size n : Nat} {e : TypeId} {v : Value} {xs : List Value} (hbb : base' ≤ base) (h : w.ownsRow base e size v n xs) : w.ownsRow base' e size v n xs := by
  refine ⟨h.1, h.2.imp id ?_⟩
  rintro ⟨g, cap, cur, hv, hg, r⟩
  exact ⟨g, cap, cur, hv, Nat.le_trans hbb hg, r⟩
theorem lv_append (L : List Int) (x : Int) : lv (L ++ [x]) = lv L ++ [.int .i64 x] := by simp [lv]
theorem own_list {w : World} {base : Nat} {e : TypeId} {v : Value} {L : List Int} (h : w.ownsRow base e 1 v L.length (lv L)) : ∃ a cap, v = .slice a L.length cap ∧ L.length ≤ cap ∧ ISl w a L.length (fun k => L.getD k 0) := by
  have h0 := h
  rcases h.2 with ⟨rfl, hl⟩ | ⟨g, cap, cur, rfl, hg, hh, hc, _⟩
  · exact ⟨none, 0, by rw [hl], by omega, fun h => by omega⟩
  · refine ⟨_, cap, rfl, hc, fun _ => ⟨g, 0, rfl, lt_of_block hh, fun k hk => ?_⟩⟩
    rw [Nat.zero_add]
    refine (h0.cellAt k (by omega)).trans ?_
    simp [lv, hk]
theorem gsel_le (F : Nat → Fc) (n : Int) : ∀ k, (gsel F n k).length ≤ k
  | 0 => Nat.le_refl _
  | k + 1 => by have := gsel_le F n k; unfold gsel; split <;> simp <;> omega
theorem gsel_full (F : Nat → Fc) (n : Int) (k : Nat) (h : ¬ ((gsel F n k).length : Int) < n) : ∀ j, gsel F n (k + j) = gsel F n k
  | 0 => rfl
  | j + 1 => by
    have ih := gsel_full F n k h j
    show gsel F n (k + j + 1) = _
    rw [gsel, ih, if_neg (fun h' => h h'.1)]
theorem gT_le (len : Nat) (F : Nat → Fc) (n : Int) : (gT len F n).length ≤ len := by unfold gT; split; exact gsel_le F n len; simp
theorem grown_set (w : World) (b o : Nat) (v : Value) : w.grownBy (w.setCell ⟨b, o, none⟩ v) (some b) := ⟨rfl, rfl, rfl, by simp, fun k _ hk => heap_setCell_other w ⟨b, o, none⟩ k v (fun e => hk (by simp [e]))⟩
theorem grown_trans {w1 w2 w3 : World} {r : Option Nat} (h1 : w1.grownBy w2 r) (h2 : w2.grownBy w3 r) : w1.grownBy w3 r := ⟨h2.os.trans h1.os, h2.tape.trans h1.tape, h2.output.trans h1.output, Nat.le_trans h1.size h2.size, fun k hk hr => (h2.block k (Nat.lt_of_lt_of_le hk h1.size) hr).trans (h1.block k hk hr)⟩
theorem own_shape {w : World} {base : Nat} {e : TypeId} {v : Value} {n : Nat} {xs : List Value} (h : w.ownsRow base e 1 v n xs) : (v = .slice none 0 0 ∧ n = 0) ∨ ∃ g cap, v = .slice (some ⟨g, 0, none⟩) n cap ∧ base ≤ g := by
  rcases h.2 with ⟨rfl, hn⟩ | ⟨g, cap, cur, rfl, hg, _⟩
  · exact .inl ⟨rfl, hn⟩
  · exact .inr ⟨g, cap, rfl, hg⟩
theorem mk_len (k0 n : Nat) : (mk k0 n).length = n := by simp [mk]
theorem mk_set (k0 k n : Nat) (xs : List Value) (hx : xs.length = n) (hk : k < n) : (mk k0 k ++ xs.drop k).set k (.int .i64 ((k0 + k : Nat) : Int)) = mk k0 (k + 1) ++ xs.drop (k + 1) := by
  have e1 : xs.drop k = xs[k]'(by omega) :: xs.drop (k + 1) := List.drop_eq_getElem_cons (by omega)
  rw [e1, List.set_append_right _ _ (by rw [mk_len]; exact Nat.le_refl _), mk_len, Nat.sub_self, List.set_cons_zero]
  simp [mk, List.range_succ]
end Go.Proofs.YtlabilijnpkmgaaGreatDoor
