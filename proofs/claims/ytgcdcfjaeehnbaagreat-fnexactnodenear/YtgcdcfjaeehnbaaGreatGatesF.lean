/- What is left of the text on gateways. -/
import Derived.Test.YtgcdcfjaeehnbaaGreatExVersion
import Derived.Laws.OwnMore
import Derived.Test.YtgcdcfjaeehnbaaGreatGates
namespace Go.Proofs.YtgcdcfjaeehnbaaGreat
open Go.ChangeShapes Go.WideShapes Go.ChangeAt Go.RowKit
attribute [local go_sem ↓] Go.wp_at_zero Go.wp_at_succ
set_option maxHeartbeats 400000 in
theorem toFactS_row (a : Option Addr) (len cap : Nat) (F : Nat → Fc) (w : World) (h : FSl w a len F) (hl : len ≤ 1048576) (hc : len ≤ cap) :
    Calls Tryz.prog 31 #[.slice a len cap] w fun e w' => ∃ b, e = .returned (.slice (some ⟨b, 0, none⟩) len len) ∧ w'.rowIs b 96 (len * 4) (fv F) ∧ w.heap.size ≤ b ∧ Below w.heap.size w w' := by
  have hmk := run_make_facts len hl
  go_enter Tryz.func31, Tryz.ntmps31
  go_wp2
  go_loopw [4] (fun i wr => ∃ k : Nat, k ≤ len ∧ i = .int .i64 k ∧ Below w.heap.size w wr ∧ wr.rowIs w.heap.size 96 (len * 4) (fv fun j => if j < k then F j else Fc.zero)) (fun i _ => len - (intOf i).toNat)
  case atStart => exact ⟨0, Nat.zero_le _, rfl, balloc _ (Below.refl _ _), by simpa using row_made len w⟩
  case round =>
    obtain ⟨k, hk, rfl, hb, hr⟩ := hrel
    clear hmk
    by_cases hlt : k < len
    · obtain ⟨b, off, rfl, hbl, hf⟩ := h (by omega)
      obtain ⟨c0, c1, c2, c3⟩ := (hf.below hb hbl) k hlt
      go_wp2_with fail
      refine (toFact_below _ _ _ _ _).mono ?_
      rintro e w1 ⟨rfl, b1⟩
      have hr1 := row_below hr b1
      have hb1 := btrans hb b1
      have d0 := hr1.cell (i := k * 4) (by omega)
      have d1 := hr1.cell (i := k * 4 + 1) (by omega)
      have d2 := hr1.cell (i := k * 4 + 2) (by omega)
      have d3 := hr1.cell (i := k * 4 + 3) (by omega)
      have f0 := hr1.frozen (k * 4)
      have f1 := hr1.frozen (k * 4 + 1)
      have f2 := hr1.frozen (k * 4 + 2)
      have f3 := hr1.frozen (k * 4 + 3)
      clear hr b1 c0 c1 c2 c3 hb
      go_wp2
      go_roundw
      case rel =>
        refine ⟨k + 1, by omega, by go_num, below_set4 _ _ _ _ hb1 (Nat.le_refl _), (row_put hr1 (F k)).congr fun j _ => ?_⟩
        congr 1
        funext j
        by_cases e : j = k
        · subst e; simp
        · have : j < k + 1 ↔ j < k := by omega
          simp [e, this]
      case measure => simp [intOf]; omega
    · go_wp2
      go_ret
      have e : k = len := by omega
      subst e
      refine ⟨w.heap.size, rfl, hr.congr fun j hj => ?_, Nat.le_refl _, hb⟩
      have : j / 4 < k := by omega
      simp [fv, this]
theorem fsl_row {w : World} {b t n : Nat} {F : Nat → Fc} (h : w.rowIs b t (n * 4) (fv F)) : FSl w (some ⟨b, 0, none⟩) n F := fun _ => ⟨b, 0, rfl, h.lt, row_in h⟩
theorem own_mono {w : World} {base base' size n : Nat} {e : TypeId} {v : Value} {xs : List Value} (hbb : base' ≤ base) (h : w.ownsRow base e size v n xs) : w.ownsRow base' e size v n xs := by
  refine ⟨h.1, h.2.imp id ?_⟩
  rintro ⟨g, cap, cur, hv, hg, r⟩
  exact ⟨g, cap, cur, hv, Nat.le_trans hbb hg, r⟩
theorem lv_append (L : List Int) (x : Int) : lv (L ++ [x]) = lv L ++ [.int .i64 x] := by simp [lv]
theorem own_list {w : World} {base : Nat} {e : TypeId} {v : Value} {L : List Int} (h : w.ownsRow base e 1 v L.length (lv L)) : ∃ a cap, v = .slice a L.length cap ∧ L.length ≤ cap ∧ ISl w a L.length (fun k => L.getD k 0) := by
  have h0 := h
  rcases h.2 with ⟨rfl, hl⟩ | ⟨g, cap, cur, rfl, hg, hh, hc, _⟩
  · exact ⟨none, 0, by rw [hl], by omega, fun h => by omega⟩
  · refine ⟨_, cap, rfl, hc, fun _ => ⟨g, 0, rfl, lt_of_block hh, fun k hk => ?_⟩⟩
    rw [Nat.zero_add]
    refine (h0.cellAt k (by omega)).trans ?_
    simp [lv, hk]
theorem gsel_le (F : Nat → Fc) (n : Int) : ∀ k, (gsel F n k).length ≤ k
  | 0 => Nat.le_refl _
  | k + 1 => by have := gsel_le F n k; unfold gsel; split <;> simp <;> omega
theorem gsel_full (F : Nat → Fc) (n : Int) (k : Nat) (h : ¬ ((gsel F n k).length : Int) < n) : ∀ j, gsel F n (k + j) = gsel F n k
  | 0 => rfl
  | j + 1 => by
    have ih := gsel_full F n k h j
    show gsel F n (k + j + 1) = _
    rw [gsel, ih, if_neg (fun h' => h h'.1)]
theorem gT_le (len : Nat) (F : Nat → Fc) (n : Int) : (gT len F n).length ≤ len := by unfold gT; split; exact gsel_le F n len; simp
theorem grown_set (w : World) (b o : Nat) (v : Value) : w.grownBy (w.setCell ⟨b, o, none⟩ v) (some b) := ⟨rfl, rfl, rfl, by simp, fun k _ hk => heap_setCell_other w ⟨b, o, none⟩ k v (fun e => hk (by simp [e]))⟩
theorem grown_trans {w1 w2 w3 : World} {r : Option Nat} (h1 : w1.grownBy w2 r) (h2 : w2.grownBy w3 r) : w1.grownBy w3 r := ⟨h2.os.trans h1.os, h2.tape.trans h1.tape, h2.output.trans h1.output, Nat.le_trans h1.size h2.size, fun k hk hr => (h2.block k (Nat.lt_of_lt_of_le hk h1.size) hr).trans (h1.block k hk hr)⟩
set_option maxHeartbeats 2000000 in
theorem markFacts_any (b len cap : Nat) (G : Nat → Value) (k0 : Nat) (w : World) (h : w.rowIs b 96 (len * 4) G) (hl : len ≤ 1048576) (hk0 : k0 ≤ 1048576) :
    Calls Tryz.prog 54 #[.slice (some ⟨b, 0, none⟩) len cap, .int .i64 (k0 : Int)] w fun e w' => e = .returned (.int .i64 ((k0 + len * 4 : Nat) : Int)) ∧ w.grownBy w' (some b) := by
  go_enter Tryz.func54, Tryz.ntmps54
  go_wp2
  go_loopw [1, 5] (fun x i wr => ∃ k : Nat, k ≤ len ∧ i = .int .i64 k ∧ x = .int .i64 ((k0 + k * 4 : Nat) : Int) ∧ w.grownBy wr (some b) ∧ ∃ G, wr.rowIs b 96 (len * 4) G) (fun _ i _ => len - (intOf i).toNat)
  case atStart => exact ⟨0, Nat.zero_le _, rfl, rfl, World.grownBy.refl _ _, G, h⟩
  case round =>
    obtain ⟨k, hk, rfl, rfl, hg, G, hr⟩ := hrel
    by_cases hlt : k < len
    · have i0 : (0 : Int) ≤ (k : Int) := by omega
      have i1 : (k : Int) < (len : Int) := by omega
      have d0 := hr.cell (i := k * 4) (by omega)
      have d1 := hr.cell (i := k * 4 + 1) (by omega)
      have d2 := hr.cell (i := k * 4 + 2) (by omega)
      have d3 := hr.cell (i := k * 4 + 3) (by omega)
      have f0 := hr.frozen (k * 4)
      have f1 := hr.frozen (k * 4 + 1)
      have f2 := hr.frozen (k * 4 + 2)
      have f3 := hr.frozen (k * 4 + 3)
      go_wp2
      go_roundw
      case rel => exact ⟨k + 1, by omega, by go_num, by go_num, grown_trans (grown_trans (grown_trans (grown_trans hg (grown_set _ _ _ _)) (grown_set _ _ _ _)) (grown_set _ _ _ _)) (grown_set _ _ _ _), _, (((hr.set _ _).set _ _).set _ _).set _ _⟩
      case measure => simp [intOf]; omega
    · go_wp2
      go_ret
      have e : k = len := by omega
      subst e
      exact ⟨rfl, hg⟩
theorem own_shape {w : World} {base : Nat} {e : TypeId} {v : Value} {n : Nat} {xs : List Value} (h : w.ownsRow base e 1 v n xs) : (v = .slice none 0 0 ∧ n = 0) ∨ ∃ g cap, v = .slice (some ⟨g, 0, none⟩) n cap ∧ base ≤ g := by
  rcases h.2 with ⟨rfl, hn⟩ | ⟨g, cap, cur, rfl, hg, _⟩
  · exact .inl ⟨rfl, hn⟩
  · exact .inr ⟨g, cap, rfl, hg⟩
theorem mk_len (k0 n : Nat) : (mk k0 n).length = n := by simp [mk]
theorem mk_set (k0 k n : Nat) (xs : List Value) (hx : xs.length = n) (hk : k < n) : (mk k0 k ++ xs.drop k).set k (.int .i64 ((k0 + k : Nat) : Int)) = mk k0 (k + 1) ++ xs.drop (k + 1) := by
  have e1 : xs.drop k = xs[k]'(by omega) :: xs.drop (k + 1) := List.drop_eq_getElem_cons (by omega)
  rw [e1, List.set_append_right _ _ (by rw [mk_len]; exact Nat.le_refl _), mk_len, Nat.sub_self, List.set_cons_zero]
  simp [mk, List.range_succ]
set_option maxHeartbeats 2000000 in
theorem markInts_any (base g n cap : Nat) (xs : List Value) (k0 : Nat) (w : World) (h : w.ownsRow base 3 1 (.slice (some ⟨g, 0, none⟩) n cap) n xs) (hl : n ≤ 1048576) (hk0 : k0 ≤ 1048576) :
    Calls Tryz.prog 21 #[.slice (some ⟨g, 0, none⟩) n cap, .int .i64 (k0 : Int)] w fun e w' => e = .returned (.int .i64 ((k0 + n : Nat) : Int)) ∧ w'.ownsRow base 3 1 (.slice (some ⟨g, 0, none⟩) n cap) n (mk k0 n) ∧ w.grownBy w' (some g) := by
  have hx : xs.length = n := by have := h.1; omega
  go_enter Tryz.func21, Tryz.ntmps21
  go_wp2
  go_loopw [1, 5] (fun x i wr => ∃ k : Nat, k ≤ n ∧ i = .int .i64 k ∧ x = .int .i64 ((k0 + k : Nat) : Int) ∧ w.grownBy wr (some g) ∧ wr.ownsRow base 3 1 (.slice (some ⟨g, 0, none⟩) n cap) n (mk k0 k ++ xs.drop k)) (fun _ i _ => n - (intOf i).toNat)
  case atStart => exact ⟨0, Nat.zero_le _, rfl, rfl, World.grownBy.refl _ _, by simpa [mk] using h⟩
  case round =>
    obtain ⟨k, hk, rfl, rfl, hg, hr⟩ := hrel
    by_cases hlt : k < n
    · have i0 : (0 : Int) ≤ (k : Int) := by omega
      have i1 : (k : Int) < (n : Int) := by omega
      obtain ⟨u, d0⟩ : ∃ u, wr.cell? ⟨g, k, none⟩ = some u := ⟨_, (hr.cellAt k (by omega)).trans (List.getElem?_eq_getElem (by simp [mk_len]; omega))⟩
      have f0 := hr.frozenAt k
      have hst := hr.stored k (.int .i64 ((k0 + k : Nat) : Int))
      rw [mk_set k0 k n xs hx hlt] at hst
      obtain ⟨o1, g1⟩ := hst
      clear hr
      go_wp2
      go_roundw
      case rel => exact ⟨k + 1, by omega, by go_num, by go_num, grown_trans hg g1, o1⟩
      case measure => simp [intOf]; omega
    · go_wp2
      go_ret
      have e : k = n := by omega
      subst e
      rw [List.drop_of_length_le (by omega), List.append_nil] at hr
      exact ⟨rfl, hr, hg⟩
theorem markInts_nil (k0 : Nat) (w : World) :
    Calls Tryz.prog 21 #[.slice none 0 0, .int .i64 (k0 : Int)] w fun e w' => e = .returned (.int .i64 (k0 : Int)) ∧ w' = w := by
  go_enter Tryz.func21, Tryz.ntmps21
  go_wp2
  refine wp_loop_rounds 1 ?_
  rw [rounds_succ]
  go_wp2
  go_ret
  exact ⟨rfl, rfl⟩
set_option maxHeartbeats 2000000 in
theorem heldInts_any (a : Option Addr) (n cap : Nat) (k0 : Nat) (w : World) (h : ISl w a n (fun j => ((k0 + j : Nat) : Int))) (hl : n ≤ 1048576) (hk0 : k0 ≤ 1048576) :
    Calls Tryz.prog 22 #[.slice a n cap, .int .i64 (k0 : Int)] w fun e w' => e = .returned (.int .i64 ((k0 + n : Nat) : Int)) ∧ w' = w := by
  go_enter Tryz.func22, Tryz.ntmps22
  go_wp2
  go_loopw [1, 5] (fun x i wr => ∃ k : Nat, k ≤ n ∧ i = .int .i64 k ∧ x = .int .i64 ((k0 + k : Nat) : Int) ∧ wr = w) (fun _ i _ => n - (intOf i).toNat)
  case atStart => exact ⟨0, Nat.zero_le _, rfl, rfl, rfl⟩
  case round =>
    obtain ⟨k, hk, rfl, rfl, rfl⟩ := hrel
    by_cases hlt : k < n
    · have i0 : (0 : Int) ≤ (k : Int) := by omega
      have i1 : (k : Int) < (n : Int) := by omega
      obtain ⟨b, off, rfl, hbl, hf⟩ := h (by omega)
      have d0 := hf k hlt
      go_wp2
      go_roundw
      case rel => exact ⟨k + 1, by omega, by go_num, by go_num, by simp⟩
      case measure => simp [intOf]; omega
    · go_wp2
      go_ret
      have e : k = n := by omega
      subst e
      exact ⟨rfl, rfl⟩
end Go.Proofs.YtgcdcfjaeehnbaaGreat
