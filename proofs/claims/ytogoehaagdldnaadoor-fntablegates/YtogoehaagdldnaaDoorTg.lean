/- A drawn table and how many; lists of numbers held against each other; which gateways are chosen. -/
import Derived.Test.YtogoehaagdldnaaDoorGatesX
import Derived.Test.YtogoehaagdldnaaDoorExText
import Derived.Test.YtogoehaagdldnaaDoorDrawTab
namespace Go.Proofs.YtogoehaagdldnaaDoor
open Go.ChangeShapes Go.WideShapes Go.ChangeAt Go.RowKit
attribute [local go_sem ↓] Go.wp_at_zero Go.wp_at_succ
/-- a list of facts and a number -/
def TGPost (w : World) (r : Ending) (w' : World) : Prop :=
  ∃ (a : Option Addr) (n c : Nat) (F : Nat → Fc) (x : Int), r = .returned (.tuple #[.slice a n c, .int .i64 x]) ∧ FSl w' a n F ∧ n ≤ 8 ∧ Below w.heap.size w w'
set_option maxRecDepth 20000 in
set_option maxHeartbeats 4000000 in
theorem drawTG_any (a : Option Addr) (len cap : Nat) (w : World) (h : Bytes w.heap.size w a len) (hl : len ≤ cap) :
    Calls Tryd.prog 6 #[.slice a len cap] w (TGPost w) := by
  go_enter Tryd.func6, Tryd.ntmps6
  go_wp2_with fail
  refine (open_any w.heap.size a len cap _ (Nat.le_refl _) h hl).mono ?_
  rintro r w1 ⟨rfl, ⟨C, r1⟩, B1, z1⟩
  have r1lt := r1.lt
  go_wp2_with fail
  refine (anyTable_any w.heap.size w.heap.size 0 _ r1 (by omega)).mono ?_
  rintro r w2 ⟨a2, c2, T, q, rfl, hn, o2, hT, hq, r2, f2⟩
  have s2 := f2.size
  clear r1
  rcases own_sliceF o2 with ⟨e, _⟩ | ⟨g, cc, e, hg1, hg2, hg3⟩
  · exact absurd e hn
  simp only [Value.slice.injEq, true_and] at e
  obtain ⟨rfl, rfl⟩ := e
  obtain ⟨n, hTn⟩ : ∃ n, T.length = n := ⟨_, rfl⟩
  rw [hTn] at o2 hn hT hg3 ⊢
  have ngr : g ≠ w.heap.size := by omega
  go_wp2_with fail
  go_loopw [6] (fun i wr => ∃ (k : Nat) (X : List Fc), k ≤ n ∧ i = .int .i64 k ∧ Hid (X.length = n) ∧ wr.ownsRow w1.heap.size 32 4 (.slice (some ⟨g, 0, none⟩) n c2) n (fl X) ∧ Rd C w.heap.size w.heap.size (q + k) wr ∧ Off w.heap.size w1 wr) (fun i _ => n - (intOf i).toNat)
  case atStart => exact ⟨0, T, Nat.zero_le _, rfl, hTn, o2, r2, f2⟩
  case round =>
    obtain ⟨k, X, hk, rfl, hXn, o3, r3, f3⟩ := hrel
    clear o2 r2 f2 hTn
    by_cases hlt : k < n
    · have j0 : (0 : Int) ≤ (k : Int) := by omega
      have j1 : (k : Int) < (n : Int) := by omega
      go_wp2_with fail
      refine (pick_any w.heap.size w.heap.size (q + k) 2 _ r3 (by omega)).mono ?_
      rintro r w4 ⟨rfl, hpk, r4, f4⟩
      have o4 := own_off o3 f4.off (by omega)
      have of4 := f3.trans f4.off
      clear f4 o3 f3 r3 hpk
      generalize C.pk (q + k) 2 = v at *
      by_cases hv : v = 0
      · subst hv
        have hkx : k < X.length := by rw [hXn.out]; exact hlt
        obtain ⟨_, _, t2, _⟩ := fl_get X k hkx
        have c2' := (o4.cellAt (k * 4 + 2) (by omega)).trans t2
        have zz := o4.frozenAt (k * 4 + 2)
        obtain ⟨x2, y2⟩ := o4.stored (k * 4 + 2) (.int .i64 1)
        have es := fl_set1 X k 1 hkx
        rw [← es] at x2
        have rs := r4.set g (k * 4 + 2) (.int .i64 1) ngr (by omega)
        have os := of4.set g (k * 4 + 2) (.int .i64 1) hg1
        have hl5 : Hid ((X.set k ⟨(X.getD k Fc.zero).n, (X.getD k Fc.zero).i, 1, (X.getD k Fc.zero).g⟩).length = n) := by unfold Hid; simp [hXn.out]
        clear t2 y2 es o4 of4 r4
        generalize X.set k ⟨(X.getD k Fc.zero).n, (X.getD k Fc.zero).i, 1, (X.getD k Fc.zero).g⟩ = X5 at *
        go_wp2
        go_roundw
        case rel => exact ⟨k + 1, X5, by omega, by go_num, hl5, x2, rs, os⟩
        case measure => simp [intOf]; omega
      · have e0 : (v == 0) = false := by simp [hv]
        go_wp2
        go_roundw
        case rel => exact ⟨k + 1, X, by omega, by go_num, hXn, o4, r4, of4⟩
        case measure => simp [intOf]; omega
    · go_wp2_with fail
      refine (pick_any w.heap.size w.heap.size (q + k) 6 _ r3 (by omega)).mono ?_
      rintro r w4 ⟨rfl, hpk, r4, f4⟩
      have o4 := own_off o3 f4.off (by omega)
      have of4 := f3.trans f4.off
      have B4 := Off.belowAll B1 of4 (Nat.le_refl _)
      clear f4 o3 f3 r3
      have hr : IntKind.i64.wrap (C.pk (q + k) 6 - 1) = C.pk (q + k) 6 - 1 := by rw [IntKind.wrap_i64]; omega
      generalize C.pk (q + k) 6 = v at *
      obtain ⟨x2, d2, e2, _, _, h2⟩ := own_facts o4
      simp only [Value.slice.injEq, true_and] at e2
      obtain ⟨rfl, rfl⟩ := e2
      go_wp2
      exact bodyPost_ret (v := .tuple #[.slice (some ⟨g, 0, none⟩) n c2, .int .i64 (v - 1)]) (by simp [results, Tryd.results6, go_sem]) rfl ⟨_, _, _, _, _, rfl, h2, by omega, B4⟩
set_option maxRecDepth 20000 in
set_option maxHeartbeats 2000000 in
theorem lhi_same (a a' : Option Addr) (len cap cap' : Nat) (f : Nat → Int) (w : World) (h : ISl w a len f) (h' : ISl w a' len f) (hl : len ≤ 1048576) :
    Calls Tryd.prog 8 #[.slice a len cap, .slice a' len cap'] w fun e w' => e = .returned (.bool true) ∧ Below w.heap.size w w' := by
  go_enter Tryd.func8, Tryd.ntmps8
  go_wp2
  go_loopw [5] (fun i wr => ∃ k : Nat, k ≤ len ∧ i = .int .i64 k ∧ Below w.heap.size w wr) (fun i _ => len - (intOf i).toNat)
  case atStart => exact ⟨0, Nat.zero_le _, rfl, Below.refl _ _⟩
  case round =>
    obtain ⟨k, hk, rfl, hb⟩ := hrel
    by_cases hlt : k < len
    · obtain ⟨b, off, rfl, hbl, hf⟩ := h (by omega)
      have c0 := (hb.cell (p := ⟨b, off + k, none⟩) hbl).trans (hf k hlt)
      obtain ⟨b', off', rfl, hbl', hf'⟩ := h' (by omega)
      have d0 := (hb.cell (p := ⟨b', off' + k, none⟩) hbl').trans (hf' k hlt)
      have i0 : (0 : Int) ≤ (k : Int) := by omega
      have i1 : (k : Int) < (len : Int) := by omega
      go_wp2_with fail
      go_quiet (fail)
      go_wp2
      go_roundw
      case rel => exact ⟨k + 1, by omega, by go_num, QB hb⟩
      case measure => simp [intOf]; omega
    · go_wp2
      go_ret
      exact ⟨rfl, hb⟩
/-- which are chosen, numbers alone -/
theorem gsel_pre (F : Nat → Fc) (n : Int) (i : Nat) : ∀ d, ∃ R, gsel F n (i + d) = gsel F n i ++ R ∧ ∀ x ∈ R, ∃ j, i ≤ j ∧ j < i + d ∧ x = (F j).n
  | 0 => ⟨[], by simp, by simp⟩
  | d + 1 => by
    obtain ⟨R, h1, h2⟩ := gsel_pre F n i d
    show ∃ R, gsel F n (i + d + 1) = _ ∧ _
    simp only [gsel]
    split
    · refine ⟨R ++ [(F (i + d)).n], by rw [h1, List.append_assoc], fun x hx => ?_⟩
      rcases List.mem_append.1 hx with hx | hx
      · obtain ⟨j, a1, a2, a3⟩ := h2 x hx
        exact ⟨j, a1, by omega, a3⟩
      · simp at hx
        exact ⟨i + d, by omega, by omega, hx⟩
    · refine ⟨R, h1, fun x hx => ?_⟩
      obtain ⟨j, a1, a2, a3⟩ := h2 x hx
      exact ⟨j, a1, by omega, a3⟩
theorem gsel_few (F : Nat → Fc) (n : Int) : ∀ k, 0 < (gsel F n k).length → ((gsel F n k).length : Int) ≤ n
  | 0, h => by simp [gsel] at h
  | k + 1, h => by
    simp only [gsel] at h ⊢
    split
    · rename_i c
      simp only [List.length_append, List.length_cons, List.length_nil]
      omega
    · rename_i c
      rw [if_neg c] at h
      exact gsel_few F n k h
/-- one step of the law's loop -/
theorem gsel_step {F : Nat → Fc} {n : Int} {len i : Nat} (hi : i < len) (hasc : ∀ j k, j < k → k < len → (F j).n < (F k).n) (g : Nat) (hg : (gsel F n i).length = g) (L : List Int) (hL : gsel F n len = L) :
    (g < L.length ∧ L.getD g 0 = (F i).n ∧ (F i).g = true ∧ (F i).s = 1 ∧ (gsel F n (i + 1)).length = g + 1) ∨
    ((¬ g < L.length ∨ L.getD g 0 ≠ (F i).n) ∧ ¬ ((F i).g = true ∧ (F i).s = 1 ∧ (L.length : Int) < n) ∧ (gsel F n (i + 1)).length = g) := by
  obtain ⟨d, rfl⟩ : ∃ d, len = i + 1 + d := ⟨len - (i + 1), by omega⟩
  obtain ⟨R, h1, h2⟩ := gsel_pre F n (i + 1) d
  rw [hL] at h1
  by_cases c : ((gsel F n i).length : Int) < n ∧ (F i).g = true ∧ (F i).s = 1
  · have e : gsel F n (i + 1) = gsel F n i ++ [(F i).n] := by simp only [gsel]; rw [if_pos c]
    refine .inl ⟨?_, ?_, c.2.1, c.2.2, by rw [e]; simp [hg]⟩
    · rw [h1, e]
      simp
      omega
    · rw [h1, e, ← hg]
      simp [List.getD]
  · have e : gsel F n (i + 1) = gsel F n i := by simp only [gsel]; rw [if_neg c]
    refine .inr ⟨?_, fun z => ?_, by rw [e, hg]⟩
    · by_cases hlt : g < L.length
      · refine .inr ?_
        rw [h1, e, ← hg] at hlt ⊢
        simp at hlt
        obtain ⟨x, r, hR⟩ : ∃ x r, R = x :: r := by
          cases R with
          | nil => simp at hlt
          | cons x r => exact ⟨x, r, rfl⟩
        have hx := h2 x (by rw [hR]; simp)
        obtain ⟨j, a1, a2, a3⟩ := hx
        have hv : (gsel F n i ++ R).getD (gsel F n i).length 0 = x := by rw [hR]; simp [List.getD]
        rw [hv, a3]
        have := hasc i j (by omega) (by omega)
        omega
      · exact .inl hlt
    · have hfull : ¬ ((gsel F n i).length : Int) < n := fun q => c ⟨q, z.1, z.2.1⟩
      have := gsel_full F n i hfull (1 + d)
      rw [← Nat.add_assoc, hL] at this
      have h3 := z.2.2
      rw [this] at h3
      exact hfull h3
end Go.Proofs.YtogoehaagdldnaaDoor
