/- Drawn tables: some ascending list of facts; and any, one that is no table among them. -/
import Derived.Test.YthfafmafhodlkaaTput
import Derived.Test.YthfafmafhodlkaaAnyFact
namespace Go.Proofs.Ythfafmafhodlkaa
open Go.ChangeShapes Go.WideShapes Go.ChangeAt Go.RowKit
attribute [local go_sem ↓] Go.wp_at_zero Go.wp_at_succ
theorem own_off {rb : Nat} {w w' : World} {base size n : Nat} {e : TypeId} {v : Value} {xs : List Value} (h : w.ownsRow base e size v n xs) (ho : Off rb w w') (hb : rb < base) : w'.ownsRow base e size v n xs := by
  refine ⟨h.1, h.2.imp id ?_⟩
  rintro ⟨g, cap, cur, hv, hg, hh, r⟩
  exact ⟨g, cap, cur, hv, hg, (ho.block g (lt_of_block hh) (by omega)).trans hh, r⟩
/-- some table -/
def TabPost (G : Cd) (B rb p : Nat) (w : World) (r : Ending) (w' : World) : Prop :=
  ∃ (a : Option Addr) (c : Nat) (T : List Fc) (q : Nat), r = .returned (.slice a T.length c) ∧ Value.slice a T.length c ≠ .slice none 0 0 ∧ w'.ownsRow w.heap.size 34 4 (.slice a T.length c) T.length (fl T) ∧ Asc T ∧ T.length ≤ 6 ∧ q ≤ p + 300 ∧ Rd G B rb q w' ∧ Off rb w w'
set_option maxHeartbeats 2000000 in
theorem table_any {G : Cd} (B rb p : Nat) (site : Int) (w : World) (h : Rd G B rb p w) (hp : p < 700000) (hs : site = -1 ∨ (0 ≤ site ∧ site ≤ 1)) :
    Calls Try.prog 45 #[.pointer (some ⟨rb, 0, none⟩), .int .i64 site] w (TabPost G B rb p w) := by
  have hlt := h.lt
  go_enter Try.func45, Try.ntmps45
  go_wp2_with fail
  refine (pick_any B rb p 6 _ (h.alloc _) (by omega)).mono ?_
  rintro r w1 ⟨rfl, ⟨a1, b1⟩, r1, o1⟩
  generalize G.pk p 6 = k0 at *
  obtain ⟨m, rfl⟩ := Int.eq_ofNat_of_zero_le a1
  have hm : m ≤ 5 := by omega
  have O1 := own_off (own_emptyF w w.heap.size (Nat.le_refl _)) o1.off hlt
  have of1 := ((Off.refl rb w).alloc (.cells #[] 34)).trans o1.off
  clear a1 b1 o1
  go_wp2_with fail
  go_loopw [5, 6, 7] (fun v i _ wr => ∃ (k : Nat) (a : Option Addr) (c : Nat) (T : List Fc) (q : Nat), i = .int .i64 k ∧ k ≤ 5 ∧ v = .slice a T.length c ∧ Value.slice a T.length c ≠ .slice none 0 0 ∧ wr.ownsRow w.heap.size 34 4 (.slice a T.length c) T.length (fl T) ∧ Asc T ∧ T.length + k ≤ 5 ∧ q + 40 * k ≤ p + 300 ∧ Rd G B rb q wr ∧ Off rb w wr) (fun _ i _ _ => (intOf i).toNat)
  case atStart => exact ⟨m, _, 0, [], p + 1, rfl, hm, rfl, by simp, O1, List.Pairwise.nil, by simpa using hm, by omega, r1, of1⟩
  case round =>
    obtain ⟨k, a, c, T, q, rfl, hk, rfl, hn, hown, hA, hl, hq, hr, hof⟩ := hrel
    clear O1 of1 r1
    by_cases h0 : 0 < k
    · have i0 : (0 : Int) < (k : Int) := by omega
      have hne : w.heap.size ≤ wr.heap.size := hof.size
      rcases hs with rfl | ⟨s0, s1⟩
      · go_wp2_with fail
        refine (pick_any B rb q 2 _ hr (by omega)).mono ?_
        rintro r w2 ⟨rfl, ⟨a2, b2⟩, r2, o2⟩
        generalize G.pk q 2 = st at *
        have b2' : st ≤ 1 := by omega
        have hown2 := own_off hown o2.off hlt
        have of2 := hof.trans o2.off
        clear b2 o2 hown hof hr
        go_wp2_with fail
        refine (fact_any B rb (q + 1) st _ r2 (by omega) a2 b2').mono ?_
        rintro r w3 ⟨fn, fi, fs, fg, q3, rfl, hq3, r3, o3⟩
        have hown3 := own_off hown2 o3 hlt
        have of3 := of2.trans o3
        clear o3 hown2 of2 r2
        go_wp2_with fail
        refine (l3put_own w.heap.size a c T.length T ⟨fn, fi, fs, fg⟩ _ hown3 hn hA (by omega) of3.size).mono ?_
        rintro r w4 ⟨a4, c4, rfl, hn4, o4, b4⟩
        have hA4 := tput_asc (f := ⟨fn, fi, fs, fg⟩) hA
        have hl4 := tput_len_le T ⟨fn, fi, fs, fg⟩
        have r4 := r3.below b4
        have of4 := of3.trans (Off.ofBelow rb b4)
        clear b4 hown3 of3 r3
        generalize tput T ⟨fn, fi, fs, fg⟩ = T4 at *
        go_wp2
        go_roundw
        case rel => exact ⟨k - 1, a4, c4, T4, q3, by go_num, by omega, rfl, hn4, o4, hA4, by omega, by omega, r4, of4⟩
        case measure => simp [intOf]; omega
      · have i2 : ¬ site < 0 := by omega
        go_wp2_with fail
        refine (fact_any B rb q site _ hr (by omega) s0 s1).mono ?_
        rintro r w3 ⟨fn, fi, fs, fg, q3, rfl, hq3, r3, o3⟩
        have hown3 := own_off hown o3 hlt
        have of3 := hof.trans o3
        clear o3 hown hof hr
        go_wp2_with fail
        refine (l3put_own w.heap.size a c T.length T ⟨fn, fi, fs, fg⟩ _ hown3 hn hA (by omega) of3.size).mono ?_
        rintro r w4 ⟨a4, c4, rfl, hn4, o4, b4⟩
        have hA4 := tput_asc (f := ⟨fn, fi, fs, fg⟩) hA
        have hl4 := tput_len_le T ⟨fn, fi, fs, fg⟩
        have r4 := r3.below b4
        have of4 := of3.trans (Off.ofBelow rb b4)
        clear b4 hown3 of3 r3
        generalize tput T ⟨fn, fi, fs, fg⟩ = T4 at *
        go_wp2
        go_roundw
        case rel => exact ⟨k - 1, a4, c4, T4, q3, by go_num, by omega, rfl, hn4, o4, hA4, by omega, by omega, r4, of4⟩
        case measure => simp [intOf]; omega
    · have i0 : ¬ (0 : Int) < (k : Int) := by omega
      go_wp2
      go_ret
      exact ⟨a, c, T, q, rfl, hn, hown, hA, by omega, by omega, hr, hof⟩
/-- some list of facts -/
def LstPost (G : Cd) (B rb p : Nat) (w : World) (r : Ending) (w' : World) : Prop :=
  ∃ (a : Option Addr) (c : Nat) (T : List Fc) (q : Nat), r = .returned (.slice a T.length c) ∧ Value.slice a T.length c ≠ .slice none 0 0 ∧ w'.ownsRow w.heap.size 34 4 (.slice a T.length c) T.length (fl T) ∧ T.length ≤ 7 ∧ q ≤ p + 400 ∧ Rd G B rb q w' ∧ Off rb w w'
theorem off_grown {rb : Nat} {u w w' : World} {r : Option Nat} (h : Off rb u w) (hg : w.grownBy w' r) (hr : ∀ k, r = some k → u.heap.size ≤ k) : Off rb u w' :=
  ⟨hg.os.trans h.os, hg.tape.trans h.tape, hg.output.trans h.output, Nat.le_trans h.size hg.size, fun k hk hn => (hg.block k (Nat.lt_of_lt_of_le hk h.size) (fun e => by have := hr k e.symm; omega)).trans (h.block k hk hn)⟩
theorem rd_grown {G : Cd} {B rb p : Nat} {w w' : World} {r : Option Nat} (h : Rd G B rb p w) (hg : w.grownBy w' r) (hr : ∀ k, r = some k → B ≤ k ∧ k ≠ rb) : Rd G B rb p w' := by
  obtain ⟨a1, a2, a3, a4, a5, a, cap, hl, a6, hc0, a7⟩ := h
  have hb : ∀ k, k < w.heap.size → (k = rb ∨ k < B) → w'.heap[k]? = w.heap[k]? := fun k hk hh => hg.block k hk (fun e => by have := hr k e.symm; omega)
  have hbr := hb rb a2 (.inl rfl)
  refine ⟨a1, by have := hg.size; omega, a3, ?_, ?_, a, cap, hl, ?_, hc0, ?_⟩
  · exact (World.frozen?_of_block (w := w) (a := ⟨rb, 1, none⟩) hbr).trans a4
  · exact (World.cell?_of_block (w := w) (a := ⟨rb, 1, none⟩) hbr).trans a5
  · exact (World.cell?_of_block (w := w) (a := ⟨rb, 0, none⟩) hbr).trans a6
  · rcases a7 with a7 | ⟨b, off, rfl, hbb, hcc⟩
    · exact .inl a7
    · refine .inr ⟨b, off, rfl, hbb, fun i hi => ?_⟩
      exact (World.cell?_of_block (w := w) (a := ⟨b, off + i, none⟩) (hb b (by omega) (.inr hbb))).trans (hcc i hi)
theorem fl_set1 (T : List Fc) (j : Nat) (s : Int) (h : j < T.length) : fl (T.set j ⟨(T.getD j Fc.zero).n, (T.getD j Fc.zero).i, s, (T.getD j Fc.zero).g⟩) = (fl T).set (j * 4 + 2) (.int .i64 s) := by
  obtain ⟨t0, t1, t2, t3⟩ := fl_get T j h
  rw [fl_set T j _ h]
  apply List.ext_getElem?
  intro i
  have hlen := fl_len T
  simp only [List.getElem?_set, List.length_set]
  by_cases e3 : j * 4 + 3 = i
  · subst e3
    rw [if_pos rfl, if_pos (by omega), if_neg (by omega), t3]
  · rw [if_neg e3]
    by_cases e2 : j * 4 + 2 = i
    · rw [if_pos e2, if_pos e2]
    · rw [if_neg e2, if_neg e2]
      by_cases e1 : j * 4 + 1 = i
      · subst e1
        rw [if_pos rfl, if_pos (by omega), t1]
      · rw [if_neg e1]
        by_cases e0 : j * 4 = i
        · subst e0
          rw [if_pos rfl, if_pos (by omega), t0]
        · rw [if_neg e0]
end Go.Proofs.Ythfafmafhodlkaa
