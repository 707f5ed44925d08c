/- Marks in lists of items of their own. -/
import Derived.Test.YthfafmafhodlkaaIInv
namespace Go.Proofs.Ythfafmafhodlkaa.I
open Go.ChangeShapes Go.WideShapes Go.ChangeAt Go.RowKit
attribute [local go_sem ↓] Go.wp_at_zero Go.wp_at_succ
theorem fl_set (T : List It) : ∀ (j : Nat) (f : It), j < T.length → fl (T.set j f) = (((((fl T).set (j * 5) (.int .i64 f.n)).set (j * 5 + 1) (.int .i64 f.i)).set (j * 5 + 2) (.int .i64 f.s)).set (j * 5 + 3) (.bool f.g)).set (j * 5 + 4) (.int .i64 f.l) := by
  induction T with
  | nil => intro j f h; simp at h
  | cons g r ih =>
    intro j f h
    have e : ∀ (g : It) (r : List It), fl (g :: r) = .int .i64 g.n :: .int .i64 g.i :: .int .i64 g.s :: .bool g.g :: .int .i64 g.l :: fl r := fun g r => by simp [fl]
    match j, h with
    | 0, _ => rw [List.set_cons_zero, e, e]; rfl
    | j + 1, h =>
      rw [List.set_cons_succ, e, e, ih j f (by simpa using h), show (j + 1) * 5 = j * 5 + 5 by omega]
      rfl
/-- a mark -/
def mkf (k : Int) : It := ⟨k, k + 1, k + 1 + 1, (k + 1 + 1 + 1) % 3 == 0, k + 1 + 1 + 1 + 1⟩
def mkF (k0 n : Nat) : List It := (List.range n).map fun (j : Nat) => mkf ((k0 : Int) + (j : Int) * 5)
theorem mkF_len (k0 n : Nat) : (mkF k0 n).length = n := by simp [mkF]
theorem mkF_set (k0 k n : Nat) (T : List It) (hT : T.length = n) (hk : k < n) : (mkF k0 k ++ T.drop k).set k (mkf ((k0 : Int) + (k : Int) * 5)) = mkF k0 (k + 1) ++ T.drop (k + 1) := by
  have e1 : T.drop k = T[k]'(by omega) :: T.drop (k + 1) := List.drop_eq_getElem_cons (by omega)
  rw [e1, List.set_append_right _ _ (by rw [mkF_len]; exact Nat.le_refl _), mkF_len, Nat.sub_self, List.set_cons_zero]
  simp [mkF, List.range_succ]
set_option maxRecDepth 20000 in
set_option maxHeartbeats 2000000 in
theorem markF_any (base g n cap : Nat) (T : List It) (k0 : Nat) (w : World) (h : w.ownsRow base 36 5 (.slice (some ⟨g, 0, none⟩) n cap) n (fl T)) (hl : n ≤ 1048576) (hk0 : k0 ≤ 1048576) :
    Calls Try.prog 17 #[.slice (some ⟨g, 0, none⟩) n cap, .int .i64 (k0 : Int)] w fun e w' => e = .returned (.int .i64 ((k0 + n * 5 : Nat) : Int)) ∧ w'.ownsRow base 36 5 (.slice (some ⟨g, 0, none⟩) n cap) n (fl (mkF k0 n)) ∧ w.grownBy w' (some g) := by
  have hT : T.length = n := by have := h.1; rw [fl_len] at this; omega
  go_enter Try.func17, Try.ntmps17
  go_wp2
  go_loopw [1, 5] (fun x i wr => ∃ k : Nat, k ≤ n ∧ i = .int .i64 k ∧ x = .int .i64 ((k0 + k * 5 : Nat) : Int) ∧ w.grownBy wr (some g) ∧ wr.ownsRow base 36 5 (.slice (some ⟨g, 0, none⟩) n cap) n (fl (mkF k0 k ++ T.drop k))) (fun _ i _ => n - (intOf i).toNat)
  case atStart => exact ⟨0, Nat.zero_le _, rfl, rfl, World.grownBy.refl _ _, by simpa [mkF] using h⟩
  case round =>
    obtain ⟨k, hk, rfl, rfl, hg, hr⟩ := hrel
    by_cases hlt : k < n
    · have i0 : (0 : Int) ≤ (k : Int) := by omega
      have i1 : (k : Int) < (n : Int) := by omega
      have hl2 : (mkF k0 k ++ T.drop k).length = n := by simp [mkF_len, hT]; omega
      obtain ⟨t0, t1, t2, t3, t4⟩ := fl_get (mkF k0 k ++ T.drop k) k (by omega)
      have c0 := (hr.cellAt (k * 5) (by omega)).trans t0
      have c1 := (hr.cellAt (k * 5 + 1) (by omega)).trans t1
      have c2 := (hr.cellAt (k * 5 + 2) (by omega)).trans t2
      have c3 := (hr.cellAt (k * 5 + 3) (by omega)).trans t3
      have c4 := (hr.cellAt (k * 5 + 4) (by omega)).trans t4
      have f0 := hr.frozenAt (k * 5)
      have f4 := hr.frozenAt (k * 5 + 4)
      have f1 := hr.frozenAt (k * 5 + 1)
      have f2 := hr.frozenAt (k * 5 + 2)
      have f3 := hr.frozenAt (k * 5 + 3)
      obtain ⟨a0, b0⟩ := hr.stored (k * 5) (.int .i64 (mkf ((k0 : Int) + (k : Int) * 5)).n)
      obtain ⟨a1, b1⟩ := a0.stored (k * 5 + 1) (.int .i64 (mkf ((k0 : Int) + (k : Int) * 5)).i)
      obtain ⟨a2, b2⟩ := a1.stored (k * 5 + 2) (.int .i64 (mkf ((k0 : Int) + (k : Int) * 5)).s)
      obtain ⟨a3, b3⟩ := a2.stored (k * 5 + 3) (.bool (mkf ((k0 : Int) + (k : Int) * 5)).g)
      obtain ⟨a4, b4⟩ := a3.stored (k * 5 + 4) (.int .i64 (mkf ((k0 : Int) + (k : Int) * 5)).l)
      rw [← fl_set _ k (mkf ((k0 : Int) + (k : Int) * 5)) (by omega), mkF_set k0 k n T hT hlt] at a4
      have gg := grown_trans (grown_trans (grown_trans (grown_trans (grown_trans hg b0) b1) b2) b3) b4
      clear t0 t1 t2 t3 t4 a0 a1 a2 a3 b0 b1 b2 b3 b4 hr hg
      go_wp2
      go_roundw
      case rel => exact ⟨k + 1, by omega, by go_num, by go_num, gg, a4⟩
      case measure => simp [intOf]; omega
    · go_wp2
      go_ret
      have e : k = n := by omega
      subst e
      rw [List.drop_of_length_le (by omega), List.append_nil] at hr
      exact ⟨rfl, hr, hg⟩
theorem markF_nil (k0 : Nat) (w : World) :
    Calls Try.prog 17 #[.slice none 0 0, .int .i64 (k0 : Int)] w fun e w' => e = .returned (.int .i64 (k0 : Int)) ∧ w' = w := by
  go_enter Try.func17, Try.ntmps17
  go_wp2
  refine wp_loop_rounds 1 ?_
  rw [rounds_succ]
  go_wp2
  go_ret
  exact ⟨rfl, rfl⟩
theorem markF_own (base n cap : Nat) (a : Option Addr) (T : List It) (k0 : Nat) (w : World) (h : w.ownsRow base 36 5 (.slice a n cap) n (fl T)) (hl : n ≤ 1048576) (hk0 : k0 ≤ 1048576) :
    Calls Try.prog 17 #[.slice a n cap, .int .i64 (k0 : Int)] w fun e w' => e = .returned (.int .i64 ((k0 + n * 5 : Nat) : Int)) ∧ w'.ownsRow base 36 5 (.slice a n cap) n (fl (mkF k0 n)) ∧ w.grownBy w' (Value.slice a n cap).ownBlock := by
  rcases own_sliceF h with ⟨e, rfl⟩ | ⟨g, c, e, _⟩
  · simp only [Value.slice.injEq, true_and] at e
    obtain ⟨rfl, rfl⟩ := e
    exact (markF_nil k0 w).mono (by rintro r w' ⟨rfl, rfl⟩; exact ⟨rfl, World.ownsRow_nil w' base 36 5, World.grownBy.refl _ _⟩)
  · simp only [Value.slice.injEq, true_and] at e
    obtain ⟨rfl, rfl⟩ := e
    exact markF_any base g n cap T k0 w h hl hk0
set_option maxRecDepth 20000 in
set_option maxHeartbeats 2000000 in
theorem heldF_any (a : Option Addr) (n cap : Nat) (k0 : Nat) (w : World) (h : TSl w a n (fun j => mkf ((k0 : Int) + (j : Int) * 5))) (hl : n ≤ 1048576) (hk0 : k0 ≤ 1048576) :
    Calls Try.prog 20 #[.slice a n cap, .int .i64 (k0 : Int)] w fun e w' => e = .returned (.int .i64 ((k0 + n * 5 : Nat) : Int)) ∧ w' = w := by
  go_enter Try.func20, Try.ntmps20
  go_wp2
  go_loopw [1, 5] (fun x i wr => ∃ k : Nat, k ≤ n ∧ i = .int .i64 k ∧ x = .int .i64 ((k0 + k * 5 : Nat) : Int) ∧ wr = w) (fun _ i _ => n - (intOf i).toNat)
  case atStart => exact ⟨0, Nat.zero_le _, rfl, rfl, rfl⟩
  case round =>
    obtain ⟨k, hk, rfl, rfl, rfl⟩ := hrel
    by_cases hlt : k < n
    · have i0 : (0 : Int) ≤ (k : Int) := by omega
      have i1 : (k : Int) < (n : Int) := by omega
      obtain ⟨b, off, rfl, hbl, hf⟩ := h (by omega)
      obtain ⟨d0, d1, d2, d3, d4⟩ := hf k hlt
      simp only [mkf] at d0 d1 d2 d3 d4
      have e0 : ((((k0 : Int) + (k : Int) * 5 + 1 + 1 + 1) % 3 == 0) != (((k0 : Int) + (k : Int) * 5 + 1 + 1 + 1) % 3 == 0)) = false := by simp
      go_wp2
      go_roundw
      case rel => exact ⟨k + 1, by omega, by go_num, by go_num, by simp⟩
      case measure => simp [intOf]; omega
    · go_wp2
      go_ret
      have e : k = n := by omega
      subst e
      exact ⟨rfl, rfl⟩
/-- what was marked is held -/
theorem own_held {w : World} {base k0 n cap : Nat} {a : Option Addr} (h : w.ownsRow base 36 5 (.slice a n cap) n (fl (mkF k0 n))) : TSl w a n (fun j => mkf ((k0 : Int) + (j : Int) * 5)) := by
  obtain ⟨a', c', e, _, _, hF⟩ := own_facts h
  simp only [Value.slice.injEq, true_and] at e
  obtain ⟨rfl, rfl⟩ := e
  intro hn
  obtain ⟨b, off, e, hb, hf⟩ := hF hn
  refine ⟨b, off, e, hb, fun k hk => ?_⟩
  have := hf k hk
  have e2 : (mkF k0 n).getD k It.zero = mkf ((k0 : Int) + (k : Int) * 5) := by simp [mkF, List.getD, hk]
  simp only [e2] at this
  exact this
end Go.Proofs.Ythfafmafhodlkaa.I
