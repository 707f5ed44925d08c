/- Marks in lists of facts of their own. -/
import Derived.Test.YthfafmafhodlkaaTput
namespace Go.Proofs.Ythfafmafhodlkaa
open Go.ChangeShapes Go.WideShapes Go.ChangeAt Go.RowKit
attribute [local go_sem ↓] Go.wp_at_zero Go.wp_at_succ
/-- a mark -/
def mkf (k : Int) : Fc := ⟨k, k + 1, k + 1 + 1, (k + 1 + 1 + 1) % 3 == 0⟩
def mkF (k0 n : Nat) : List Fc := (List.range n).map fun (j : Nat) => mkf ((k0 : Int) + (j : Int) * 4)
set_option maxRecDepth 20000 in
theorem mkF_len (k0 n : Nat) : (mkF k0 n).length = n := by simp [mkF]
set_option maxRecDepth 20000 in
theorem mkF_set (k0 k n : Nat) (T : List Fc) (hT : T.length = n) (hk : k < n) : (mkF k0 k ++ T.drop k).set k (mkf ((k0 : Int) + (k : Int) * 4)) = mkF k0 (k + 1) ++ T.drop (k + 1) := by
  have e1 : T.drop k = T[k]'(by omega) :: T.drop (k + 1) := List.drop_eq_getElem_cons (by omega)
  rw [e1, List.set_append_right _ _ (by rw [mkF_len]; exact Nat.le_refl _), mkF_len, Nat.sub_self, List.set_cons_zero]
  simp [mkF, List.range_succ]
set_option maxRecDepth 20000 in
set_option maxHeartbeats 2000000 in
theorem markF_any (base g n cap : Nat) (T : List Fc) (k0 : Nat) (w : World) (h : w.ownsRow base 34 4 (.slice (some ⟨g, 0, none⟩) n cap) n (fl T)) (hl : n ≤ 1048576) (hk0 : k0 ≤ 1048576) :
    Calls Try.prog 18 #[.slice (some ⟨g, 0, none⟩) n cap, .int .i64 (k0 : Int)] w fun e w' => e = .returned (.int .i64 ((k0 + n * 4 : Nat) : Int)) ∧ w'.ownsRow base 34 4 (.slice (some ⟨g, 0, none⟩) n cap) n (fl (mkF k0 n)) ∧ w.grownBy w' (some g) := by
  have hT : T.length = n := by have := h.1; rw [fl_len] at this; omega
  go_enter Try.func18, Try.ntmps18
  go_wp2
  go_loopw [1, 5] (fun x i wr => ∃ k : Nat, k ≤ n ∧ i = .int .i64 k ∧ x = .int .i64 ((k0 + k * 4 : Nat) : Int) ∧ w.grownBy wr (some g) ∧ wr.ownsRow base 34 4 (.slice (some ⟨g, 0, none⟩) n cap) n (fl (mkF k0 k ++ T.drop k))) (fun _ i _ => n - (intOf i).toNat)
  case atStart => exact ⟨0, Nat.zero_le _, rfl, rfl, World.grownBy.refl _ _, by simpa [mkF] using h⟩
  case round =>
    obtain ⟨k, hk, rfl, rfl, hg, hr⟩ := hrel
    by_cases hlt : k < n
    · have i0 : (0 : Int) ≤ (k : Int) := by omega
      have i1 : (k : Int) < (n : Int) := by omega
      have hl2 : (mkF k0 k ++ T.drop k).length = n := by simp [mkF_len, hT]; omega
      obtain ⟨t0, t1, t2, t3⟩ := fl_get (mkF k0 k ++ T.drop k) k (by omega)
      have c0 := (hr.cellAt (k * 4) (by omega)).trans t0
      have c1 := (hr.cellAt (k * 4 + 1) (by omega)).trans t1
      have c2 := (hr.cellAt (k * 4 + 2) (by omega)).trans t2
      have c3 := (hr.cellAt (k * 4 + 3) (by omega)).trans t3
      have f0 := hr.frozenAt (k * 4)
      have f1 := hr.frozenAt (k * 4 + 1)
      have f2 := hr.frozenAt (k * 4 + 2)
      have f3 := hr.frozenAt (k * 4 + 3)
      obtain ⟨a0, b0⟩ := hr.stored (k * 4) (.int .i64 (mkf ((k0 : Int) + (k : Int) * 4)).n)
      obtain ⟨a1, b1⟩ := a0.stored (k * 4 + 1) (.int .i64 (mkf ((k0 : Int) + (k : Int) * 4)).i)
      obtain ⟨a2, b2⟩ := a1.stored (k * 4 + 2) (.int .i64 (mkf ((k0 : Int) + (k : Int) * 4)).s)
      obtain ⟨a3, b3⟩ := a2.stored (k * 4 + 3) (.bool (mkf ((k0 : Int) + (k : Int) * 4)).g)
      rw [← fl_set _ k (mkf ((k0 : Int) + (k : Int) * 4)) (by omega), mkF_set k0 k n T hT hlt] at a3
      have gg := grown_trans (grown_trans (grown_trans (grown_trans hg b0) b1) b2) b3
      clear t0 t1 t2 t3 a0 a1 a2 b0 b1 b2 b3 hr hg
      go_wp2
      go_roundw
      case rel => exact ⟨k + 1, by omega, by go_num, by go_num, gg, a3⟩
      case measure => simp [intOf]; omega
    · go_wp2
      go_ret
      have e : k = n := by omega
      subst e
      rw [List.drop_of_length_le (by omega), List.append_nil] at hr
      exact ⟨rfl, hr, hg⟩
set_option maxRecDepth 20000 in
theorem markF_nil (k0 : Nat) (w : World) :
    Calls Try.prog 18 #[.slice none 0 0, .int .i64 (k0 : Int)] w fun e w' => e = .returned (.int .i64 (k0 : Int)) ∧ w' = w := by
  go_enter Try.func18, Try.ntmps18
  go_wp2
  refine wp_loop_rounds 1 ?_
  rw [rounds_succ]
  go_wp2
  go_ret
  exact ⟨rfl, rfl⟩
set_option maxRecDepth 20000 in
theorem markF_own (base n cap : Nat) (a : Option Addr) (T : List Fc) (k0 : Nat) (w : World) (h : w.ownsRow base 34 4 (.slice a n cap) n (fl T)) (hl : n ≤ 1048576) (hk0 : k0 ≤ 1048576) :
    Calls Try.prog 18 #[.slice a n cap, .int .i64 (k0 : Int)] w fun e w' => e = .returned (.int .i64 ((k0 + n * 4 : Nat) : Int)) ∧ w'.ownsRow base 34 4 (.slice a n cap) n (fl (mkF k0 n)) ∧ w.grownBy w' (Value.slice a n cap).ownBlock := by
  rcases own_sliceF h with ⟨e, rfl⟩ | ⟨g, c, e, _⟩
  · simp only [Value.slice.injEq, true_and] at e
    obtain ⟨rfl, rfl⟩ := e
    exact (markF_nil k0 w).mono (by rintro r w' ⟨rfl, rfl⟩; exact ⟨rfl, World.ownsRow_nil w' base 34 4, World.grownBy.refl _ _⟩)
  · simp only [Value.slice.injEq, true_and] at e
    obtain ⟨rfl, rfl⟩ := e
    exact markF_any base g n cap T k0 w h hl hk0
set_option maxRecDepth 20000 in
/-- what was marked is held -/
theorem own_held {w : World} {base k0 n cap : Nat} {a : Option Addr} (h : w.ownsRow base 34 4 (.slice a n cap) n (fl (mkF k0 n))) : FSl w a n (fun j => mkf ((k0 : Int) + (j : Int) * 4)) := by
  obtain ⟨a', c', e, _, _, hF⟩ := own_facts h
  simp only [Value.slice.injEq, true_and] at e
  obtain ⟨rfl, rfl⟩ := e
  intro hn
  obtain ⟨b, off, e, hb, hf⟩ := hF hn
  refine ⟨b, off, e, hb, fun k hk => ?_⟩
  have := hf k hk
  have e2 : (mkF k0 n).getD k Fc.zero = mkf ((k0 : Int) + (k : Int) * 4) := by simp [mkF, List.getD, hk]
  simp only [e2] at this
  exact this
end Go.Proofs.Ythfafmafhodlkaa
