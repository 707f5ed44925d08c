/- A new fact is told: the law, walked. -/
import Derived.Test.YtbjffmhdjbdpcaaIKeep
namespace Go.Proofs.Ytbjffmhdjbdpcaa.I
open Go.ChangeShapes Go.WideShapes Go.ChangeAt Go.RowKit
attribute [local go_sem ↓] Go.wp_at_zero Go.wp_at_succ
theorem l3B_self (i s : Int) (g : Bool) : l3B i s g i s g = false := by
  unfold l3B
  cases g <;> simp
theorem ovr_self (x : It) : ovr x x = false := l3B_self x.i x.s x.g
theorem ovr_tIt (f : Fc) (y : It) (h : ovr (tIt f) y = false) : overB f.n f.i f.s f.g y.n y.i y.s y.g = false := by
  unfold ovr at h
  simp only [tIt] at h
  unfold overB
  rw [h]
  simp
/-- who of the new list speaks of the fact's node -/
theorem new_at {T : List It} {x : It} (hT : Asc T) : ∃ k0, k0 < (tput T x).length ∧ ((tput T x).getD k0 It.zero).n = x.n ∧ (∀ k, k < (tput T x).length → k ≠ k0 → ((tput T x).getD k It.zero).n ≠ x.n) ∧ ovr x ((tput T x).getD k0 It.zero) = false ∧ (T.length < (tput T x).length → (tput T x).getD k0 It.zero = x) := by
  have hA := tput_asc (f := x) hT
  have hg := tget_tput (f := x) hT x.n
  obtain ⟨y, hy, ho, hl⟩ : ∃ y, tget (tput T x) x.n = some y ∧ ovr x y = false ∧ (T.length < (tput T x).length → y = x) := by
    by_cases hn : tnew T x = true
    · rw [if_pos ⟨rfl, hn⟩] at hg
      exact ⟨x, hg, ovr_self x, fun _ => rfl⟩
    · rw [if_neg (fun h => hn h.2)] at hg
      unfold tnew at hn
      cases ht : tget T x.n with
      | none => rw [ht] at hn; simp at hn
      | some y =>
        rw [ht] at hn hg
        simp at hn
        refine ⟨y, hg, hn, fun h => ?_⟩
        rw [tput_no hT ht hn] at h
        omega
  obtain ⟨hm, hyn⟩ := tget_mem hy
  obtain ⟨k0, hk0, e⟩ := mem_at hm
  refine ⟨k0, hk0, by rw [e]; exact hyn, fun k hk hne => ?_, by rw [e]; exact ho, fun h => by rw [e]; exact hl h⟩
  intro he
  rcases Nat.lt_or_ge k k0 with hlt | hge
  · have := getD_asc hA k k0 hlt hk0
    rw [e, hyn] at this
    omega
  · have := getD_asc hA k0 k (by omega) hk
    rw [e, hyn] at this
    omega
theorem cok_of {T : List It} (hA : Asc T) (hT : ∀ g ∈ T, iokB g = true) : cokB T.length (fun k => T.getD k It.zero) = true := by
  unfold cokB callB tascB risB
  rw [Bool.and_eq_true, decide_eq_true_iff, decide_eq_true_iff]
  exact ⟨fun k hk => hT _ (by simp [List.getD, hk]), fun k hk h0 => getD_asc hA (k - 1) k (by omega) hk⟩
theorem new_law (n : Nat) (F : Nat → It) (f : Fc) : ((cokB n F && fokB f.n f.i f.s) = false → (cpT n F f).length = 0) ∧ (cokB n F = true → fokB f.n f.i f.s = true →
    cokB (cpT n F f).length (fun k => (cpT n F f).getD k It.zero) = true ∧ ∃ k0, k0 < (cpT n F f).length ∧ ((cpT n F f).getD k0 It.zero).n = f.n ∧ (∀ k, k < (cpT n F f).length → k ≠ k0 → ((cpT n F f).getD k It.zero).n ≠ f.n) ∧ ovr (tIt f) ((cpT n F f).getD k0 It.zero) = false ∧ (n < (cpT n F f).length → (cpT n F f).getD k0 It.zero = tIt f)) := by
  refine ⟨fun h => by unfold cpT; rw [h]; rfl, fun h1 h2 => ?_⟩
  have e1 : cpT n F f = tput (seqF F n) (tIt f) := by unfold cpT; rw [h1, h2]; rfl
  obtain ⟨t1, t2⟩ := tok_all h1
  have hA := seqF_asc t2 n (Nat.le_refl _)
  have hI : ∀ g ∈ seqF F n, iokB g = true := fun g hg => by
    obtain ⟨k, hk, rfl⟩ := seqF_mem hg
    unfold cokB callB at h1
    rw [Bool.and_eq_true] at h1
    exact (of_decide_eq_true h1.1) k hk
  rw [e1]
  refine ⟨cok_of (tput_asc hA) (fun g hg => ?_), ?_⟩
  · rcases tput_mem hg with rfl | hg
    · unfold iokB
      show (fokB f.n f.i f.s && inb 4 1 4) = true
      rw [h2]
      rfl
    · exact hI g hg
  · have := new_at (x := tIt f) hA
    rw [seqF_len] at this
    exact this
theorem fover_lit (f : Fc) (y : It) (w : World) (h : overB f.n f.i f.s f.g y.n y.i y.s y.g = false) :
    Calls Try.prog 13 #[.agg #[.int .i64 f.n, .int .i64 f.i, .int .i64 f.s, .bool f.g], .agg #[.int .i64 y.n, .int .i64 y.i, .int .i64 y.s, .bool y.g]] w fun r w' => r = .returned (.bool false) ∧ Below w.heap.size w w' := h ▸ fover_any _ _ _ _ _ _ _ _ w
end Go.Proofs.Ytbjffmhdjbdpcaa.I
