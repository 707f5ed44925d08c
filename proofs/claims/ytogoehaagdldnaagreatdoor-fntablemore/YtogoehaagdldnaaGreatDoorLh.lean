/- Two lists that differ, held against each other. -/
import Derived.Test.YtogoehaagdldnaaGreatDoorLp
namespace Go.Proofs.YtogoehaagdldnaaGreatDoor
open Go.ChangeShapes Go.WideShapes Go.ChangeAt Go.RowKit
attribute [local go_sem ↓] Go.wp_at_zero Go.wp_at_succ
theorem list_diff {T U : List Fc} (h : T ≠ U) (hl : T.length = U.length) : ∃ k, k < T.length ∧ gd T k ≠ gd U k := by
  apply Classical.byContradiction
  intro hn
  apply h
  apply List.ext_getElem hl
  intro k h1 h2
  apply Classical.byContradiction
  intro e
  exact hn ⟨k, h1, by simpa [gd, List.getD, h1, h2] using e⟩
set_option maxRecDepth 20000 in
set_option maxHeartbeats 4000000 in
theorem lhd (a : Option Addr) (c : Nat) (T : List Fc) (a2 : Option Addr) (c2 : Nat) (U : List Fc) (w : World) (h : FS w a T) (h2 : FS w a2 U) (hl : T.length ≤ 8) (hd : T ≠ U) :
    Calls Tryz.prog 11 #[.slice a T.length c, .slice a2 U.length c2] w fun e w' => e = .returned (.bool false) ∧ Below w.heap.size w w' := by
  by_cases he : T.length = U.length
  · have hd' : Hid (∃ k, k < T.length ∧ gd T k ≠ gd U k) := list_diff hd he
    clear hd
    obtain ⟨F, hF⟩ : ∃ F, Hid (gd T = F) := ⟨_, rfl⟩
    obtain ⟨G, hG⟩ : ∃ G, Hid (gd U = G) := ⟨_, rfl⟩
    rw [hF.out, hG.out] at hd'
    have h' : FSl w a T.length F := hF.out ▸ h
    have h2' : FSl w a2 U.length G := hG.out ▸ h2
    rw [← he] at h2' ⊢
    clear h h2 hF hG he
    generalize T.length = n at *
    go_enter Tryz.func11, Tryz.ntmps11
    go_wp2_with fail
    go_loopw [5] (fun i wr => ∃ k : Nat, k ≤ n ∧ i = .int .i64 k ∧ Hid (∀ j, j < k → F j = G j) ∧ Below w.heap.size w wr) (fun i _ => n - (intOf i).toNat)
    case atStart => exact ⟨0, Nat.zero_le _, rfl, fun j hj => absurd hj (by omega), Below.refl _ _⟩
    case round =>
      obtain ⟨k, hk, rfl, hI, hb⟩ := hrel
      by_cases hlt : k < n
      · obtain ⟨b, off, rfl, hbl, hf⟩ := h' (by omega)
        obtain ⟨c0, c1, c2', c3⟩ := (hf.below hb hbl) k hlt
        obtain ⟨b', off', rfl, hbl', hf'⟩ := h2' (by omega)
        obtain ⟨d0, d1, d2, d3⟩ := (hf'.below hb hbl') k hlt
        have i0 : (0 : Int) ≤ (k : Int) := by omega
        have i1 : (k : Int) < (n : Int) := by omega
        by_cases e : F k = G k
        · have hI2 : Hid (∀ j, j < k + 1 → F j = G j) := fun j hj => by
            by_cases e2 : j = k
            · rw [e2, e]
            · exact hI.out j (by omega)
          rw [e] at c0 c1 c2' c3
          clear e
          generalize G k = g at *
          go_wp2_with fail
          go_quiet (fail)
          go_wp2
          go_roundw
          case rel => exact ⟨k + 1, by omega, by go_num, hI2, QB hb⟩
          case measure => simp [intOf]; omega
        · have e' : Hid (F k ≠ G k) := e
          clear e
          generalize F k = f at *
          generalize G k = g at *
          obtain ⟨f0, f1, f2, f3⟩ := f
          obtain ⟨g0, g1, g2, g3⟩ := g
          dsimp only at c0 c1 c2' c3 d0 d1 d2 d3
          have he' : ((f0 == g0) = false ∧ ¬ f0 = g0) ∨ (f0 = g0 ∧ ((f1 == g1) = false ∧ ¬ f1 = g1)) ∨ (f0 = g0 ∧ f1 = g1 ∧ ((f2 == g2) = false ∧ ¬ f2 = g2)) ∨ (f0 = g0 ∧ f1 = g1 ∧ f2 = g2 ∧ ((f3 == g3) = false ∧ ¬ f3 = g3)) := by
            have he := e'.out
            by_cases e0 : f0 = g0
            · by_cases e1 : f1 = g1
              · by_cases e2 : f2 = g2
                · by_cases e3 : f3 = g3
                  · subst e0 e1 e2 e3
                    exact absurd rfl he
                  · exact .inr (.inr (.inr ⟨e0, e1, e2, by simpa using e3, e3⟩))
                · exact .inr (.inr (.inl ⟨e0, e1, by simpa using e2, e2⟩))
              · exact .inr (.inl ⟨e0, by simpa using e1, e1⟩)
            · exact .inl ⟨by simpa using e0, e0⟩
          clear e' hI hd'
          rcases he' with ⟨z0, z1⟩ | ⟨rfl, z0, z1⟩ | ⟨rfl, rfl, z0, z1⟩ | ⟨rfl, rfl, rfl, z0, z1⟩
          all_goals go_wp2_with fail
          all_goals go_quiet (fail)
          all_goals go_wp2
          all_goals go_ret
          all_goals exact ⟨rfl, QB hb⟩
      · obtain ⟨j, hj, hne⟩ := hd'.out
        exact absurd (hI.out j (by omega)) hne
  · have k1 : ¬ (T.length : Int) = (U.length : Int) := by omega
    have k2 : ((T.length : Int) == (U.length : Int)) = false := by simpa using k1
    go_enter Tryz.func11, Tryz.ntmps11
    go_wp2
    go_ret
    exact ⟨rfl, Below.refl _ _⟩
end Go.Proofs.YtogoehaagdldnaaGreatDoor
