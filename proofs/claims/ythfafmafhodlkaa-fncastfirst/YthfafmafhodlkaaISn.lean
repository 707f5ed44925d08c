/- The model's way of finding whose turn it is. -/
import Derived.Test.YthfafmafhodlkaaITm
namespace Go.Proofs.Ythfafmafhodlkaa.I
open Go.ChangeShapes Go.WideShapes Go.ChangeAt Go.RowKit
attribute [local go_sem ↓] Go.wp_at_zero Go.wp_at_succ
/-- flags lie in a block -/
def Flags (w : World) (b len : Nat) (f : Nat → Bool) : Prop := b < w.heap.size ∧ ∀ k, k < len → w.cell? ⟨b, k, none⟩ = some (.bool (f k))
theorem Flags.below {w w' : World} {b len : Nat} {f : Nat → Bool} (h : Flags w b len f) (hb : Below w.heap.size w w') : Flags w' b len f := ⟨by have := hb.size; have := h.1; omega, fun k hk => keep_below hb (h.2 k hk)⟩
/-- the best among the first k that are not taken -/
def Nx (L : List It) (f : Nat → Bool) (k : Nat) (r : Int) : Prop := (r = -1 ∧ ∀ j, j < k → f j = true) ∨ ∃ m : Nat, m < k ∧ r = m ∧ f m = false ∧ ∀ j, j < k → f j = false → rh L m ≤ rh L j
theorem nx_skip {L : List It} {f : Nat → Bool} {k : Nat} {r : Int} (h : Nx L f k r) (hf : f k = true) : Nx L f (k + 1) r := by
  rcases h with ⟨h1, h2⟩ | ⟨m, h1, h2, h3, h4⟩
  · exact .inl ⟨h1, fun j hj => if e : j = k then e ▸ hf else h2 j (by omega)⟩
  · exact .inr ⟨m, by omega, h2, h3, fun j hj hfj => if e : j = k then (by subst e; rw [hf] at hfj; cases hfj) else h4 j (by omega) hfj⟩
theorem nx_first {L : List It} {f : Nat → Bool} {k : Nat} (h : ∀ j, j < k → f j = true) (hf : f k = false) : Nx L f (k + 1) (k : Int) :=
  .inr ⟨k, by omega, rfl, hf, fun j hj hfj => if e : j = k then (by subst e; exact Int.le_refl _) else (by rw [h j (by omega)] at hfj; cases hfj)⟩
theorem nx_better {L : List It} {f : Nat → Bool} {k m : Nat} (hm : ∀ j, j < k → f j = false → rh L m ≤ rh L j) (hf : f k = false) (hlt : rh L k < rh L m) : Nx L f (k + 1) (k : Int) :=
  .inr ⟨k, by omega, rfl, hf, fun j hj hfj => if e : j = k then (by subst e; exact Int.le_refl _) else (by have := hm j (by omega) hfj; omega)⟩
theorem nx_worse {L : List It} {f : Nat → Bool} {k m : Nat} (hmk : m < k) (hfm : f m = false) (hm : ∀ j, j < k → f j = false → rh L m ≤ rh L j) (hlt : rh L m ≤ rh L k) : Nx L f (k + 1) (m : Int) :=
  .inr ⟨m, by omega, rfl, hfm, fun j hj hfj => if e : j = k then (by subst e; exact hlt) else hm j (by omega) hfj⟩
set_option maxRecDepth 20000 in
set_option maxHeartbeats 4000000 in
theorem next_any (a : Option Addr) (cap bt : Nat) (L : List It) (f : Nat → Bool) (w : World) (h : TSl w a L.length (fun k => L.getD k It.zero)) (hf : Flags w bt L.length f) (hl : L.length ≤ 8) (hL : okL L) :
    Calls Try.prog 41 #[.slice a L.length cap, .slice (some ⟨bt, 0, none⟩) L.length L.length] w fun e w' => ∃ r, e = .returned (.int .i64 r) ∧ Nx L f L.length r ∧ Below w.heap.size w w' := by
  have hlh : Hid (∀ j k, j < k → k < L.length → (rh L k < rh L j ↔ (L.getD j It.zero).l < (L.getD k It.zero).l)) := fun j k hjk hk => by
    have e1 : L[j]? = some (L.getD j It.zero) := by simp [List.getD, show j < L.length by omega]
    have e2 : L[k]? = some (L.getD k It.zero) := by simp [List.getD, hk]
    obtain ⟨a1, a2, a3, a4⟩ := hL.1 _ (List.mem_of_getElem? e1)
    obtain ⟨b1, b2, b3, b4⟩ := hL.1 _ (List.mem_of_getElem? e2)
    have h3 := List.pairwise_iff_getElem.1 hL.2 j k (by omega) hk hjk
    have h4 : (L.getD j It.zero).n < (L.getD k It.zero).n := by simpa [List.getD, hk, show j < L.length by omega] using h3
    unfold rh rk
    omega
  have h0 : Hid (TSl w a L.length (fun k => L.getD k It.zero)) := h
  have hf0 : Hid (Flags w bt L.length f) := hf
  clear h hf hL
  go_enter Try.func41, Try.ntmps41
  go_wp2_with fail
  go_loopw [5, 6] (fun r i wr => ∃ (k : Nat) (z : Int), k ≤ L.length ∧ i = .int .i64 k ∧ r = .int .i64 z ∧ Nx L f k z ∧ Below w.heap.size w wr) (fun _ i _ => L.length - (intOf i).toNat)
  case atStart => exact ⟨0, -1, Nat.zero_le _, rfl, rfl, .inl ⟨rfl, fun j hj => by omega⟩, Below.refl _ _⟩
  case round =>
    obtain ⟨k, z, hk, rfl, rfl, hN, hb⟩ := hrel
    by_cases hlt : k < L.length
    · have i0 : (0 : Int) ≤ (k : Int) := by omega
      have i1 : (k : Int) < (L.length : Int) := by omega
      have t0 := (hf0.out.below hb).2 k hlt
      obtain ⟨bg, og, rfl, hbg, hfg⟩ := h0.out (by omega)
      have c4 := (((hfg.below hb hbg)) k hlt).2.2.2.2
      try dsimp only at c4
      cases hfk : f k
      · rw [hfk] at t0
        rcases hN with ⟨rfl, hall⟩ | ⟨m, hmk, rfl, hfm, hmin⟩
        · have hN' := nx_first (L := L) hall hfk
          have hNh : Hid _ := hN'
          clear hall hN' hfk
          go_upto_region 5 with fail
          go_quiet (fail)
          have B1 : Below w.heap.size w (wr.drewN nq) := QB hb
          generalize wr.drewN nq = w1 at *
          go_wp2
          go_roundw
          case rel => exact ⟨k + 1, k, by omega, by go_num, rfl, hNh.out, B1⟩
          case measure => simp [intOf]; omega
        · have d4 := (((hfg.below hb hbg)) m (by omega)).2.2.2.2
          try dsimp only at d4
          have m0 : (0 : Int) ≤ (m : Int) := by omega
          have m1 : (m : Int) < (L.length : Int) := by omega
          have m2 : ¬ (m : Int) < 0 := by omega
          have hiff := hlh.out m k hmk hlt
          generalize (L.getD m It.zero).l = lm at *
          generalize (L.getD k It.zero).l = lk at *
          by_cases hgt : lm < lk
          · have hNh : Hid (Nx L f (k + 1) (k : Int)) := nx_better hmin hfk (hiff.2 hgt)
            clear hiff hmin hfm hfk
            go_upto_region 5 with fail
            go_quiet (fail)
            have B1 : Below w.heap.size w (wr.drewN nq) := QB hb
            generalize wr.drewN nq = w1 at *
            go_wp2
            go_roundw
            case rel => exact ⟨k + 1, k, by omega, by go_num, rfl, hNh.out, B1⟩
            case measure => simp [intOf]; omega
          · have hNh : Hid (Nx L f (k + 1) (m : Int)) := nx_worse hmk hfm hmin (by have := mt hiff.1 hgt; omega)
            clear hiff hmin hfm hfk
            go_upto_region 5 with fail
            go_quiet (fail)
            have B1 : Below w.heap.size w (wr.drewN nq) := QB hb
            generalize wr.drewN nq = w1 at *
            go_wp2
            go_roundw
            case rel => exact ⟨k + 1, m, by omega, by go_num, rfl, hNh.out, B1⟩
            case measure => simp [intOf]; omega
      · rw [hfk] at t0
        have hNh : Hid (Nx L f (k + 1) z) := nx_skip hN hfk
        clear hN hfk
        go_upto_region 5 with fail
        go_quiet (fail)
        have B1 : Below w.heap.size w (wr.drewN nq) := QB hb
        generalize wr.drewN nq = w1 at *
        go_wp2
        go_roundw
        case rel => exact ⟨k + 1, z, by omega, by go_num, rfl, hNh.out, B1⟩
        case measure => simp [intOf]; omega
    · obtain rfl : k = L.length := by omega
      go_wp2
      go_ret
      exact ⟨z, rfl, hN, hb⟩
end Go.Proofs.Ythfafmafhodlkaa.I
