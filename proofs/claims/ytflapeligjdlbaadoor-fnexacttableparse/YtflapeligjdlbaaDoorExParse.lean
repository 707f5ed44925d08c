/- The exact law of TableParse, walked. -/
import Derived.Test.YtflapeligjdlbaaDoorPTab
import Derived.Test.YtflapeligjdlbaaDoorMark
namespace Go.Proofs.YtflapeligjdlbaaDoor
open Go.ChangeShapes Go.WideShapes Go.ChangeAt Go.RowKit
attribute [local go_sem ↓] Go.wp_at_zero Go.wp_at_succ
theorem ne_two {w w' : World} {base size n : Nat} {e : TypeId} {v : Value} {xs : List Value} {base' size' n' : Nat} {e' : TypeId} {v' : Value} {xs' : List Value} (h : w.ownsRow base e size v n xs) (h' : w'.ownsRow base' e' size' v' n' xs') (hb : w.heap.size ≤ base') : v.ownBlock = none ∨ v.ownBlock ≠ v'.ownBlock := by
  cases hv : v.ownBlock with
  | none => exact .inl rfl
  | some k => exact .inr fun e => by have := (h.lt k hv).2; have := (h'.lt k e.symm).1; omega
set_option maxHeartbeats 2000000 in
theorem heldF_any (a : Option Addr) (n cap : Nat) (k0 : Nat) (w : World) (h : FSl w a n (fun j => mkf ((k0 : Int) + (j : Int) * 4))) (hl : n ≤ 1048576) (hk0 : k0 ≤ 1048576) :
    Calls Tryd.prog 8 #[.slice a n cap, .int .i64 (k0 : Int)] w fun e w' => e = .returned (.int .i64 ((k0 + n * 4 : Nat) : Int)) ∧ w' = w := by
  go_enter Tryd.func8, Tryd.ntmps8
  go_wp2
  go_loopw [1, 5] (fun x i wr => ∃ k : Nat, k ≤ n ∧ i = .int .i64 k ∧ x = .int .i64 ((k0 + k * 4 : Nat) : Int) ∧ wr = w) (fun _ i _ => n - (intOf i).toNat)
  case atStart => exact ⟨0, Nat.zero_le _, rfl, rfl, rfl⟩
  case round =>
    obtain ⟨k, hk, rfl, rfl, rfl⟩ := hrel
    by_cases hlt : k < n
    · have i0 : (0 : Int) ≤ (k : Int) := by omega
      have i1 : (k : Int) < (n : Int) := by omega
      obtain ⟨b, off, rfl, hbl, hf⟩ := h (by omega)
      obtain ⟨d0, d1, d2, d3⟩ := hf k hlt
      simp only [mkf] at d0 d1 d2 d3
      have e0 : ((((k0 : Int) + (k : Int) * 4 + 1 + 1 + 1) % 3 == 0) != (((k0 : Int) + (k : Int) * 4 + 1 + 1 + 1) % 3 == 0)) = false := by simp
      go_wp2
      go_roundw
      case rel => exact ⟨k + 1, by omega, by go_num, by go_num, by simp⟩
      case measure => simp [intOf]; omega
    · go_wp2
      go_ret
      have e : k = n := by omega
      subst e
      exact ⟨rfl, rfl⟩
theorem opt_same {q q' : Bool} {T T' : List Fc} (h : (if q = true then some T else none) = (if q' = true then some T' else none)) (hn : q = false → T = []) (hn' : q' = false → T' = []) : q' = q ∧ T' = T := by
  cases q <;> cases q' <;> simp_all
set_option maxRecDepth 20000 in
set_option maxHeartbeats 8000000 in
theorem exParse_walk (s : ByteArray) (w : World) (hp : Pst w) :
    Calls Tryd.prog 3 #[.string s] w fun r w' => r = .returned (.bool true) ∧ Below w.heap.size w w' := by
  by_cases hl : 1048576 < s.size
  · have hl' : (1048576 : Int) < (s.size : Int) := by omega
    go_enter Tryd.func3, Tryd.ntmps3
    go_wp2
    go_ret
    exact ⟨rfl, Below.refl _ _⟩
  · have hs : s.size ≤ 1048576 := by omega
    have hl' : ¬ (1048576 : Int) < (s.size : Int) := by omega
    go_enter Tryd.func3, Tryd.ntmps3
    go_wp2_with fail
    refine (sparse_any s hs _).mono ?_
    rintro _ w1 ⟨v0, T, q, rfl, os, hn, hT8, hr, B1⟩
    obtain ⟨a0, c0, rfl, hc0, -, -⟩ := own_facts os
    go_wp2_with fail
    refine (tparse_any s hs _ (hp.below B1)).mono ?_
    rintro _ w2 ⟨v1, T1, q1, rfl, o1, hn1, -, hr1, b2⟩
    obtain ⟨hq, hTT⟩ := opt_same (hr.symm.trans ((pt_mt _).symm.trans hr1)) hn hn1
    subst hq
    subst hTT
    obtain ⟨a1, c1, rfl, hc1, -, i1⟩ := own_facts o1
    have B2 := btrans B1 b2
    have oS := own_below os b2
    clear b2 hr1 hn1
    obtain ⟨a0', c0', e0', -, -, i0⟩ := own_facts oS
    simp only [Value.slice.injEq, true_and] at e0'
    obtain ⟨rfl, rfl⟩ := e0'
    have hrH : Hid _ := hr
    have hnH : Hid (q1 = false → T1 = []) := hn
    clear hr hn
    have qq : (q1 != q1) = false := by simp
    go_wp2_with fail
    refine (eqFactS_same _ _ _ _ _ _ _ i1 i0 hT8).mono ?_
    rintro r w3 ⟨rfl, b3⟩
    have B3 := btrans B2 b3
    replace oS := own_below oS b3
    have o17 := own_below o1 b3
    clear b3 i0 i1
    go_wp2_with fail
    refine (markF_own _ _ _ _ _ 1 _ o17 hT8 (by omega)).mono ?_
    rintro r w4 ⟨rfl, om, g4⟩
    have B4 := B3.grown g4 B3.size (fun k hk => by have := (o1.lt k hk).1; have := B1.size; omega)
    replace oS := oS.kept g4 (ne_two os o1 (Nat.le_refl _))
    clear o17 g4
    go_wp2_with fail
    refine (heldF_any _ _ _ 1 _ (own_held om) hT8 (by omega)).mono ?_
    rintro r w5 ⟨rfl, hw⟩
    obtain rfl := hw.symm
    generalize hK : 1 + T1.length * 4 = K at *
    have k0 : ¬ ((K : Int) < 0) := by omega
    have k1 : ¬ ((K : Int) ≠ (K : Int)) := by simp
    go_wp2_with fail
    refine (tparse_any s hs _ (hp.below B4)).mono ?_
    rintro _ w6 ⟨v2, T2, q2, rfl, o2, hn2, -, hr2, b6⟩
    obtain ⟨hq, hTT⟩ := opt_same (hrH.out.symm.trans ((pt_mt _).symm.trans hr2)) hnH.out hn2
    subst hq
    subst hTT
    obtain ⟨a2, c2, rfl, hc2, -, i2⟩ := own_facts o2
    have B6 := btrans B4 b6
    replace oS := own_below oS b6
    replace om := own_below om b6
    clear b6 hr2 hn2 hrH hnH
    obtain ⟨a0', c0', e0', -, -, i0⟩ := own_facts oS
    simp only [Value.slice.injEq, true_and] at e0'
    obtain ⟨rfl, rfl⟩ := e0'
    have qq2 : (q2 != q2) = false := by simp
    go_wp2_with fail
    refine (eqFactS_same _ _ _ _ _ _ _ i2 i0 hT8).mono ?_
    rintro r w7 ⟨rfl, b7⟩
    have B7 := btrans B6 b7
    replace om := own_below om b7
    clear i0 i2 b7 oS
    go_wp2_with fail
    refine (heldF_any _ _ _ 1 _ (own_held om) hT8 (by omega)).mono ?_
    rintro r w8 ⟨rfl, hw⟩
    obtain rfl := hw.symm
    rw [hK]
    clear hK om
    go_wp2
    go_ret
    exact ⟨rfl, B7⟩
end Go.Proofs.YtflapeligjdlbaaDoor
