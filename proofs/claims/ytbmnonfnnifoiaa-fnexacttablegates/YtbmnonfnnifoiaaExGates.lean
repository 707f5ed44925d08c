/- The exact law of TableGates, walked. -/
import Derived.Test.YtbmnonfnnifoiaaGates
namespace Go.Proofs.Ytbmnonfnnifoiaa
open Go.ChangeShapes Go.WideShapes Go.ChangeAt Go.RowKit
attribute [local go_sem ↓] Go.wp_at_zero Go.wp_at_succ
theorem markInts_own (base n cap : Nat) (a : Option Addr) (xs : List Value) (k0 : Nat) (w : World) (h : w.ownsRow base 3 1 (.slice a n cap) n xs) (hl : n ≤ 1048576) (hk0 : k0 ≤ 1048576) :
    Calls Try.prog 29 #[.slice a n cap, .int .i64 (k0 : Int)] w fun e w' => e = .returned (.int .i64 ((k0 + n : Nat) : Int)) ∧ w'.ownsRow base 3 1 (.slice a n cap) n (mk k0 n) ∧ w.grownBy w' (Value.slice a n cap).ownBlock := by
  rcases own_shape h with ⟨e, rfl⟩ | ⟨g, c, e, _⟩
  · simp only [Value.slice.injEq, true_and] at e
    obtain ⟨rfl, rfl⟩ := e
    exact (markInts_nil k0 w).mono (by rintro r w' ⟨rfl, rfl⟩; exact ⟨rfl, by simpa [mk] using World.ownsRow_nil w' base 3 1, World.grownBy.refl _ _⟩)
  · simp only [Value.slice.injEq, true_and] at e
    obtain ⟨rfl, rfl⟩ := e
    exact markInts_any base g n cap xs k0 w h hl hk0
theorem ne_lt {w : World} {base size n b : Nat} {e : TypeId} {v : Value} {xs : List Value} (h : w.ownsRow base e size v n xs) (hb : w.heap.size ≤ b) : v.ownBlock = none ∨ v.ownBlock ≠ some b :=
  .inr fun e => by have := (h.lt b e).2; omega
theorem ne_ge {w : World} {base size n b : Nat} {e : TypeId} {v : Value} {xs : List Value} (h : w.ownsRow base e size v n xs) (hb : b < base) : v.ownBlock = none ∨ v.ownBlock ≠ some b :=
  .inr fun e => by have := (h.lt b e).1; omega
theorem ne_two {w w' : World} {base size n : Nat} {e : TypeId} {v : Value} {xs : List Value} {base' size' n' : Nat} {e' : TypeId} {v' : Value} {xs' : List Value} (h : w.ownsRow base e size v n xs) (h' : w'.ownsRow base' e' size' v' n' xs') (hb : w.heap.size ≤ base') : v.ownBlock = none ∨ v.ownBlock ≠ v'.ownBlock := by
  cases hv : v.ownBlock with
  | none => exact .inl rfl
  | some k => exact .inr fun e => by have := (h.lt k hv).2; have := (h'.lt k e.symm).1; omega
set_option maxRecDepth 10000 in
set_option maxHeartbeats 4000000 in
theorem exGates_walk (a : Option Addr) (len cap : Nat) (F : Nat → Fc) (x : Int) (w : World) (h : FSl w a len F) (hc : len ≤ cap) (hm : len ≤ maxLen) :
    Calls Try.prog 8 #[.slice a len cap, .int .i64 x] w fun r w' => r = .returned (.bool true) ∧ Below w.heap.size w w' := by
  by_cases hl : 1048576 < len
  · go_enter Try.func8, Try.ntmps8
    go_wp2_with fail
    refine (szFactS_over a len cap _ hl hm).mono ?_
    rintro r w' ⟨rfl, rfl⟩
    go_wp2
    go_ret
    exact ⟨rfl, Below.refl _ _⟩
  · have hl' : len ≤ 1048576 := by omega
    have hgl : (gT len F x).length ≤ 1048576 := by have := gT_le len F x; omega
    clear hl hm
    go_enter Try.func8, Try.ntmps8
    go_wp2_with fail
    refine (szFactS_in a len cap _ hl').mono ?_
    rintro r w' ⟨n, rfl, rfl⟩
    have n0 : ¬ ((n : Int) < 0) := by omega
    go_wp2_with fail
    refine (toFactS_any a len cap F _ h hl' hc).mono ?_
    rintro r w1 ⟨x1, rfl, f1, _, _, b1⟩
    go_wp2_with fail
    refine (sgates_any _ len len F x _ f1 hl').mono ?_
    rintro r w2 ⟨v0, rfl, o0, b2⟩
    have B2 := btrans b1 b2
    obtain ⟨a0, c0, rfl, hc0, i0⟩ := own_list o0
    clear f1 b1 b2
    go_wp2_with fail
    refine (toFactS_row a len cap F _ (h.below B2) hl' hc).mono ?_
    rintro r w3 ⟨b, rfl, f3, hb3, b3⟩
    have B3 := btrans B2 b3
    have o0' := own_below o0 b3
    have lt3 := f3.lt
    clear i0 b3
    go_wp2_with fail
    refine (gates_any _ len len F x _ (fsl_row f3) hl').mono ?_
    rintro r w4 ⟨v1, rfl, o1, b4⟩
    have B4 := btrans B3 b4
    obtain ⟨a1, c1, rfl, hc1, i1⟩ := own_list o1
    have f4 := row_below f3 b4
    replace o0' := own_below o0' b4
    clear f3 b4
    go_wp2_with fail
    obtain ⟨a0', c0', e0, _, i0⟩ := own_list o0'
    simp only [Value.slice.injEq, true_and] at e0
    obtain ⟨rfl, rfl⟩ := e0
    refine (eqInts_same _ _ _ _ _ _ _ i1 i0 hgl).mono ?_
    rintro r w5 ⟨rfl, b5⟩
    have B5 := btrans B4 b5
    have f5 := row_below f4 b5
    have o15 := own_below o1 b5
    replace o0' := own_below o0' b5
    clear i0 i1 b5 f4
    go_wp2_with fail
    refine (toFactS_any a len cap F _ (h.below B5) hl' hc).mono ?_
    rintro r w6 ⟨x6, rfl, f6, _, _, b6⟩
    have B6 := btrans B5 b6
    have f7 := row_below f5 b6
    replace o15 := own_below o15 b6
    replace o0' := own_below o0' b6
    clear b6 f5
    go_wp2_with fail
    refine (eqFactS_same _ _ len len len F _ (fsl_row f7) f6 hl').mono ?_
    rintro r w7 ⟨rfl, b7⟩
    have B7 := btrans B6 b7
    have f8 := row_below f7 b7
    replace o15 := own_below o15 b7
    replace o0' := own_below o0' b7
    clear b7 f7 f6
    go_wp2_with fail
    refine (markFacts_any b len len _ 1 _ f8 hl' (by omega)).mono ?_
    rintro r w8 ⟨rfl, g8⟩
    have B8 := B7.grown g8 B7.size (fun k hk => by simp only [Option.some.injEq] at hk; have := B2.size; omega)
    replace o15 := o15.kept g8 (ne_ge o15 lt3)
    replace o0' := o0'.kept g8 (ne_lt o0 hb3)
    generalize 1 + len * 4 = M at *
    have m0 : ¬ ((M : Int) < 0) := by omega
    clear g8 f8
    go_wp2_with fail
    obtain ⟨a0', c0', e0, _, i0⟩ := own_list o0'
    simp only [Value.slice.injEq, true_and] at e0
    obtain ⟨rfl, rfl⟩ := e0
    obtain ⟨a1', c1', e1, _, i1⟩ := own_list o15
    simp only [Value.slice.injEq, true_and] at e1
    obtain ⟨rfl, rfl⟩ := e1
    refine (eqInts_same _ _ _ _ _ _ _ i1 i0 hgl).mono ?_
    rintro r w9 ⟨rfl, b9⟩
    have B9 := btrans B8 b9
    replace o15 := own_below o15 b9
    replace o0' := own_below o0' b9
    clear i0 i1 b9
    go_wp2_with fail
    refine (markInts_own _ _ _ _ _ 1 _ o15 hgl (by omega)).mono ?_
    rintro r w10 ⟨rfl, om, g10⟩
    have B10 := B9.grown g10 B9.size (fun k hk => by have := (o1.lt k hk).1; have := B3.size; omega)
    replace o0' := o0'.kept g10 (ne_two o0 o1 (by omega))
    clear o15 g10
    go_wp2_with fail
    obtain ⟨a1', c1', e1, _, i1⟩ := own_ints (f := fun j => ((1 + j : Nat) : Int)) om
    simp only [Value.slice.injEq, true_and] at e1
    obtain ⟨rfl, rfl⟩ := e1
    refine (heldInts_any _ _ _ 1 _ i1 hgl (by omega)).mono ?_
    rintro r w11 ⟨rfl, hw⟩
    obtain rfl := hw.symm
    generalize hK : 1 + (gT len F x).length = K at *
    have k0 : ¬ ((K : Int) < 0) := by omega
    have k1 : ¬ ((K : Int) ≠ (K : Int)) := by simp
    go_wp2_with fail
    refine (toFactS_any a len cap F _ (h.below B10) hl' hc).mono ?_
    rintro r w12 ⟨x12, rfl, f12, _, _, b12⟩
    have B12 := btrans B10 b12
    replace om := own_below om b12
    replace o0' := own_below o0' b12
    clear i1 b12
    go_wp2_with fail
    refine (gates_any _ len len F x _ f12 hl').mono ?_
    rintro r w13 ⟨v2, rfl, o2, b13⟩
    have B13 := btrans B12 b13
    obtain ⟨a2, c2, rfl, hc2, i2⟩ := own_list o2
    replace om := own_below om b13
    replace o0' := own_below o0' b13
    clear f12 b13
    go_wp2_with fail
    obtain ⟨a0', c0', e0, _, i0⟩ := own_list o0'
    simp only [Value.slice.injEq, true_and] at e0
    obtain ⟨rfl, rfl⟩ := e0
    refine (eqInts_same _ _ _ _ _ _ _ i2 i0 hgl).mono ?_
    rintro r w14 ⟨rfl, b14⟩
    have B14 := btrans B13 b14
    replace om := own_below om b14
    clear i0 i2 b14 o0' o2
    go_wp2_with fail
    obtain ⟨a1', c1', e1, _, i1⟩ := own_ints (f := fun j => ((1 + j : Nat) : Int)) om
    simp only [Value.slice.injEq, true_and] at e1
    obtain ⟨rfl, rfl⟩ := e1
    refine (heldInts_any _ _ _ 1 _ i1 hgl (by omega)).mono ?_
    rintro r w15 ⟨rfl, hw⟩
    obtain rfl := hw.symm
    rw [hK]
    clear hK om i1
    go_wp2
    go_ret
    exact ⟨rfl, B14⟩
end Go.Proofs.Ytbmnonfnnifoiaa
