/- The exact law of ViewNews, walked. -/
import Derived.Test.YtfmjjafgipikeaaView
import Derived.Test.YtfmjjafgipikeaaMark
namespace Go.Proofs.Ytfmjjafgipikeaa
open Go.ChangeShapes Go.WideShapes Go.ChangeAt Go.RowKit
attribute [local go_sem ↓] Go.wp_at_zero Go.wp_at_succ
theorem nvLen (len : Nat) (F : Nat → Fc) (len2 : Nat) (G : Nat → Fc) : (W.nv len F len2 G).length ≤ 8 := by
  unfold W.nv
  split
  · rename_i h
    rw [Bool.and_eq_true] at h
    have := W.newsL_len (seqF F len) (seqF G len2)
    have := tok_len h.2
    rw [seqF_len] at *
    omega
  · simp
theorem ne_lt {w : World} {base size n b : Nat} {e : TypeId} {v : Value} {xs : List Value} (h : w.ownsRow base e size v n xs) (hb : w.heap.size ≤ b) : v.ownBlock = none ∨ v.ownBlock ≠ some b :=
  .inr fun e => by have := (h.lt b e).2; omega
theorem ne_ge {w : World} {base size n b : Nat} {e : TypeId} {v : Value} {xs : List Value} (h : w.ownsRow base e size v n xs) (hb : b < base) : v.ownBlock = none ∨ v.ownBlock ≠ some b :=
  .inr fun e => by have := (h.lt b e).1; omega
theorem ne_two {w w' : World} {base size n : Nat} {e : TypeId} {v : Value} {xs : List Value} {base' size' n' : Nat} {e' : TypeId} {v' : Value} {xs' : List Value} (h : w.ownsRow base e size v n xs) (h' : w'.ownsRow base' e' size' v' n' xs') (hb : w.heap.size ≤ base') : v.ownBlock = none ∨ v.ownBlock ≠ v'.ownBlock := by
  cases hv : v.ownBlock with
  | none => exact .inl rfl
  | some k => exact .inr fun e => by have := (h.lt k hv).2; have := (h'.lt k e.symm).1; omega
theorem fsl_in {w : World} {b len : Nat} {F : Nat → Fc} (h : FSl w (some ⟨b, 0, none⟩) len F) : FactsIn w b 0 len F := fun k hk => by
  obtain ⟨b', off', e, _, hh⟩ := h (by omega)
  simp only [Option.some.injEq, Addr.mk.injEq, and_true] at e
  obtain ⟨rfl, rfl⟩ := e
  exact hh k hk
theorem row_keep {w w' : World} {b b' t n : Nat} {f : Nat → Value} (h : w.rowIs b t n f) (hg : w.grownBy w' (some b')) (hb : b ≠ b') : w'.rowIs b t n f := h.of_block (hg.block b h.lt (by simpa using hb))
set_option maxHeartbeats 2000000 in
theorem markFacts_big (b len cap : Nat) (G : Nat → Value) (k0 : Nat) (w : World) (h : w.rowIs b 30 (len * 4) G) (hl : len ≤ 1048576) (hk0 : k0 ≤ 100000000) :
    Calls Try.prog 18 #[.slice (some ⟨b, 0, none⟩) len cap, .int .i64 (k0 : Int)] w fun e w' => e = .returned (.int .i64 ((k0 + len * 4 : Nat) : Int)) ∧ w.grownBy w' (some b) := by
  go_enter Try.func18, Try.ntmps18
  go_wp2
  go_loopw [1, 5] (fun x i wr => ∃ k : Nat, k ≤ len ∧ i = .int .i64 k ∧ x = .int .i64 ((k0 + k * 4 : Nat) : Int) ∧ w.grownBy wr (some b) ∧ ∃ G, wr.rowIs b 30 (len * 4) G) (fun _ i _ => len - (intOf i).toNat)
  case atStart => exact ⟨0, Nat.zero_le _, rfl, rfl, World.grownBy.refl _ _, G, h⟩
  case round =>
    obtain ⟨k, hk, rfl, rfl, hg, G, hr⟩ := hrel
    by_cases hlt : k < len
    · have i0 : (0 : Int) ≤ (k : Int) := by omega
      have i1 : (k : Int) < (len : Int) := by omega
      have d0 := hr.cell (i := k * 4) (by omega)
      have d1 := hr.cell (i := k * 4 + 1) (by omega)
      have d2 := hr.cell (i := k * 4 + 2) (by omega)
      have d3 := hr.cell (i := k * 4 + 3) (by omega)
      have f0 := hr.frozen (k * 4)
      have f1 := hr.frozen (k * 4 + 1)
      have f2 := hr.frozen (k * 4 + 2)
      have f3 := hr.frozen (k * 4 + 3)
      go_wp2
      go_roundw
      case rel => exact ⟨k + 1, by omega, by go_num, by go_num, grown_trans (grown_trans (grown_trans (grown_trans hg (grown_set _ _ _ _)) (grown_set _ _ _ _)) (grown_set _ _ _ _)) (grown_set _ _ _ _), _, (((hr.set _ _).set _ _).set _ _).set _ _⟩
      case measure => simp [intOf]; omega
    · go_wp2
      go_ret
      have e : k = len := by omega
      subst e
      exact ⟨rfl, hg⟩
theorem szF_over (a : Option Addr) (len cap n : Nat) (w : World) (hn : n ≤ 1048576) (h1 : n < len) (hl : len ≤ maxLen) :
    Calls Try.prog 14 #[.slice a len cap, .int .i64 (n : Int)] w fun e w' => e = .returned (.int .i64 (-1)) ∧ w' = w :=
  (szFactS_any a len cap n w (by omega) (by omega) hl).mono (by rintro e w' ⟨rfl, rfl⟩; rw [if_pos (by omega)]; exact ⟨rfl, rfl⟩)
theorem szF_in (a : Option Addr) (len cap n : Nat) (w : World) (hn : n ≤ 1048576) (h1 : len ≤ n) :
    Calls Try.prog 14 #[.slice a len cap, .int .i64 (n : Int)] w fun e w' => e = .returned (.int .i64 ((n - len : Nat) : Int)) ∧ w' = w :=
  (szFactS_any a len cap n w (by omega) (by omega) (by unfold maxLen; omega)).mono (by rintro e w' ⟨rfl, rfl⟩; rw [if_neg (by omega)]; exact ⟨ret_int (by omega), rfl⟩)
set_option maxRecDepth 20000 in
set_option maxHeartbeats 8000000 in
theorem exView_walk (a : Option Addr) (len cap : Nat) (F : Nat → Fc) (a2 : Option Addr) (len2 cap2 : Nat) (G : Nat → Fc) (w : World) (h : FSl w a len F) (hc : len ≤ cap) (hm : len ≤ maxLen) (h2 : FSl w a2 len2 G) (hc2 : len2 ≤ cap2) (hm2 : len2 ≤ maxLen) :
    Calls Try.prog 4 #[.slice a len cap, .slice a2 len2 cap2] w fun r w' => r = .returned (.bool true) ∧ Below w.heap.size w w' := by
  by_cases hl : 1048576 < len
  · go_enter Try.func4, Try.ntmps4
    go_wp2_with fail
    refine (szFactS_over a len cap _ hl hm).mono ?_
    rintro r w' ⟨rfl, hw⟩
    obtain rfl := hw.symm
    go_wp2
    go_ret
    exact ⟨rfl, Below.refl _ _⟩
  · have hl' : len ≤ 1048576 := by omega
    obtain ⟨n, hn⟩ : ∃ n, n = 1048576 - len := ⟨_, rfl⟩
    have hn1 : n ≤ 1048576 := by omega
    have hs1 : ∀ w, Calls Try.prog 14 #[.slice a len cap, .int .i64 1048576] w fun e w' => e = .returned (.int .i64 (n : Int)) ∧ w' = w := fun w => by rw [hn]; exact szF_in a len cap 1048576 w (Nat.le_refl _) hl'
    have n0 : ¬ ((n : Int) < 0) := by omega
    by_cases hl2 : n < len2
    · clear hn
      go_enter Try.func4, Try.ntmps4
      go_wp2_with fail
      refine (hs1 _).mono ?_
      rintro r w' ⟨rfl, hw⟩
      obtain rfl := hw.symm
      go_wp2_with fail
      refine (szF_over a2 len2 cap2 n _ hn1 hl2 hm2).mono ?_
      rintro r w' ⟨rfl, hw⟩
      obtain rfl := hw.symm
      go_wp2
      go_ret
      exact ⟨rfl, Below.refl _ _⟩
    · have hl2' : len2 ≤ 1048576 := by omega
      have hs2 := szF_in a2 len2 cap2 n w hn1 (by omega)
      have hgl := nvLen len F len2 G
      obtain ⟨T, hT⟩ : ∃ T, Hid (W.nv len F len2 G = T) := ⟨_, rfl⟩
      rw [hT.out] at hgl
      generalize n - len2 = n2 at *
      have n02 : ¬ ((n2 : Int) < 0) := by omega
      clear hl hm hl2 hm2 hn
      go_enter Try.func4, Try.ntmps4
      go_wp2_with fail
      refine (hs1 _).mono ?_
      rintro r w' ⟨rfl, hw⟩
      obtain rfl := hw.symm
      go_wp2_with fail
      refine hs2.mono ?_
      rintro r w' ⟨rfl, hw⟩
      obtain rfl := hw.symm
      clear hs1 hs2
      go_wp2_with fail
      refine (toFactS_any a len cap F _ h hl' hc).mono ?_
      rintro r w1 ⟨x1, rfl, f1, lt1, _, b1⟩
      go_wp2_with fail
      refine (toFactS_any a2 len2 cap2 G _ (h2.below b1) hl2' hc2).mono ?_
      rintro r w2 ⟨x2, rfl, f2, _, _, b2⟩
      have B2 := btrans b1 b2
      go_wp2_with fail
      refine (W.sview_any _ len len F _ len2 len2 G _ (f1.below b2) f2 hl' hl2').mono ?_
      rintro r w3 ⟨v0, rfl, os, b3⟩
      rw [hT.out] at os
      have B3 := btrans B2 b3
      obtain ⟨a0, c0, rfl, hc0, hTl, _⟩ := W.own_facts os
      clear f1 f2 b1 b2 b3 lt1 B2
      go_wp2_with fail
      refine (toFactS_row a len cap F _ (h.below B3) hl' hc).mono ?_
      rintro r w4 ⟨b, rfl, f4, hb4, b4⟩
      have B4 := btrans B3 b4
      have oS := own_below os b4
      have lt4 := f4.lt
      clear b4
      go_wp2_with fail
      refine (toFactS_row a2 len2 cap2 G _ (h2.below B4) hl2' hc2).mono ?_
      rintro r w5 ⟨b', rfl, f5, hb5, b5⟩
      have B5 := btrans B4 b5
      replace oS := own_below oS b5
      have e5 := row_below f4 b5
      have lt5 := f5.lt
      clear b5 f4
      go_wp2_with fail
      refine (W.view_any _ len len F _ len2 len2 G _ (fsl_row e5) (fsl_row f5) hl' hl2').mono ?_
      rintro r w6 ⟨v1, rfl, o1, b6⟩
      rw [hT.out] at o1
      have B6 := btrans B5 b6
      replace oS := own_below oS b6
      have e6 := row_below e5 b6
      have f6 := row_below f5 b6
      obtain ⟨a1, c1, rfl, hc1, _, i1⟩ := W.own_facts o1
      clear b6 e5 f5
      go_wp2_with fail
      obtain ⟨a0', c0', e0', _, _, i0⟩ := W.own_facts oS
      simp only [Value.slice.injEq, true_and] at e0'
      obtain ⟨rfl, rfl⟩ := e0'
      refine (W.eqItemS_same _ _ _ _ _ _ _ i1 i0 (by omega)).mono ?_
      rintro r w7 ⟨rfl, b7⟩
      have B7 := btrans B6 b7
      replace oS := own_below oS b7
      have o17 := own_below o1 b7
      have e7 := row_below e6 b7
      have f7 := row_below f6 b7
      clear b7 e6 f6 i0 i1
      go_wp2_with fail
      refine (toFactS_any a len cap F _ (h.below B7) hl' hc).mono ?_
      rintro r w8 ⟨x8, rfl, f8, _, _, b8⟩
      have B8 := btrans B7 b8
      replace oS := own_below oS b8
      replace o17 := own_below o17 b8
      have e8 := row_below e7 b8
      have f9 := row_below f7 b8
      clear b8 e7 f7
      go_wp2_with fail
      refine (eqFactS_same _ _ len len len F _ (fsl_row e8) f8 hl').mono ?_
      rintro r w9 ⟨rfl, b9⟩
      have B9 := btrans B8 b9
      replace oS := own_below oS b9
      replace o17 := own_below o17 b9
      have e9 := row_below e8 b9
      have f10 := row_below f9 b9
      clear b9 e8 f9 f8
      go_wp2_with fail
      refine (toFactS_any a2 len2 cap2 G _ (h2.below B9) hl2' hc2).mono ?_
      rintro r wa ⟨xa, rfl, fa, _, _, ba⟩
      have Ba := btrans B9 ba
      replace oS := own_below oS ba
      replace o17 := own_below o17 ba
      have ea := row_below e9 ba
      have fb := row_below f10 ba
      clear ba e9 f10
      go_wp2_with fail
      refine (eqFactS_same _ _ len2 len2 len2 G _ (fsl_row fb) fa hl2').mono ?_
      rintro r wb ⟨rfl, bb⟩
      have Bb := btrans Ba bb
      replace oS := own_below oS bb
      replace o17 := own_below o17 bb
      have eb := row_below ea bb
      have fc := row_below fb bb
      clear bb ea fb fa
      go_wp2_with fail
      refine (markFacts_any b len len _ 1 _ eb hl' (by omega)).mono ?_
      rintro r wc ⟨rfl, gc⟩
      have Bc := Bb.grown gc Bb.size (fun k hk => by simp only [Option.some.injEq] at hk; have := B3.size; omega)
      replace o17 := o17.kept gc (ne_ge o17 (by have := B5.size; omega))
      replace oS := oS.kept gc (ne_lt os hb4)
      have fd' := row_keep fc gc (by omega)
      clear gc fc
      go_wp2_with fail
      refine (markFacts_big b' len2 len2 _ (1 + len * 4) _ fd' hl2' (by omega)).mono ?_
      rintro r wd ⟨rfl, gd⟩
      have Bd := Bc.grown gd Bc.size (fun k hk => by simp only [Option.some.injEq] at hk; have := B4.size; omega)
      replace o17 := o17.kept gd (ne_ge o17 (by omega))
      replace oS := oS.kept gd (ne_lt os (by omega))
      generalize 1 + len * 4 + len2 * 4 = M at *
      have m0 : ¬ ((M : Int) < 0) := by omega
      clear gd fd' eb
      go_wp2_with fail
      obtain ⟨a0', c0', e0', _, _, i0⟩ := W.own_facts oS
      simp only [Value.slice.injEq, true_and] at e0'
      obtain ⟨rfl, rfl⟩ := e0'
      obtain ⟨a1', c1', e1', _, _, i1⟩ := W.own_facts o17
      simp only [Value.slice.injEq, true_and] at e1'
      obtain ⟨rfl, rfl⟩ := e1'
      refine (W.eqItemS_same _ _ _ _ _ _ _ i1 i0 (by omega)).mono ?_
      rintro r w11 ⟨rfl, b11⟩
      have B11 := btrans Bd b11
      replace oS := own_below oS b11
      replace o17 := own_below o17 b11
      clear i0 i1 b11
      go_wp2_with fail
      refine (W.markF_own _ _ _ _ _ 1 _ o17 (by omega) (by omega)).mono ?_
      rintro r w12 ⟨rfl, om, g12⟩
      have B12 := B11.grown g12 B11.size (fun k hk => by have := (o1.lt k hk).1; have := B5.size; omega)
      replace oS := oS.kept g12 (ne_two os o1 (by omega))
      clear o17 g12
      go_wp2_with fail
      refine (W.heldF_any _ _ _ 1 _ (W.own_held om) (by omega) (by omega)).mono ?_
      rintro r w13 ⟨rfl, hw⟩
      obtain rfl := hw.symm
      generalize hK : 1 + T.length * 5 = K at *
      have k0 : ¬ ((K : Int) < 0) := by omega
      have k1 : ¬ ((K : Int) ≠ (K : Int)) := by simp
      go_wp2_with fail
      refine (toFactS_any a len cap F _ (h.below B12) hl' hc).mono ?_
      rintro r we ⟨xe, rfl, fe, _, _, be⟩
      have Be := btrans B12 be
      replace oS := own_below oS be
      replace om := own_below om be
      clear be
      go_wp2_with fail
      refine (toFactS_any a2 len2 cap2 G _ (h2.below Be) hl2' hc2).mono ?_
      rintro r wf ⟨xf, rfl, ff, _, _, bf⟩
      have Bf := btrans Be bf
      replace oS := own_below oS bf
      replace om := own_below om bf
      replace fe := fe.below bf
      clear bf
      go_wp2_with fail
      refine (W.view_any _ len len F _ len2 len2 G _ fe ff hl' hl2').mono ?_
      rintro r wg ⟨v2, rfl, ot, bg⟩
      rw [hT.out] at ot
      have Bg := btrans Bf bg
      replace oS := own_below oS bg
      replace om := own_below om bg
      obtain ⟨a3, c3, rfl, hc3, _, i2⟩ := W.own_facts ot
      clear bg fe ff ot
      go_wp2_with fail
      obtain ⟨a0', c0', e0', _, _, i0⟩ := W.own_facts oS
      simp only [Value.slice.injEq, true_and] at e0'
      obtain ⟨rfl, rfl⟩ := e0'
      refine (W.eqItemS_same _ _ _ _ _ _ _ i2 i0 (by omega)).mono ?_
      rintro r w14 ⟨rfl, b14⟩
      have B14 := btrans Bg b14
      replace om := own_below om b14
      clear i0 i2 b14 oS
      go_wp2_with fail
      refine (W.heldF_any _ _ _ 1 _ (W.own_held om) (by omega) (by omega)).mono ?_
      rintro r w15 ⟨rfl, hw⟩
      obtain rfl := hw.symm
      rw [hK]
      clear hK om
      go_wp2
      go_ret
      exact ⟨rfl, B14⟩
end Go.Proofs.Ytfmjjafgipikeaa
