/- The exact law of CastTake, walked. -/
import Derived.Test.YthfafmafhodlkaaISt
import Derived.Test.YthfafmafhodlkaaEqf
import Derived.Test.YthfafmafhodlkaaHeld
namespace Go.Proofs.Ythfafmafhodlkaa.I
open Go.ChangeShapes Go.WideShapes Go.ChangeAt Go.RowKit
attribute [local go_sem ↓] Go.wp_at_zero Go.wp_at_succ
theorem ne_two {w w' : World} {base size n : Nat} {e : TypeId} {v : Value} {xs : List Value} {base' size' n' : Nat} {e' : TypeId} {v' : Value} {xs' : List Value} (h : w.ownsRow base e size v n xs) (h' : w'.ownsRow base' e' size' v' n' xs') (hb : w.heap.size ≤ base') : v.ownBlock = none ∨ v.ownBlock ≠ v'.ownBlock := by
  cases hv : v.ownBlock with
  | none => exact .inl rfl
  | some k => exact .inr fun e => by have := (h.lt k hv).2; have := (h'.lt k e.symm).1; omega
theorem ne_lt {w : World} {base size n b : Nat} {e : TypeId} {v : Value} {xs : List Value} (h : w.ownsRow base e size v n xs) (hb : w.heap.size ≤ b) : v.ownBlock = none ∨ v.ownBlock ≠ some b :=
  .inr fun e => by have := (h.lt b e).2; omega
theorem ne_ge {w : World} {base size n b : Nat} {e : TypeId} {v : Value} {xs : List Value} (h : w.ownsRow base e size v n xs) (hb : b < base) : v.ownBlock = none ∨ v.ownBlock ≠ some b :=
  .inr fun e => by have := (h.lt b e).1; omega
theorem ne_types {w : World} {b1 b2 n n' s1 s2 : Nat} {e1 e2 : TypeId} {v v' : Value} {xs xs' : List Value} (h : w.ownsRow b1 e1 s1 v n xs) (h' : w.ownsRow b2 e2 s2 v' n' xs') (hne : e1 ≠ e2) : v.ownBlock = none ∨ v.ownBlock ≠ v'.ownBlock := by
  rcases h.2 with ⟨rfl, _⟩ | ⟨g, cap, cur, rfl, _, hh, _⟩
  · exact .inl rfl
  · refine .inr fun e => ?_
    rcases h'.2 with ⟨rfl, _⟩ | ⟨g', cap', cur', rfl, _, hh', _⟩
    · simp [Value.ownBlock] at e
    · simp [Value.ownBlock] at e
      subst e
      rw [hh] at hh'
      simp at hh'
      exact hne hh'.2
theorem szI_over (a : Option Addr) (len cap : Nat) (w : World) (h1 : 1048576 < len) (hl : len ≤ maxLen) :
    Calls Try.prog 13 #[.slice a len cap, .int .i64 1048576] w fun e w' => e = .returned (.int .i64 (-1)) ∧ w' = w := by
  refine (szItemS_any a len cap 1048576 w (by omega) (by omega) hl).mono ?_
  rintro e w' ⟨rfl, rfl⟩
  exact ⟨by rw [if_pos (by omega)], rfl⟩
theorem szI_in (a : Option Addr) (len cap : Nat) (w : World) (h1 : len ≤ 1048576) :
    Calls Try.prog 13 #[.slice a len cap, .int .i64 1048576] w fun e w' => ∃ n : Nat, e = .returned (.int .i64 (n : Int)) ∧ w' = w := by
  refine (szItemS_any a len cap 1048576 w (by omega) (by omega) (by unfold maxLen; omega)).mono ?_
  rintro e w' ⟨rfl, rfl⟩
  exact ⟨1048576 - len, by rw [if_neg (by omega)]; congr 2; omega, rfl⟩
theorem row_own {w : World} {b n : Nat} {F : Nat → It} (h : w.rowIs b 36 (n * 5) (tv F)) (hn : n ≤ 1048576) : w.ownsRow b 36 5 (.slice (some ⟨b, 0, none⟩) n n) n (fl (seqF F n)) := by
  obtain ⟨c, h1, h2, h3⟩ := h
  refine ⟨by rw [fl_len, seqF_len], .inr ⟨b, n, c, rfl, Nat.le_refl _, h1, Nat.le_refl _, by unfold maxLen; omega, h2, ?_⟩⟩
  refine List.ext_getElem? fun i => ?_
  by_cases hi : i < n * 5
  · rw [List.getElem?_take_of_lt hi, Array.getElem?_toList, h3 i hi]
    obtain ⟨e0, e1, e2, e3, e4⟩ := fl_get (seqF F n) (i / 5) (by rw [seqF_len]; omega)
    rw [seqF_getD F (by omega)] at e0 e1 e2 e3 e4
    have : i % 5 = 0 ∨ i % 5 = 1 ∨ i % 5 = 2 ∨ i % 5 = 3 ∨ i % 5 = 4 := by omega
    unfold tv
    rcases this with hr | hr | hr | hr | hr
    · rw [show i / 5 * 5 = i by omega] at e0
      simp [hr, e0]
    · rw [show i / 5 * 5 + 1 = i by omega] at e1
      simp [hr, e1]
    · rw [show i / 5 * 5 + 2 = i by omega] at e2
      simp [hr, e2]
    · rw [show i / 5 * 5 + 3 = i by omega] at e3
      simp [hr, e3]
    · rw [show i / 5 * 5 + 4 = i by omega] at e4
      simp [hr, e4]
  · rw [List.getElem?_eq_none (by rw [List.length_take]; omega), List.getElem?_eq_none (by rw [fl_len, seqF_len]; omega)]
theorem takF_len (L : List It) (most : Int) : (takF L most).length ≤ 8 := by
  unfold takF
  split
  · rename_i h
    have := gF_len (tk L most) L
    have := (cok_okL h).2
    omega
  · simp
theorem takL_len (L : List It) (most : Int) : (takL L most).length ≤ 8 := by
  unfold takL
  split
  · rename_i h
    have := gL_len (tk L most) L
    have := (cok_okL h).2
    omega
  · simp
/-- a row read as a list -/
theorem row_list {w : World} {b n : Nat} {F : Nat → It} (h : w.rowIs b 36 (n * 5) (tv F)) : TSl w (some ⟨b, 0, none⟩) (seqF F n).length (fun k => (seqF F n).getD k It.zero) := by
  rw [seqF_len]
  intro h0
  obtain ⟨b', off, e, hlt, hf⟩ := tsl_row h h0
  refine ⟨b', off, e, hlt, fun k hk => ?_⟩
  have := hf k hk
  dsimp only
  rw [seqF_getD F hk]
  exact this
set_option maxRecDepth 20000 in
set_option maxHeartbeats 8000000 in
theorem exCtake_walk (a : Option Addr) (len cap : Nat) (F : Nat → It) (most : Int) (w : World) (h : TSl w a len F) (hc : len ≤ cap) (hm : len ≤ maxLen) :
    Calls Try.prog 5 #[.slice a len cap, .int .i64 most] w fun r w' => r = .returned (.bool true) ∧ Below w.heap.size w w' := by
  by_cases hl : 1048576 < len
  · go_enter Try.func5, Try.ntmps5
    go_wp2_with fail
    refine (szI_over a len cap _ hl hm).mono ?_
    rintro r w' ⟨rfl, hw⟩
    obtain rfl := hw.symm
    go_wp2
    go_ret
    exact ⟨rfl, Below.refl _ _⟩
  · have hl' : len ≤ 1048576 := by omega
    obtain ⟨L, hLe⟩ : ∃ L, Hid (seqF F len = L) := ⟨_, rfl⟩
    have hLl : L.length = len := by rw [← hLe.out, seqF_len]
    have hgF := takF_len L most
    have hgL := takL_len L most
    have spec : Hid (∀ b w, w.rowIs b 36 (len * 5) (tv F) → Calls Try.prog 8 #[.slice (some ⟨b, 0, none⟩) len len, .int .i64 most] w fun e w' => ∃ v8 v9, e = .returned (.tuple #[v8, v9]) ∧ w'.ownsRow w.heap.size 34 4 v8 (takF L most).length (Ythfafmafhodlkaa.fl (takF L most)) ∧ w'.ownsRow w.heap.size 36 5 v9 (takL L most).length (fl (takL L most)) ∧ Below w.heap.size w w') := fun b w hr => by
      have h1 := row_list hr
      rw [hLe.out] at h1
      have := sctake_any (some ⟨b, 0, none⟩) len L most w h1 (by omega)
      rwa [hLl] at this
    have impl : Hid (∀ b w, w.rowIs b 36 (len * 5) (tv F) → Calls Try.prog 7 #[.slice (some ⟨b, 0, none⟩) len len, .int .i64 most] w fun e w' => ∃ v8 v9, e = .returned (.tuple #[v8, v9]) ∧ w'.ownsRow w.heap.size 34 4 v8 (takF L most).length (Ythfafmafhodlkaa.fl (takF L most)) ∧ w'.ownsRow w.heap.size 36 5 v9 (takL L most).length (fl (takL L most)) ∧ Below w.heap.size w w') := fun b w hr => by
      have h1 := row_list hr
      rw [hLe.out] at h1
      have := ctake_any (some ⟨b, 0, none⟩) len L most w h1 (by omega)
      rwa [hLl] at this
    generalize takF L most = TF at *
    generalize takL L most = TL at *
    clear hl hm hLe hLl
    go_enter Try.func5, Try.ntmps5
    go_wp2_with fail
    refine (szI_in a len cap _ hl').mono ?_
    rintro r w' ⟨n, rfl, hw⟩
    obtain rfl := hw.symm
    have n0 : ¬ ((n : Int) < 0) := by omega
    go_wp2_with fail
    refine (toItemS_any a len cap F _ h hl' hc).mono ?_
    rintro r w1 ⟨x1, rfl, f1, hx1, B1⟩
    go_wp2_with fail
    refine (spec.out x1 w1 f1).mono ?_
    rintro r w2 ⟨s8, s9, rfl, os8, os9, b2⟩
    have B2 := btrans B1 b2
    obtain ⟨a8, c8, rfl, -, -, -⟩ := Ythfafmafhodlkaa.own_facts os8
    obtain ⟨a9, c9, rfl, -, -, -⟩ := own_facts os9
    clear b2 f1
    go_wp2_with fail
    refine (toItemS_any a len cap F _ (h.below B2) hl' hc).mono ?_
    rintro r w3 ⟨b, rfl, f3, hb3, b3⟩
    have B3 := btrans B2 b3
    have oS8 := own_below os8 b3
    have oS9 := own_below os9 b3
    have lt3 := f3.lt
    clear b3
    go_wp2_with fail
    refine (impl.out b w3 f3).mono ?_
    rintro r w4 ⟨g8, g9, rfl, og8, og9, b4⟩
    have B4 := btrans B3 b4
    obtain ⟨e8, k8, rfl, -, -, i8⟩ := Ythfafmafhodlkaa.own_facts og8
    obtain ⟨e9, k9, rfl, -, -, i9⟩ := own_facts og9
    replace oS8 := own_below oS8 b4
    replace oS9 := own_below oS9 b4
    have f4 := row_below f3 b4
    have oG8 := og8
    have oG9 := og9
    clear b4
    obtain ⟨_, _, q, -, -, j8⟩ := Ythfafmafhodlkaa.own_facts oS8
    cases q
    obtain ⟨_, _, q, -, -, j9⟩ := own_facts oS9
    cases q
    go_wp2_with fail
    refine (eqFactS_same _ _ _ _ _ _ _ i8 j8 (by omega)).mono ?_
    rintro r w5 ⟨rfl, b5⟩
    have B5 := btrans B4 b5
    replace oS8 := own_below oS8 b5
    replace oS9 := own_below oS9 b5
    replace oG8 := own_below oG8 b5
    replace oG9 := own_below oG9 b5
    have f5 := row_below f4 b5
    replace i9 := i9.below b5
    replace j9 := j9.below b5
    clear b5 i8 j8 f4
    go_wp2_with fail
    refine (eqItemS_same _ _ _ _ _ _ _ i9 j9 (by omega)).mono ?_
    rintro r w6 ⟨rfl, b6⟩
    have B6 := btrans B5 b6
    replace oS8 := own_below oS8 b6
    replace oS9 := own_below oS9 b6
    replace oG8 := own_below oG8 b6
    replace oG9 := own_below oG9 b6
    have f6 := row_below f5 b6
    clear b6 i9 j9 f5
    go_wp2_with fail
    refine (toItemS_any a len cap F _ (h.below B6) hl' hc).mono ?_
    rintro r w7 ⟨x7, rfl, f7, _, b7⟩
    have B7 := btrans B6 b7
    replace oS8 := own_below oS8 b7
    replace oS9 := own_below oS9 b7
    replace oG8 := own_below oG8 b7
    replace oG9 := own_below oG9 b7
    replace f6 := row_below f6 b7
    clear b7
    go_wp2_with fail
    refine (eqItemS_same _ _ len len len F _ (tsl_row f6) (tsl_row f7) hl').mono ?_
    rintro r w8 ⟨rfl, b8⟩
    have B8 := btrans B7 b8
    replace oS8 := own_below oS8 b8
    replace oS9 := own_below oS9 b8
    replace oG8 := own_below oG8 b8
    replace oG9 := own_below oG9 b8
    replace f6 := row_below f6 b8
    clear b8 f7
    go_wp2_with fail
    refine (markF_own b len len _ _ 1 _ (row_own f6 hl') hl' (by omega)).mono ?_
    rintro r w9 ⟨rfl, _, g9'⟩
    have g9 : w8.grownBy w9 (some b) := g9'
    clear g9'
    have B9 := B8.grown g9 B8.size (fun k hk => by simp only [Option.some.injEq] at hk; have := B2.size; omega)
    replace oG8 := oG8.kept g9 (ne_ge oG8 lt3)
    replace oG9 := oG9.kept g9 (ne_ge oG9 lt3)
    replace oS8 := oS8.kept g9 (ne_lt os8 hb3)
    replace oS9 := oS9.kept g9 (ne_lt os9 hb3)
    generalize 1 + len * 5 = M at *
    have m0 : ¬ ((M : Int) < 0) := by omega
    clear g9 f6
    obtain ⟨_, _, q, -, -, i8⟩ := Ythfafmafhodlkaa.own_facts oG8
    cases q
    obtain ⟨_, _, q, -, -, i9⟩ := own_facts oG9
    cases q
    obtain ⟨_, _, q, -, -, j8⟩ := Ythfafmafhodlkaa.own_facts oS8
    cases q
    obtain ⟨_, _, q, -, -, j9⟩ := own_facts oS9
    cases q
    go_wp2_with fail
    refine (eqFactS_same _ _ _ _ _ _ _ i8 j8 (by omega)).mono ?_
    rintro r w10 ⟨rfl, b10⟩
    have B10 := btrans B9 b10
    replace oS8 := own_below oS8 b10
    replace oS9 := own_below oS9 b10
    replace oG8 := own_below oG8 b10
    replace oG9 := own_below oG9 b10
    replace i9 := i9.below b10
    replace j9 := j9.below b10
    clear b10 i8 j8
    go_wp2_with fail
    refine (eqItemS_same _ _ _ _ _ _ _ i9 j9 (by omega)).mono ?_
    rintro r w11 ⟨rfl, b11⟩
    have B11 := btrans B10 b11
    replace oS8 := own_below oS8 b11
    replace oS9 := own_below oS9 b11
    replace oG8 := own_below oG8 b11
    replace oG9 := own_below oG9 b11
    clear b11 i9 j9
    go_wp2_with fail
    refine (Ythfafmafhodlkaa.markF_own _ _ _ _ _ 1 _ oG8 (by omega) (by omega)).mono ?_
    rintro r w12 ⟨rfl, om8, g12⟩
    have B12 := B11.grown g12 B11.size (fun k hk => by have := (og8.lt k hk).1; have := B3.size; omega)
    replace oS8 := oS8.kept g12 (ne_two os8 og8 (by omega))
    replace oS9 := oS9.kept g12 (ne_two os9 og8 (by omega))
    replace oG9 := oG9.kept g12 (ne_types oG9 oG8 (by decide))
    clear g12 oG8
    generalize hK8 : 1 + TF.length * 4 = K8 at *
    go_wp2_with fail
    refine (markF_own _ _ _ _ _ K8 _ oG9 (by omega) (by omega)).mono ?_
    rintro r w13 ⟨rfl, om9, g13⟩
    have B13 := B12.grown g13 B12.size (fun k hk => by have := (og9.lt k hk).1; have := B3.size; omega)
    replace oS8 := oS8.kept g13 (ne_two os8 og9 (by omega))
    replace oS9 := oS9.kept g13 (ne_two os9 og9 (by omega))
    replace om8 := om8.kept g13 (ne_types om8 oG9 (by decide))
    clear g13 oG9
    generalize hK9 : K8 + TL.length * 5 = K9 at *
    have k0 : ¬ ((K8 : Int) < 0) := by omega
    have k1 : ¬ ((K9 : Int) < 0) := by omega
    have k2 : ¬ ((K9 : Int) ≠ (K9 : Int)) := by simp
    have hh8 : Hid (∀ w, w.ownsRow w3.heap.size 34 4 (.slice e8 TF.length k8) TF.length (Ythfafmafhodlkaa.fl (Ythfafmafhodlkaa.mkF 1 TF.length)) → Calls Try.prog 19 #[.slice e8 TF.length k8, .int .i64 1] w fun e w' => e = .returned (.int .i64 (K8 : Int)) ∧ w' = w) := fun w ho => by
      have := Ythfafmafhodlkaa.heldF_any e8 TF.length k8 1 w (Ythfafmafhodlkaa.own_held ho) (by omega) (by omega)
      rwa [hK8] at this
    have hh9 : Hid (∀ w, w.ownsRow w3.heap.size 36 5 (.slice e9 TL.length k9) TL.length (fl (mkF K8 TL.length)) → Calls Try.prog 20 #[.slice e9 TL.length k9, .int .i64 (K8 : Int)] w fun e w' => e = .returned (.int .i64 (K9 : Int)) ∧ w' = w) := fun w ho => by
      have := heldF_any e9 TL.length k9 K8 w (own_held ho) (by omega) (by omega)
      rwa [hK9] at this
    clear hK8 hK9
    go_wp2_with fail
    refine (hh8.out _ om8).mono ?_
    rintro r w' ⟨rfl, hw⟩
    obtain rfl := hw.symm
    go_wp2_with fail
    refine (hh9.out _ om9).mono ?_
    rintro r w' ⟨rfl, hw⟩
    obtain rfl := hw.symm
    go_wp2_with fail
    refine (toItemS_any a len cap F _ (h.below B13) hl' hc).mono ?_
    rintro r w14 ⟨x14, rfl, f14, _, b14⟩
    have B14 := btrans B13 b14
    replace oS8 := own_below oS8 b14
    replace oS9 := own_below oS9 b14
    replace om8 := own_below om8 b14
    replace om9 := own_below om9 b14
    clear b14
    go_wp2_with fail
    refine (impl.out x14 w14 f14).mono ?_
    rintro r w15 ⟨h8, h9, rfl, oh8, oh9, b15⟩
    have B15 := btrans B14 b15
    obtain ⟨_, _, rfl, -, -, i8⟩ := Ythfafmafhodlkaa.own_facts oh8
    obtain ⟨_, _, rfl, -, -, i9⟩ := own_facts oh9
    replace oS8 := own_below oS8 b15
    replace oS9 := own_below oS9 b15
    replace om8 := own_below om8 b15
    replace om9 := own_below om9 b15
    obtain ⟨_, _, q, -, -, j8⟩ := Ythfafmafhodlkaa.own_facts oS8
    cases q
    obtain ⟨_, _, q, -, -, j9⟩ := own_facts oS9
    cases q
    clear b15 f14
    go_wp2_with fail
    refine (eqFactS_same _ _ _ _ _ _ _ i8 j8 (by omega)).mono ?_
    rintro r w16 ⟨rfl, b16⟩
    have B16 := btrans B15 b16
    replace om8 := own_below om8 b16
    replace om9 := own_below om9 b16
    replace i9 := i9.below b16
    replace j9 := j9.below b16
    clear b16 i8 j8
    go_wp2_with fail
    refine (eqItemS_same _ _ _ _ _ _ _ i9 j9 (by omega)).mono ?_
    rintro r w17 ⟨rfl, b17⟩
    have B17 := btrans B16 b17
    replace om8 := own_below om8 b17
    replace om9 := own_below om9 b17
    clear b17 i9 j9
    go_wp2_with fail
    refine (hh8.out _ om8).mono ?_
    rintro r w' ⟨rfl, hw⟩
    obtain rfl := hw.symm
    go_wp2_with fail
    refine (hh9.out _ om9).mono ?_
    rintro r w' ⟨rfl, hw⟩
    obtain rfl := hw.symm
    go_wp2
    go_ret
    exact ⟨rfl, B17⟩
end Go.Proofs.Ythfafmafhodlkaa.I
