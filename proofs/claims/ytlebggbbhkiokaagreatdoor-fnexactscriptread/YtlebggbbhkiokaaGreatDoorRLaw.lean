/- Marks in lists of events; the exact law of ScriptRead, walked. -/
import Derived.Test.YtlebggbbhkiokaaGreatDoorRSr
import Derived.Test.YtlebggbbhkiokaaGreatDoorRRd
namespace Go.Proofs.YtlebggbbhkiokaaGreatDoor
open Go.ChangeShapes Go.WideShapes Go.ChangeAt Go.RowKit
attribute [local go_sem ↓] Go.wp_at_zero Go.wp_at_succ
set_option maxRecDepth 20000 in
theorem fl_len (T : List Fc) : (fl T).length = T.length * 4 := by
  induction T with
  | nil => rfl
  | cons f r ih => simp [fl] at *; omega
set_option maxRecDepth 20000 in
theorem fl_get (T : List Fc) : ∀ k, k < T.length → (fl T)[k * 4]? = some (.int .i64 (T.getD k Fc.zero).n) ∧ (fl T)[k * 4 + 1]? = some (.int .i64 (T.getD k Fc.zero).i) ∧ (fl T)[k * 4 + 2]? = some (.int .i64 (T.getD k Fc.zero).s) ∧ (fl T)[k * 4 + 3]? = some (.bool (T.getD k Fc.zero).g) := by
  induction T with
  | nil => intro k hk; simp at hk
  | cons f r ih =>
    intro k hk
    have e : fl (f :: r) = [.int .i64 f.n, .int .i64 f.i, .int .i64 f.s, .bool f.g] ++ fl r := by simp [fl]
    rw [e]
    match k, hk with
    | 0, _ => simp
    | k + 1, hk =>
      have := ih k (by simpa using hk)
      rw [show (k + 1) * 4 = k * 4 + 4 by omega]
      simpa [List.getElem?_append] using this
/-- a list of its own, as the laws read it -/
theorem own_facts {w : World} {base : Nat} {v : Value} {n : Nat} {T : List Fc} (h : w.ownsRow base 31 4 v n (fl T)) : ∃ a cap, v = .slice a n cap ∧ n ≤ cap ∧ T.length = n ∧ FSl w a n (fun k => T.getD k Fc.zero) := by
  have h0 := h
  have hl : T.length = n := by have := h.1; rw [fl_len] at this; omega
  rcases h.2 with ⟨rfl, rfl⟩ | ⟨g, cap, cur, rfl, hg, hh, hc, _⟩
  · exact ⟨none, 0, rfl, Nat.le_refl _, hl, fun h => by omega⟩
  · refine ⟨_, cap, rfl, hc, hl, fun _ => ⟨g, 0, rfl, lt_of_block hh, fun k hk => ?_⟩⟩
    obtain ⟨e0, e1, e2, e3⟩ := fl_get T k (by omega)
    simp only [Nat.zero_add]
    exact ⟨(h0.cellAt _ (by omega)).trans e0, (h0.cellAt _ (by omega)).trans e1, (h0.cellAt _ (by omega)).trans e2, (h0.cellAt _ (by omega)).trans e3⟩
set_option maxRecDepth 20000 in
theorem own_sliceF {w : World} {base n : Nat} {v : Value} {xs : List Value} (h : w.ownsRow base 31 4 v n xs) : (v = .slice none 0 0 ∧ n = 0) ∨ ∃ g cap, v = .slice (some ⟨g, 0, none⟩) n cap ∧ base ≤ g ∧ g < w.heap.size ∧ n ≤ cap := by
  rcases h.2 with ⟨rfl, hn⟩ | ⟨g, cap, cur, rfl, hg, hh, hc, _⟩
  · exact .inl ⟨rfl, hn⟩
  · exact .inr ⟨g, cap, rfl, hg, lt_of_block hh, hc⟩
set_option maxRecDepth 20000 in
theorem fl_set (T : List Fc) : ∀ (j : Nat) (f : Fc), j < T.length → fl (T.set j f) = ((((fl T).set (j * 4) (.int .i64 f.n)).set (j * 4 + 1) (.int .i64 f.i)).set (j * 4 + 2) (.int .i64 f.s)).set (j * 4 + 3) (.bool f.g) := by
  induction T with
  | nil => intro j f h; simp at h
  | cons g r ih =>
    intro j f h
    have e : ∀ (g : Fc) (r : List Fc), fl (g :: r) = .int .i64 g.n :: .int .i64 g.i :: .int .i64 g.s :: .bool g.g :: fl r := fun g r => by simp [fl]
    match j, h with
    | 0, _ => rw [List.set_cons_zero, e, e]; rfl
    | j + 1, h =>
      rw [List.set_cons_succ, e, e, ih j f (by simpa using h), show (j + 1) * 4 = j * 4 + 4 by omega]
      rfl
theorem grown_trans {w1 w2 w3 : World} {r : Option Nat} (h1 : w1.grownBy w2 r) (h2 : w2.grownBy w3 r) : w1.grownBy w3 r := ⟨h2.os.trans h1.os, h2.tape.trans h1.tape, h2.output.trans h1.output, Nat.le_trans h1.size h2.size, fun k hk hr => (h2.block k (Nat.lt_of_lt_of_le hk h1.size) hr).trans (h1.block k hk hr)⟩
/-- a mark -/
def mkf (k : Int) : Fc := ⟨k, k + 1, k + 1 + 1, (k + 1 + 1 + 1) % 3 == 0⟩
def mkF (k0 n : Nat) : List Fc := (List.range n).map fun (j : Nat) => mkf ((k0 : Int) + (j : Int) * 4)
set_option maxRecDepth 20000 in
theorem mkF_len (k0 n : Nat) : (mkF k0 n).length = n := by simp [mkF]
set_option maxRecDepth 20000 in
theorem mkF_set (k0 k n : Nat) (T : List Fc) (hT : T.length = n) (hk : k < n) : (mkF k0 k ++ T.drop k).set k (mkf ((k0 : Int) + (k : Int) * 4)) = mkF k0 (k + 1) ++ T.drop (k + 1) := by
  have e1 : T.drop k = T[k]'(by omega) :: T.drop (k + 1) := List.drop_eq_getElem_cons (by omega)
  rw [e1, List.set_append_right _ _ (by rw [mkF_len]; exact Nat.le_refl _), mkF_len, Nat.sub_self, List.set_cons_zero]
  simp [mkF, List.range_succ]
set_option maxRecDepth 20000 in
set_option maxHeartbeats 2000000 in
theorem markF_any (base g n cap : Nat) (T : List Fc) (k0 : Nat) (w : World) (h : w.ownsRow base 31 4 (.slice (some ⟨g, 0, none⟩) n cap) n (fl T)) (hl : n ≤ 1048576) (hk0 : k0 ≤ 1048576) :
    Calls Tryz.prog 7 #[.slice (some ⟨g, 0, none⟩) n cap, .int .i64 (k0 : Int)] w fun e w' => e = .returned (.int .i64 ((k0 + n * 4 : Nat) : Int)) ∧ w'.ownsRow base 31 4 (.slice (some ⟨g, 0, none⟩) n cap) n (fl (mkF k0 n)) ∧ w.grownBy w' (some g) := by
  have hT : T.length = n := by have := h.1; rw [fl_len] at this; omega
  go_enter Tryz.func7, Tryz.ntmps7
  go_wp2
  go_loopw [1, 5] (fun x i wr => ∃ k : Nat, k ≤ n ∧ i = .int .i64 k ∧ x = .int .i64 ((k0 + k * 4 : Nat) : Int) ∧ w.grownBy wr (some g) ∧ wr.ownsRow base 31 4 (.slice (some ⟨g, 0, none⟩) n cap) n (fl (mkF k0 k ++ T.drop k))) (fun _ i _ => n - (intOf i).toNat)
  case atStart => exact ⟨0, Nat.zero_le _, rfl, rfl, World.grownBy.refl _ _, by simpa [mkF] using h⟩
  case round =>
    obtain ⟨k, hk, rfl, rfl, hg, hr⟩ := hrel
    by_cases hlt : k < n
    · have i0 : (0 : Int) ≤ (k : Int) := by omega
      have i1 : (k : Int) < (n : Int) := by omega
      have hl2 : (mkF k0 k ++ T.drop k).length = n := by simp [mkF_len, hT]; omega
      obtain ⟨t0, t1, t2, t3⟩ := fl_get (mkF k0 k ++ T.drop k) k (by omega)
      have c0 := (hr.cellAt (k * 4) (by omega)).trans t0
      have c1 := (hr.cellAt (k * 4 + 1) (by omega)).trans t1
      have c2 := (hr.cellAt (k * 4 + 2) (by omega)).trans t2
      have c3 := (hr.cellAt (k * 4 + 3) (by omega)).trans t3
      have f0 := hr.frozenAt (k * 4)
      have f1 := hr.frozenAt (k * 4 + 1)
      have f2 := hr.frozenAt (k * 4 + 2)
      have f3 := hr.frozenAt (k * 4 + 3)
      obtain ⟨a0, b0⟩ := hr.stored (k * 4) (.int .i64 (mkf ((k0 : Int) + (k : Int) * 4)).n)
      obtain ⟨a1, b1⟩ := a0.stored (k * 4 + 1) (.int .i64 (mkf ((k0 : Int) + (k : Int) * 4)).i)
      obtain ⟨a2, b2⟩ := a1.stored (k * 4 + 2) (.int .i64 (mkf ((k0 : Int) + (k : Int) * 4)).s)
      obtain ⟨a3, b3⟩ := a2.stored (k * 4 + 3) (.bool (mkf ((k0 : Int) + (k : Int) * 4)).g)
      rw [← fl_set _ k (mkf ((k0 : Int) + (k : Int) * 4)) (by omega), mkF_set k0 k n T hT hlt] at a3
      have gg := grown_trans (grown_trans (grown_trans (grown_trans hg b0) b1) b2) b3
      clear t0 t1 t2 t3 a0 a1 a2 b0 b1 b2 b3 hr hg
      go_wp2
      go_roundw
      case rel => exact ⟨k + 1, by omega, by go_num, by go_num, gg, a3⟩
      case measure => simp [intOf]; omega
    · go_wp2
      go_ret
      have e : k = n := by omega
      subst e
      rw [List.drop_of_length_le (by omega), List.append_nil] at hr
      exact ⟨rfl, hr, hg⟩
set_option maxRecDepth 20000 in
theorem markF_nil (k0 : Nat) (w : World) :
    Calls Tryz.prog 7 #[.slice none 0 0, .int .i64 (k0 : Int)] w fun e w' => e = .returned (.int .i64 (k0 : Int)) ∧ w' = w := by
  go_enter Tryz.func7, Tryz.ntmps7
  go_wp2
  refine wp_loop_rounds 1 ?_
  rw [rounds_succ]
  go_wp2
  go_ret
  exact ⟨rfl, rfl⟩
set_option maxRecDepth 20000 in
theorem markF_own (base n cap : Nat) (a : Option Addr) (T : List Fc) (k0 : Nat) (w : World) (h : w.ownsRow base 31 4 (.slice a n cap) n (fl T)) (hl : n ≤ 1048576) (hk0 : k0 ≤ 1048576) :
    Calls Tryz.prog 7 #[.slice a n cap, .int .i64 (k0 : Int)] w fun e w' => e = .returned (.int .i64 ((k0 + n * 4 : Nat) : Int)) ∧ w'.ownsRow base 31 4 (.slice a n cap) n (fl (mkF k0 n)) ∧ w.grownBy w' (Value.slice a n cap).ownBlock := by
  rcases own_sliceF h with ⟨e, rfl⟩ | ⟨g, c, e, _⟩
  · simp only [Value.slice.injEq, true_and] at e
    obtain ⟨rfl, rfl⟩ := e
    exact (markF_nil k0 w).mono (by rintro r w' ⟨rfl, rfl⟩; exact ⟨rfl, World.ownsRow_nil w' base 31 4, World.grownBy.refl _ _⟩)
  · simp only [Value.slice.injEq, true_and] at e
    obtain ⟨rfl, rfl⟩ := e
    exact markF_any base g n cap T k0 w h hl hk0
/-- what was marked is held -/
theorem own_held {w : World} {base k0 n cap : Nat} {a : Option Addr} (h : w.ownsRow base 31 4 (.slice a n cap) n (fl (mkF k0 n))) : FSl w a n (fun j => mkf ((k0 : Int) + (j : Int) * 4)) := by
  obtain ⟨a', c', e, _, _, hF⟩ := own_facts h
  simp only [Value.slice.injEq, true_and] at e
  obtain ⟨rfl, rfl⟩ := e
  intro hn
  obtain ⟨b, off, e, hb, hf⟩ := hF hn
  refine ⟨b, off, e, hb, fun k hk => ?_⟩
  have := hf k hk
  have e2 : (mkF k0 n).getD k Fc.zero = mkf ((k0 : Int) + (k : Int) * 4) := by simp [mkF, List.getD, hk]
  simp only [e2] at this
  exact this
theorem ne_two {w w' : World} {base size n : Nat} {e : TypeId} {v : Value} {xs : List Value} {base' size' n' : Nat} {e' : TypeId} {v' : Value} {xs' : List Value} (h : w.ownsRow base e size v n xs) (h' : w'.ownsRow base' e' size' v' n' xs') (hb : w.heap.size ≤ base') : v.ownBlock = none ∨ v.ownBlock ≠ v'.ownBlock := by
  cases hv : v.ownBlock with
  | none => exact .inl rfl
  | some k => exact .inr fun e => by have := (h.lt k hv).2; have := (h'.lt k e.symm).1; omega
set_option maxHeartbeats 2000000 in
theorem heldF_any (a : Option Addr) (n cap : Nat) (k0 : Nat) (w : World) (h : FSl w a n (fun j => mkf ((k0 : Int) + (j : Int) * 4))) (hl : n ≤ 1048576) (hk0 : k0 ≤ 1048576) :
    Calls Tryz.prog 8 #[.slice a n cap, .int .i64 (k0 : Int)] w fun e w' => e = .returned (.int .i64 ((k0 + n * 4 : Nat) : Int)) ∧ w' = w := by
  go_enter Tryz.func8, Tryz.ntmps8
  go_wp2
  go_loopw [1, 5] (fun x i wr => ∃ k : Nat, k ≤ n ∧ i = .int .i64 k ∧ x = .int .i64 ((k0 + k * 4 : Nat) : Int) ∧ wr = w) (fun _ i _ => n - (intOf i).toNat)
  case atStart => exact ⟨0, Nat.zero_le _, rfl, rfl, rfl⟩
  case round =>
    obtain ⟨k, hk, rfl, rfl, rfl⟩ := hrel
    by_cases hlt : k < n
    · have i0 : (0 : Int) ≤ (k : Int) := by omega
      have i1 : (k : Int) < (n : Int) := by omega
      obtain ⟨b, off, rfl, hbl, hf⟩ := h (by omega)
      obtain ⟨d0, d1, d2, d3⟩ := hf k hlt
      simp only [mkf] at d0 d1 d2 d3
      have e0 : ((((k0 : Int) + (k : Int) * 4 + 1 + 1 + 1) % 3 == 0) != (((k0 : Int) + (k : Int) * 4 + 1 + 1 + 1) % 3 == 0)) = false := by simp
      go_wp2
      go_roundw
      case rel => exact ⟨k + 1, by omega, by go_num, by go_num, by simp⟩
      case measure => simp [intOf]; omega
    · go_wp2
      go_ret
      have e : k = n := by omega
      subst e
      exact ⟨rfl, rfl⟩
theorem eq_lists (a a' : Option Addr) (n cap cap' : Nat) (T : List Fc) (w : World) (h : FSl w a n (fun k => T.getD k Fc.zero)) (h' : FSl w a' n (fun k => T.getD k Fc.zero)) (hl : n ≤ 1048576) :
    Calls Tryz.prog 6 #[.slice a n cap, .slice a' n cap'] w fun e w' => e = .returned (.bool true) ∧ Below w.heap.size w w' := eqFactS_same a a' n cap cap' _ w h h' hl
theorem out_len {T : List UInt8} {n : Nat} {F : Nat → Fc} {at_ : Int} {ok : Bool} (h : Out T n F at_ ok) : n ≤ 4001 := by
  rcases h with ⟨_, h, _⟩ | ⟨h, ⟨h1, _⟩, _⟩ | ⟨_, _, _, _, h, _⟩
  · omega
  · have := cutL_len 10 T.length T (Nat.le_refl _)
    omega
  · omega
set_option maxRecDepth 20000 in
set_option maxHeartbeats 8000000 in
theorem exScriptRead_walk (s : ByteArray) (w : World) (hp : Pst w) :
    Calls Tryz.prog 3 #[.string s] w fun r w' => r = .returned (.bool true) ∧ Below w.heap.size w w' := by
  by_cases hl : 1048576 < s.size
  · have hl' : (1048576 : Int) < (s.size : Int) := by omega
    go_enter Tryz.func3, Tryz.ntmps3
    go_wp2
    go_ret
    exact ⟨rfl, Below.refl _ _⟩
  · have hl' : ¬ (1048576 : Int) < (s.size : Int) := by omega
    obtain ⟨n, F, at_, ok, hO⟩ := out_is s.data.toList
    have hn := out_len hO
    have hn8 : n ≤ 1048576 := by omega
    have hS : Hid (∀ w, Calls Tryz.prog 4 #[.string s] w fun e w' => Rows3 w n F at_ ok e w') := fun w => ssr_any s.data.toList n F at_ ok hO w
    have hI : Hid (∀ w, Pst w → Calls Tryz.prog 5 #[.string s] w fun e w' => Rows3 w n F at_ ok e w') := fun w hp => isr_any s.data.toList n F at_ ok hO w hp
    obtain ⟨L, hL⟩ : ∃ L, seqF F n = L := ⟨_, rfl⟩
    have qa : (at_ != at_) = false := by simp
    have qq : (ok != ok) = false := by simp
    clear hO
    go_enter Tryz.func3, Tryz.ntmps3
    go_wp2_with fail
    refine (hS.out _).mono ?_
    rintro _ w1 ⟨v0, rfl, os, B1⟩
    rw [hL] at os
    obtain ⟨a0, c0, rfl, hc0, -, -⟩ := own_facts os
    go_wp2_with fail
    refine (hI.out _ (hp.below B1)).mono ?_
    rintro _ w2 ⟨v1, rfl, o1, b2⟩
    rw [hL] at o1
    obtain ⟨a1, c1, rfl, hc1, -, i1⟩ := own_facts o1
    have B2 := btrans B1 b2
    have oS := own_below os b2
    clear b2
    obtain ⟨a0', c0', e0', -, -, i0⟩ := own_facts oS
    simp only [Value.slice.injEq, true_and] at e0'
    obtain ⟨rfl, rfl⟩ := e0'
    go_wp2_with fail
    refine (eq_lists _ _ _ _ _ _ _ i1 i0 hn8).mono ?_
    rintro r w3 ⟨rfl, b3⟩
    have B3 := btrans B2 b3
    replace oS := own_below oS b3
    have o17 := own_below o1 b3
    clear b3 i0 i1
    go_wp2_with fail
    refine (markF_own _ _ _ _ _ 1 _ o17 hn8 (by omega)).mono ?_
    rintro r w4 ⟨rfl, om, g4⟩
    have B4 := B3.grown g4 B3.size (fun k hk => by have := (o1.lt k hk).1; have := B1.size; omega)
    replace oS := oS.kept g4 (ne_two os o1 (Nat.le_refl _))
    clear o17 g4
    go_wp2_with fail
    refine (heldF_any _ _ _ 1 _ (own_held om) hn8 (by omega)).mono ?_
    rintro r w5 ⟨rfl, hw⟩
    obtain rfl := hw.symm
    generalize hK : 1 + n * 4 = K at *
    have k0 : ¬ ((K : Int) < 0) := by omega
    have k1 : ¬ ((K : Int) ≠ (K : Int)) := by simp
    go_wp2_with fail
    refine (hI.out _ (hp.below B4)).mono ?_
    rintro _ w6 ⟨v2, rfl, o2, b6⟩
    rw [hL] at o2
    obtain ⟨a2, c2, rfl, hc2, -, i2⟩ := own_facts o2
    have B6 := btrans B4 b6
    replace oS := own_below oS b6
    replace om := own_below om b6
    clear b6 hS hI hL
    obtain ⟨a0', c0', e0', -, -, i0⟩ := own_facts oS
    simp only [Value.slice.injEq, true_and] at e0'
    obtain ⟨rfl, rfl⟩ := e0'
    go_wp2_with fail
    refine (eq_lists _ _ _ _ _ _ _ i2 i0 hn8).mono ?_
    rintro r w7 ⟨rfl, b7⟩
    have B7 := btrans B6 b7
    replace om := own_below om b7
    clear i0 i2 b7 oS
    go_wp2_with fail
    refine (heldF_any _ _ _ 1 _ (own_held om) hn8 (by omega)).mono ?_
    rintro r w8 ⟨rfl, hw⟩
    obtain rfl := hw.symm
    rw [hK]
    clear hK om
    go_wp2
    go_ret
    exact ⟨rfl, B7⟩
end Go.Proofs.YtlebggbbhkiokaaGreatDoor
