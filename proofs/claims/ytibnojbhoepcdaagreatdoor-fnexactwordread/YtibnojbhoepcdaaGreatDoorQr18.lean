/- Texts of the proof, laid together: Mark, ExParse, ExWr. -/
import Derived.Test.YtibnojbhoepcdaaGreatDoorQr3
import Derived.Test.YtibnojbhoepcdaaGreatDoorQr13
import Derived.Test.YtibnojbhoepcdaaGreatDoorQr17
/- Marks in lists of facts of their own. -/
namespace Go.Proofs.YtibnojbhoepcdaaGreatDoor
open Go.ChangeShapes Go.WideShapes Go.ChangeAt Go.RowKit
attribute [local go_sem ↓] Go.wp_at_zero Go.wp_at_succ
/-- a mark -/
def mkf (k : Int) : Fc := ⟨k, k + 1, k + 1 + 1, (k + 1 + 1 + 1) % 3 == 0⟩
def mkF (k0 n : Nat) : List Fc := (List.range n).map fun (j : Nat) => mkf ((k0 : Int) + (j : Int) * 4)
set_option maxRecDepth 20000 in
theorem mkF_len (k0 n : Nat) : (mkF k0 n).length = n := by simp [mkF]
set_option maxRecDepth 20000 in
theorem mkF_set (k0 k n : Nat) (T : List Fc) (hT : T.length = n) (hk : k < n) : (mkF k0 k ++ T.drop k).set k (mkf ((k0 : Int) + (k : Int) * 4)) = mkF k0 (k + 1) ++ T.drop (k + 1) := by
  have e1 : T.drop k = T[k]'(by omega) :: T.drop (k + 1) := List.drop_eq_getElem_cons (by omega)
  rw [e1, List.set_append_right _ _ (by rw [mkF_len]; exact Nat.le_refl _), mkF_len, Nat.sub_self, List.set_cons_zero]
  simp [mkF, List.range_succ]
set_option maxRecDepth 20000 in
set_option maxHeartbeats 2000000 in
theorem markF_any (base g n cap : Nat) (T : List Fc) (k0 : Nat) (w : World) (h : w.ownsRow base 53 4 (.slice (some ⟨g, 0, none⟩) n cap) n (fl T)) (hl : n ≤ 1048576) (hk0 : k0 ≤ 1048576) :
    Calls Tryz.prog 66 #[.slice (some ⟨g, 0, none⟩) n cap, .int .i64 (k0 : Int)] w fun e w' => e = .returned (.int .i64 ((k0 + n * 4 : Nat) : Int)) ∧ w'.ownsRow base 53 4 (.slice (some ⟨g, 0, none⟩) n cap) n (fl (mkF k0 n)) ∧ w.grownBy w' (some g) := by
  have hT : T.length = n := by have := h.1; rw [fl_len] at this; omega
  go_enter Tryz.func66, Tryz.ntmps66
  go_wp2
  go_loopw [1, 5] (fun x i wr => ∃ k : Nat, k ≤ n ∧ i = .int .i64 k ∧ x = .int .i64 ((k0 + k * 4 : Nat) : Int) ∧ w.grownBy wr (some g) ∧ wr.ownsRow base 53 4 (.slice (some ⟨g, 0, none⟩) n cap) n (fl (mkF k0 k ++ T.drop k))) (fun _ i _ => n - (intOf i).toNat)
  case atStart => exact ⟨0, Nat.zero_le _, rfl, rfl, World.grownBy.refl _ _, by simpa [mkF] using h⟩
  case round =>
    obtain ⟨k, hk, rfl, rfl, hg, hr⟩ := hrel
    by_cases hlt : k < n
    · have i0 : (0 : Int) ≤ (k : Int) := by omega
      have i1 : (k : Int) < (n : Int) := by omega
      have hl2 : (mkF k0 k ++ T.drop k).length = n := by simp [mkF_len, hT]; omega
      obtain ⟨t0, t1, t2, t3⟩ := fl_get (mkF k0 k ++ T.drop k) k (by omega)
      have c0 := (hr.cellAt (k * 4) (by omega)).trans t0
      have c1 := (hr.cellAt (k * 4 + 1) (by omega)).trans t1
      have c2 := (hr.cellAt (k * 4 + 2) (by omega)).trans t2
      have c3 := (hr.cellAt (k * 4 + 3) (by omega)).trans t3
      have f0 := hr.frozenAt (k * 4)
      have f1 := hr.frozenAt (k * 4 + 1)
      have f2 := hr.frozenAt (k * 4 + 2)
      have f3 := hr.frozenAt (k * 4 + 3)
      obtain ⟨a0, b0⟩ := hr.stored (k * 4) (.int .i64 (mkf ((k0 : Int) + (k : Int) * 4)).n)
      obtain ⟨a1, b1⟩ := a0.stored (k * 4 + 1) (.int .i64 (mkf ((k0 : Int) + (k : Int) * 4)).i)
      obtain ⟨a2, b2⟩ := a1.stored (k * 4 + 2) (.int .i64 (mkf ((k0 : Int) + (k : Int) * 4)).s)
      obtain ⟨a3, b3⟩ := a2.stored (k * 4 + 3) (.bool (mkf ((k0 : Int) + (k : Int) * 4)).g)
      rw [← fl_set _ k (mkf ((k0 : Int) + (k : Int) * 4)) (by omega), mkF_set k0 k n T hT hlt] at a3
      have gg := grown_trans (grown_trans (grown_trans (grown_trans hg b0) b1) b2) b3
      clear t0 t1 t2 t3 a0 a1 a2 b0 b1 b2 b3 hr hg
      go_wp2
      go_roundw
      case rel => exact ⟨k + 1, by omega, by go_num, by go_num, gg, a3⟩
      case measure => simp [intOf]; omega
    · go_wp2
      go_ret
      have e : k = n := by omega
      subst e
      rw [List.drop_of_length_le (by omega), List.append_nil] at hr
      exact ⟨rfl, hr, hg⟩
set_option maxRecDepth 20000 in
theorem markF_nil (k0 : Nat) (w : World) :
    Calls Tryz.prog 66 #[.slice none 0 0, .int .i64 (k0 : Int)] w fun e w' => e = .returned (.int .i64 (k0 : Int)) ∧ w' = w := by
  go_enter Tryz.func66, Tryz.ntmps66
  go_wp2
  refine wp_loop_rounds 1 ?_
  rw [rounds_succ]
  go_wp2
  go_ret
  exact ⟨rfl, rfl⟩
set_option maxRecDepth 20000 in
theorem markF_own (base n cap : Nat) (a : Option Addr) (T : List Fc) (k0 : Nat) (w : World) (h : w.ownsRow base 53 4 (.slice a n cap) n (fl T)) (hl : n ≤ 1048576) (hk0 : k0 ≤ 1048576) :
    Calls Tryz.prog 66 #[.slice a n cap, .int .i64 (k0 : Int)] w fun e w' => e = .returned (.int .i64 ((k0 + n * 4 : Nat) : Int)) ∧ w'.ownsRow base 53 4 (.slice a n cap) n (fl (mkF k0 n)) ∧ w.grownBy w' (Value.slice a n cap).ownBlock := by
  rcases own_sliceF h with ⟨e, rfl⟩ | ⟨g, c, e, _⟩
  · simp only [Value.slice.injEq, true_and] at e
    obtain ⟨rfl, rfl⟩ := e
    exact (markF_nil k0 w).mono (by rintro r w' ⟨rfl, rfl⟩; exact ⟨rfl, World.ownsRow_nil w' base 53 4, World.grownBy.refl _ _⟩)
  · simp only [Value.slice.injEq, true_and] at e
    obtain ⟨rfl, rfl⟩ := e
    exact markF_any base g n cap T k0 w h hl hk0
set_option maxRecDepth 20000 in
/-- what was marked is held -/
theorem own_held {w : World} {base k0 n cap : Nat} {a : Option Addr} (h : w.ownsRow base 53 4 (.slice a n cap) n (fl (mkF k0 n))) : FSl w a n (fun j => mkf ((k0 : Int) + (j : Int) * 4)) := by
  obtain ⟨a', c', e, _, _, hF⟩ := own_facts h
  simp only [Value.slice.injEq, true_and] at e
  obtain ⟨rfl, rfl⟩ := e
  intro hn
  obtain ⟨b, off, e, hb, hf⟩ := hF hn
  refine ⟨b, off, e, hb, fun k hk => ?_⟩
  have := hf k hk
  have e2 : (mkF k0 n).getD k Fc.zero = mkf ((k0 : Int) + (k : Int) * 4) := by simp [mkF, List.getD, hk]
  simp only [e2] at this
  exact this
end Go.Proofs.YtibnojbhoepcdaaGreatDoor
/- The exact law of TableParse, walked. -/
namespace Go.Proofs.YtibnojbhoepcdaaGreatDoor
open Go.ChangeShapes Go.WideShapes Go.ChangeAt Go.RowKit
attribute [local go_sem ↓] Go.wp_at_zero Go.wp_at_succ
theorem ne_two {w w' : World} {base size n : Nat} {e : TypeId} {v : Value} {xs : List Value} {base' size' n' : Nat} {e' : TypeId} {v' : Value} {xs' : List Value} (h : w.ownsRow base e size v n xs) (h' : w'.ownsRow base' e' size' v' n' xs') (hb : w.heap.size ≤ base') : v.ownBlock = none ∨ v.ownBlock ≠ v'.ownBlock := by
  cases hv : v.ownBlock with
  | none => exact .inl rfl
  | some k => exact .inr fun e => by have := (h.lt k hv).2; have := (h'.lt k e.symm).1; omega
set_option maxHeartbeats 2000000 in
theorem heldF_any (a : Option Addr) (n cap : Nat) (k0 : Nat) (w : World) (h : FSl w a n (fun j => mkf ((k0 : Int) + (j : Int) * 4))) (hl : n ≤ 1048576) (hk0 : k0 ≤ 1048576) :
    Calls Tryz.prog 67 #[.slice a n cap, .int .i64 (k0 : Int)] w fun e w' => e = .returned (.int .i64 ((k0 + n * 4 : Nat) : Int)) ∧ w' = w := by
  go_enter Tryz.func67, Tryz.ntmps67
  go_wp2
  go_loopw [1, 5] (fun x i wr => ∃ k : Nat, k ≤ n ∧ i = .int .i64 k ∧ x = .int .i64 ((k0 + k * 4 : Nat) : Int) ∧ wr = w) (fun _ i _ => n - (intOf i).toNat)
  case atStart => exact ⟨0, Nat.zero_le _, rfl, rfl, rfl⟩
  case round =>
    obtain ⟨k, hk, rfl, rfl, rfl⟩ := hrel
    by_cases hlt : k < n
    · have i0 : (0 : Int) ≤ (k : Int) := by omega
      have i1 : (k : Int) < (n : Int) := by omega
      obtain ⟨b, off, rfl, hbl, hf⟩ := h (by omega)
      obtain ⟨d0, d1, d2, d3⟩ := hf k hlt
      simp only [mkf] at d0 d1 d2 d3
      have e0 : ((((k0 : Int) + (k : Int) * 4 + 1 + 1 + 1) % 3 == 0) != (((k0 : Int) + (k : Int) * 4 + 1 + 1 + 1) % 3 == 0)) = false := by simp
      go_wp2
      go_roundw
      case rel => exact ⟨k + 1, by omega, by go_num, by go_num, by simp⟩
      case measure => simp [intOf]; omega
    · go_wp2
      go_ret
      have e : k = n := by omega
      subst e
      exact ⟨rfl, rfl⟩
theorem opt_same {q q' : Bool} {T T' : List Fc} (h : (if q = true then some T else none) = (if q' = true then some T' else none)) (hn : q = false → T = []) (hn' : q' = false → T' = []) : q' = q ∧ T' = T := by
  cases q <;> cases q' <;> simp_all
end Go.Proofs.YtibnojbhoepcdaaGreatDoor
/- The exact law of WordRead, walked. -/
namespace Go.Proofs.YtibnojbhoepcdaaGreatDoor
open Go.ChangeShapes Go.WideShapes Go.ChangeAt Go.RowKit
attribute [local go_sem ↓] Go.wp_at_zero Go.wp_at_succ
theorem Ws.grown {w w' : World} {b : Nat} {xs : List Value} {row : Option Nat} (h : Ws w b xs) (g : w.grownBy w' row) (hb : some b ≠ row) : Ws w' b xs :=
  ⟨Nat.lt_of_lt_of_le h.lt g.size, fun i v hv => (World.cell?_of_block (w := w) (g.block b h.lt hb)).trans (h.c i v hv), fun o => (World.frozen?_of_block (a := ⟨b, o, none⟩) (g.block b h.lt hb)).trans (h.z o)⟩
theorem Ws.box {w : World} (cs : Array Value) (t : TypeId) : Ws (w.alloc (.cells cs t)) w.heap.size cs.toList := Ws.new (heap_alloc_new _ _)
theorem wd_same {s : List UInt8} {W V : Wd} {q r : Bool} (h1 : q = true → W.ok = true ∧ s = W.txt) (n1 : q = false → NoWd s ∧ W = Wd.zero) (h2 : r = true → V.ok = true ∧ s = V.txt) (n2 : r = false → NoWd s ∧ V = Wd.zero) : r = q ∧ V = W := by
  cases q <;> cases r
  · exact ⟨rfl, (n2 rfl).2.trans (n1 rfl).2.symm⟩
  · exact absurd (h2 rfl).2 ((n1 rfl).1 V (h2 rfl).1)
  · exact absurd (h1 rfl).2 ((n2 rfl).1 W (h1 rfl).1)
  · exact ⟨rfl, txt_inj (h2 rfl).1 (h1 rfl).1 ((h2 rfl).2.symm.trans (h1 rfl).2)⟩
theorem wd_few {s : List UInt8} {W : Wd} {q : Bool} (h1 : q = true → W.ok = true ∧ s = W.txt) (n1 : q = false → NoWd s ∧ W = Wd.zero) : W.T.length ≤ 8 := by
  cases q
  · rw [(n1 rfl).2]
    exact Nat.zero_le _
  · exact tok_len (ok_facts (h1 rfl).1).2.2.2.2.2.2.2.2.2.2.2.2.2.2.2.2.2.2.2.2
set_option maxRecDepth 10000 in
set_option maxHeartbeats 8000000 in
theorem eqWord_same (p k f t s q x y z e : Int) (a a' : Option Addr) (len cap cap' : Nat) (F : Nat → Fc) (w : World) (h : FSl w a len F) (h' : FSl w a' len F) (hl : len ≤ 1048576) :
    Calls Tryz.prog 25 #[.agg #[.int .i64 p, .int .i64 k, .int .i64 f, .int .i64 t, .int .i64 s, .int .i64 q, .int .i64 x, .int .i64 y, .int .i64 z, .int .i64 e, (.slice a len cap)], .agg #[.int .i64 p, .int .i64 k, .int .i64 f, .int .i64 t, .int .i64 s, .int .i64 q, .int .i64 x, .int .i64 y, .int .i64 z, .int .i64 e, (.slice a' len cap')]] w fun r w' => r = .returned (.bool true) ∧ Below w.heap.size w w' := by
  go_enter Tryz.func25, Tryz.ntmps25
  go_wp2_with fail
  have c0 : ((w.alloc (.cells #[.int .i64 p, .int .i64 k, .int .i64 f, .int .i64 t, .int .i64 s, .int .i64 q, .int .i64 x, .int .i64 y, .int .i64 z, .int .i64 e, (.slice a len cap)] 35)).alloc (.cells #[.int .i64 p, .int .i64 k, .int .i64 f, .int .i64 t, .int .i64 s, .int .i64 q, .int .i64 x, .int .i64 y, .int .i64 z, .int .i64 e, (.slice a' len cap')] 35)).cell? ⟨w.heap.size, 10, none⟩ = some (.slice a len cap) := by simp [go_sem]
  have c1 : ((w.alloc (.cells #[.int .i64 p, .int .i64 k, .int .i64 f, .int .i64 t, .int .i64 s, .int .i64 q, .int .i64 x, .int .i64 y, .int .i64 z, .int .i64 e, (.slice a len cap)] 35)).alloc (.cells #[.int .i64 p, .int .i64 k, .int .i64 f, .int .i64 t, .int .i64 s, .int .i64 q, .int .i64 x, .int .i64 y, .int .i64 z, .int .i64 e, (.slice a' len cap')] 35)).cell? ⟨w.heap.size + 1, 10, none⟩ = some (.slice a' len cap') := by simp [go_sem]
  have bw : Below w.heap.size w ((w.alloc (.cells #[.int .i64 p, .int .i64 k, .int .i64 f, .int .i64 t, .int .i64 s, .int .i64 q, .int .i64 x, .int .i64 y, .int .i64 z, .int .i64 e, (.slice a len cap)] 35)).alloc (.cells #[.int .i64 p, .int .i64 k, .int .i64 f, .int .i64 t, .int .i64 s, .int .i64 q, .int .i64 x, .int .i64 y, .int .i64 z, .int .i64 e, (.slice a' len cap')] 35)) := balloc _ (balloc _ (Below.refl _ _))
  generalize ((w.alloc (.cells #[.int .i64 p, .int .i64 k, .int .i64 f, .int .i64 t, .int .i64 s, .int .i64 q, .int .i64 x, .int .i64 y, .int .i64 z, .int .i64 e, (.slice a len cap)] 35)).alloc (.cells #[.int .i64 p, .int .i64 k, .int .i64 f, .int .i64 t, .int .i64 s, .int .i64 q, .int .i64 x, .int .i64 y, .int .i64 z, .int .i64 e, (.slice a' len cap')] 35)) = W at *
  refine (eqCoord_same _ _ _ _ _).mono ?_
  rintro r w1 ⟨rfl, b1⟩
  replace c0 := keep_below b1 c0
  replace c1 := keep_below b1 c1
  have B1 := btrans bw b1
  clear bw b1
  go_wp2_with fail
  refine (eqFactS_same a a' len cap cap' F _ (h.below B1) (h'.below B1) hl).mono ?_
  rintro r w2 ⟨rfl, b2⟩
  go_wp2
  go_ret
  exact ⟨rfl, btrans B1 b2⟩
set_option maxRecDepth 10000 in
theorem markWord_own (p k f t s q x y z e : Int) (base len cap : Nat) (a : Option Addr) (T : List Fc) (w : World) (h : w.ownsRow base 53 4 (.slice a len cap) len (fl T)) (hl : len ≤ 1048576) :
    Calls Tryz.prog 26 #[.agg #[.int .i64 p, .int .i64 k, .int .i64 f, .int .i64 t, .int .i64 s, .int .i64 q, .int .i64 x, .int .i64 y, .int .i64 z, .int .i64 e, (.slice a len cap)], .int .i64 1] w fun r w' => r = .returned (.int .i64 ((1 + len * 4 : Nat) : Int)) ∧ w'.ownsRow base 53 4 (.slice a len cap) len (fl (mkF 1 len)) ∧ ∃ u, Below w.heap.size w u ∧ u.grownBy w' (Value.slice a len cap).ownBlock := by
  have b0 := balloc (.cells #[.int .i64 p, .int .i64 k, .int .i64 f, .int .i64 t, .int .i64 s, .int .i64 q, .int .i64 x, .int .i64 y, .int .i64 z, .int .i64 e, (.slice a len cap)] 35) (Below.refl w.heap.size w)
  have c := (Ws.box (w := w) #[.int .i64 p, .int .i64 k, .int .i64 f, .int .i64 t, .int .i64 s, .int .i64 q, .int .i64 x, .int .i64 y, .int .i64 z, .int .i64 e, (.slice a len cap)] 35).c 10 (.slice a len cap) rfl
  have h0 := own_below h b0
  go_enter Tryz.func26, Tryz.ntmps26
  go_wp2_with fail
  generalize w.alloc (.cells #[.int .i64 p, .int .i64 k, .int .i64 f, .int .i64 t, .int .i64 s, .int .i64 q, .int .i64 x, .int .i64 y, .int .i64 z, .int .i64 e, (.slice a len cap)] 35) = u at *
  refine (markF_own base len cap a T 1 _ h0 hl (by omega)).mono ?_
  rintro r w1 ⟨rfl, om, g⟩
  go_wp2
  go_ret
  exact ⟨rfl, om, u, b0, g⟩
set_option maxRecDepth 10000 in
theorem heldWord_any (p k f t s q x y z e : Int) (a : Option Addr) (len cap : Nat) (w : World) (h : FSl w a len (fun j => mkf ((1 : Nat) + (j : Int) * 4))) (hl : len ≤ 1048576) (K : Nat) (hK : 1 + len * 4 = K) :
    Calls Tryz.prog 27 #[.agg #[.int .i64 p, .int .i64 k, .int .i64 f, .int .i64 t, .int .i64 s, .int .i64 q, .int .i64 x, .int .i64 y, .int .i64 z, .int .i64 e, (.slice a len cap)], .int .i64 1] w fun r w' => r = .returned (.int .i64 (K : Int)) ∧ Below w.heap.size w w' := by
  have b0 := balloc (.cells #[.int .i64 p, .int .i64 k, .int .i64 f, .int .i64 t, .int .i64 s, .int .i64 q, .int .i64 x, .int .i64 y, .int .i64 z, .int .i64 e, (.slice a len cap)] 35) (Below.refl w.heap.size w)
  have c := (Ws.box (w := w) #[.int .i64 p, .int .i64 k, .int .i64 f, .int .i64 t, .int .i64 s, .int .i64 q, .int .i64 x, .int .i64 y, .int .i64 z, .int .i64 e, (.slice a len cap)] 35).c 10 (.slice a len cap) rfl
  have h0 := h.below b0
  have k0 : ¬ ((K : Int) < 0) := by omega
  go_enter Tryz.func27, Tryz.ntmps27
  go_wp2_with fail
  generalize w.alloc (.cells #[.int .i64 p, .int .i64 k, .int .i64 f, .int .i64 t, .int .i64 s, .int .i64 q, .int .i64 x, .int .i64 y, .int .i64 z, .int .i64 e, (.slice a len cap)] 35) = u at *
  refine (heldF_any a len cap 1 _ h0 hl (by omega)).mono ?_
  rintro r w1 ⟨rfl, rfl⟩
  rw [hK]
  go_wp2
  go_ret
  exact ⟨rfl, b0⟩
set_option maxRecDepth 20000 in
set_option maxHeartbeats 16000000 in
theorem exRead_walk (s : ByteArray) (w : World) (hp : Pst w) (hd : w.cell? ⟨9, 15, none⟩ = some (.int .u8 4)) :
    Calls Tryz.prog 7 #[.string s] w fun r w' => r = .returned (.bool true) ∧ Below w.heap.size w w' := by
  by_cases hl : 1048576 < s.size
  · have hl' : (1048576 : Int) < (s.size : Int) := by omega
    go_enter Tryz.func7, Tryz.ntmps7
    go_wp2
    go_ret
    exact ⟨rfl, Below.refl _ _⟩
  · have hs : s.size ≤ 1048576 := by omega
    have hl' : ¬ (1048576 : Int) < (s.size : Int) := by omega
    go_enter Tryz.func7, Tryz.ntmps7
    go_wp2_with fail
    refine (sreadW_any s _ hs).mono ?_
    rintro _ w1 ⟨W, a0, c0, q, rfl, hy, hn, os, B1⟩
    have hT8 : W.T.length ≤ 1048576 := Nat.le_trans (wd_few hy hn) (by omega)
    have hyH : Hid (q = true → W.ok = true ∧ s.data.toList = W.txt) := hy
    have hnH : Hid (q = false → NoWd s.data.toList ∧ W = Wd.zero) := hn
    clear hy hn
    go_wp2_with fail
    have b1 := balloc (.cells #[.int .i64 W.p, .int .i64 W.k, .int .i64 W.f, .int .i64 W.t, .int .i64 W.s, .int .i64 W.q, .int .i64 W.x, .int .i64 W.y, .int .i64 W.z, .int .i64 W.e, .slice a0 W.T.length c0] 35) (Below.refl w1.heap.size w1)
    have X3 : Ws _ w1.heap.size [.int .i64 W.p, .int .i64 W.k, .int .i64 W.f, .int .i64 W.t, .int .i64 W.s, .int .i64 W.q, .int .i64 W.x, .int .i64 W.y, .int .i64 W.z, .int .i64 W.e, .slice a0 W.T.length c0] := Ws.box (w := w1) #[.int .i64 W.p, .int .i64 W.k, .int .i64 W.f, .int .i64 W.t, .int .i64 W.s, .int .i64 W.q, .int .i64 W.x, .int .i64 W.y, .int .i64 W.z, .int .i64 W.e, .slice a0 W.T.length c0] 35
    replace os := own_below os b1
    replace B1 := btrans B1 b1
    clear b1
    generalize w1.alloc (.cells #[.int .i64 W.p, .int .i64 W.k, .int .i64 W.f, .int .i64 W.t, .int .i64 W.s, .int .i64 W.q, .int .i64 W.x, .int .i64 W.y, .int .i64 W.z, .int .i64 W.e, .slice a0 W.T.length c0] 35) = u1 at *
    generalize hb3 : w1.heap.size = b3 at *
    clear hb3
    refine (read_any s u1 (hp.below B1) (keep_below B1 hd) hs).mono ?_
    rintro _ w2 ⟨W', a1, c1, q', rfl, hy, hn, o1, b2⟩
    obtain ⟨rfl, rfl⟩ := wd_same hyH.out hnH.out hy hn
    clear hy hn
    have b3' := balloc (.cells #[.int .i64 W'.p, .int .i64 W'.k, .int .i64 W'.f, .int .i64 W'.t, .int .i64 W'.s, .int .i64 W'.q, .int .i64 W'.x, .int .i64 W'.y, .int .i64 W'.z, .int .i64 W'.e, .slice a1 W'.T.length c1] 35) (Below.refl w2.heap.size w2)
    have X5 : Ws _ w2.heap.size [.int .i64 W'.p, .int .i64 W'.k, .int .i64 W'.f, .int .i64 W'.t, .int .i64 W'.s, .int .i64 W'.q, .int .i64 W'.x, .int .i64 W'.y, .int .i64 W'.z, .int .i64 W'.e, .slice a1 W'.T.length c1] := Ws.box (w := w2) #[.int .i64 W'.p, .int .i64 W'.k, .int .i64 W'.f, .int .i64 W'.t, .int .i64 W'.s, .int .i64 W'.q, .int .i64 W'.x, .int .i64 W'.y, .int .i64 W'.z, .int .i64 W'.e, .slice a1 W'.T.length c1] 35
    have hub := X3.lt
    have B2 := btrans (btrans B1 b2) b3'
    have oS := own_below (own_below os b2) b3'
    have o17 := own_below o1 b3'
    have X3' := (X3.below b2).below b3'
    have hne5 : some w2.heap.size ≠ (Value.slice a1 W'.T.length c1).ownBlock := fun e => by have := (o1.lt _ e.symm).2; omega
    have hne3 : some b3 ≠ (Value.slice a1 W'.T.length c1).ownBlock := fun e => by have := (o1.lt _ e.symm).1; omega
    have hsp := ne_two os o1 (Nat.le_refl _)
    clear b2 b3' X3
    go_upto_region 5 with fail
    generalize w2.alloc (.cells #[.int .i64 W'.p, .int .i64 W'.k, .int .i64 W'.f, .int .i64 W'.t, .int .i64 W'.s, .int .i64 W'.q, .int .i64 W'.x, .int .i64 W'.y, .int .i64 W'.z, .int .i64 W'.e, .slice a1 W'.T.length c1] 35) = u2 at *
    generalize hb5 : w2.heap.size = b5 at *
    clear hb5
    have d0 := X5.c 0 (.int .i64 W'.p) rfl
    have d1 := X5.c 1 (.int .i64 W'.k) rfl
    have d2 := X5.c 2 (.int .i64 W'.f) rfl
    have d3 := X5.c 3 (.int .i64 W'.t) rfl
    have d4 := X5.c 4 (.int .i64 W'.s) rfl
    have d5 := X5.c 5 (.int .i64 W'.q) rfl
    have d6 := X5.c 6 (.int .i64 W'.x) rfl
    have d7 := X5.c 7 (.int .i64 W'.y) rfl
    have d8 := X5.c 8 (.int .i64 W'.z) rfl
    have d9 := X5.c 9 (.int .i64 W'.e) rfl
    have d10 := X5.c 10 (.slice a1 W'.T.length c1) rfl
    have m0 := X3'.c 0 (.int .i64 W'.p) rfl
    have m1 := X3'.c 1 (.int .i64 W'.k) rfl
    have m2 := X3'.c 2 (.int .i64 W'.f) rfl
    have m3 := X3'.c 3 (.int .i64 W'.t) rfl
    have m4 := X3'.c 4 (.int .i64 W'.s) rfl
    have m5 := X3'.c 5 (.int .i64 W'.q) rfl
    have m6 := X3'.c 6 (.int .i64 W'.x) rfl
    have m7 := X3'.c 7 (.int .i64 W'.y) rfl
    have m8 := X3'.c 8 (.int .i64 W'.z) rfl
    have m9 := X3'.c 9 (.int .i64 W'.e) rfl
    have m10 := X3'.c 10 (.slice a0 W'.T.length c0) rfl
    obtain ⟨a0', c0', e0', -, -, i0⟩ := own_facts oS
    simp only [Value.slice.injEq, true_and] at e0'
    obtain ⟨rfl, rfl⟩ := e0'
    obtain ⟨a1', c1', e1', -, -, i1⟩ := own_facts o17
    simp only [Value.slice.injEq, true_and] at e1'
    obtain ⟨rfl, rfl⟩ := e1'
    have qq : (q' != q') = false := by simp
    go_wp2_with fail
    refine (eqWord_same W'.p W'.k W'.f W'.t W'.s W'.q W'.x W'.y W'.z W'.e _ _ _ _ _ _ _ i1 i0 hT8).mono ?_
    rintro r w3 ⟨rfl, e3⟩
    have B3 := btrans B2 e3
    replace oS := own_below oS e3
    replace o17 := own_below o17 e3
    replace X3' := X3'.below e3
    replace X5 := X5.below e3
    clear e3 i0 i1 B2 d0 d1 d2 d3 d4 d5 d6 d7 d8 d9 d10 m0 m1 m2 m3 m4 m5 m6 m7 m8 m9 m10
    go_upto_region 8 with fail
    have d0 := X5.c 0 (.int .i64 W'.p) rfl
    have d1 := X5.c 1 (.int .i64 W'.k) rfl
    have d2 := X5.c 2 (.int .i64 W'.f) rfl
    have d3 := X5.c 3 (.int .i64 W'.t) rfl
    have d4 := X5.c 4 (.int .i64 W'.s) rfl
    have d5 := X5.c 5 (.int .i64 W'.q) rfl
    have d6 := X5.c 6 (.int .i64 W'.x) rfl
    have d7 := X5.c 7 (.int .i64 W'.y) rfl
    have d8 := X5.c 8 (.int .i64 W'.z) rfl
    have d9 := X5.c 9 (.int .i64 W'.e) rfl
    have d10 := X5.c 10 (.slice a1 W'.T.length c1) rfl
    go_wp2_with fail
    refine (markWord_own W'.p W'.k W'.f W'.t W'.s W'.q W'.x W'.y W'.z W'.e _ _ _ _ _ _ o17 hT8).mono ?_
    rintro r w4 ⟨rfl, om, v4, bv, g4⟩
    have hal : ∀ k, (Value.slice a1 W'.T.length c1).ownBlock = some k → w.heap.size ≤ k := fun k hk => by have := (o1.lt k hk).1; have := B1.size; omega
    have B4 := (btrans B3 bv).grown g4 (btrans B3 bv).size hal
    replace oS := (own_below oS bv).kept g4 hsp
    replace X3' := (X3'.below bv).grown g4 hne3
    replace X5 := (X5.below bv).grown g4 hne5
    clear o17 g4 bv d0 d1 d2 d3 d4 d5 d6 d7 d8 d9 d10 B3
    generalize hK : 1 + W'.T.length * 4 = K at *
    have k0 : ¬ ((K : Int) < 0) := by omega
    have k1 : ¬ ((K : Int) ≠ (K : Int)) := by simp
    go_upto_region 10 with fail
    have d0 := X5.c 0 (.int .i64 W'.p) rfl
    have d1 := X5.c 1 (.int .i64 W'.k) rfl
    have d2 := X5.c 2 (.int .i64 W'.f) rfl
    have d3 := X5.c 3 (.int .i64 W'.t) rfl
    have d4 := X5.c 4 (.int .i64 W'.s) rfl
    have d5 := X5.c 5 (.int .i64 W'.q) rfl
    have d6 := X5.c 6 (.int .i64 W'.x) rfl
    have d7 := X5.c 7 (.int .i64 W'.y) rfl
    have d8 := X5.c 8 (.int .i64 W'.z) rfl
    have d9 := X5.c 9 (.int .i64 W'.e) rfl
    have d10 := X5.c 10 (.slice a1 W'.T.length c1) rfl
    go_wp2_with fail
    refine (heldWord_any W'.p W'.k W'.f W'.t W'.s W'.q W'.x W'.y W'.z W'.e _ _ _ _ (own_held om) hT8 K hK).mono ?_
    rintro r w5 ⟨rfl, e5⟩
    have B5 := btrans B4 e5
    replace oS := own_below oS e5
    replace om := own_below om e5
    replace X3' := X3'.below e5
    replace X5 := X5.below e5
    clear e5 d0 d1 d2 d3 d4 d5 d6 d7 d8 d9 d10 B4
    go_wp2_with fail
    refine (read_any s w5 (hp.below B5) (keep_below B5 hd) hs).mono ?_
    rintro _ w6 ⟨W2, a2, c2, q2, rfl, hy, hn, o2, e6⟩
    obtain ⟨rfl, rfl⟩ := wd_same hyH.out hnH.out hy hn
    clear hy hn
    have b3' := balloc (.cells #[.int .i64 W2.p, .int .i64 W2.k, .int .i64 W2.f, .int .i64 W2.t, .int .i64 W2.s, .int .i64 W2.q, .int .i64 W2.x, .int .i64 W2.y, .int .i64 W2.z, .int .i64 W2.e, .slice a2 W2.T.length c2] 35) (Below.refl w6.heap.size w6)
    have X9 : Ws _ w6.heap.size [.int .i64 W2.p, .int .i64 W2.k, .int .i64 W2.f, .int .i64 W2.t, .int .i64 W2.s, .int .i64 W2.q, .int .i64 W2.x, .int .i64 W2.y, .int .i64 W2.z, .int .i64 W2.e, .slice a2 W2.T.length c2] := Ws.box (w := w6) #[.int .i64 W2.p, .int .i64 W2.k, .int .i64 W2.f, .int .i64 W2.t, .int .i64 W2.s, .int .i64 W2.q, .int .i64 W2.x, .int .i64 W2.y, .int .i64 W2.z, .int .i64 W2.e, .slice a2 W2.T.length c2] 35
    have B6 := btrans (btrans B5 e6) b3'
    replace oS := own_below (own_below oS e6) b3'
    replace om := own_below (own_below om e6) b3'
    replace o2 := own_below o2 b3'
    replace X3' := (X3'.below e6).below b3'
    replace X5 := (X5.below e6).below b3'
    clear e6 b3' B5
    go_upto_region 16 with fail
    generalize w6.alloc (.cells #[.int .i64 W2.p, .int .i64 W2.k, .int .i64 W2.f, .int .i64 W2.t, .int .i64 W2.s, .int .i64 W2.q, .int .i64 W2.x, .int .i64 W2.y, .int .i64 W2.z, .int .i64 W2.e, .slice a2 W2.T.length c2] 35) = u6 at *
    generalize hb9 : w6.heap.size = b9 at *
    clear hb9
    have d0 := X9.c 0 (.int .i64 W2.p) rfl
    have d1 := X9.c 1 (.int .i64 W2.k) rfl
    have d2 := X9.c 2 (.int .i64 W2.f) rfl
    have d3 := X9.c 3 (.int .i64 W2.t) rfl
    have d4 := X9.c 4 (.int .i64 W2.s) rfl
    have d5 := X9.c 5 (.int .i64 W2.q) rfl
    have d6 := X9.c 6 (.int .i64 W2.x) rfl
    have d7 := X9.c 7 (.int .i64 W2.y) rfl
    have d8 := X9.c 8 (.int .i64 W2.z) rfl
    have d9 := X9.c 9 (.int .i64 W2.e) rfl
    have d10 := X9.c 10 (.slice a2 W2.T.length c2) rfl
    have m0 := X3'.c 0 (.int .i64 W2.p) rfl
    have m1 := X3'.c 1 (.int .i64 W2.k) rfl
    have m2 := X3'.c 2 (.int .i64 W2.f) rfl
    have m3 := X3'.c 3 (.int .i64 W2.t) rfl
    have m4 := X3'.c 4 (.int .i64 W2.s) rfl
    have m5 := X3'.c 5 (.int .i64 W2.q) rfl
    have m6 := X3'.c 6 (.int .i64 W2.x) rfl
    have m7 := X3'.c 7 (.int .i64 W2.y) rfl
    have m8 := X3'.c 8 (.int .i64 W2.z) rfl
    have m9 := X3'.c 9 (.int .i64 W2.e) rfl
    have m10 := X3'.c 10 (.slice a0 W2.T.length c0) rfl
    obtain ⟨a0', c0', e0', -, -, i0⟩ := own_facts oS
    simp only [Value.slice.injEq, true_and] at e0'
    obtain ⟨rfl, rfl⟩ := e0'
    obtain ⟨a2', c2', e2', -, -, i2⟩ := own_facts o2
    simp only [Value.slice.injEq, true_and] at e2'
    obtain ⟨rfl, rfl⟩ := e2'
    have qq2 : (q2 != q2) = false := by simp
    go_wp2_with fail
    refine (eqWord_same W2.p W2.k W2.f W2.t W2.s W2.q W2.x W2.y W2.z W2.e _ _ _ _ _ _ _ i2 i0 hT8).mono ?_
    rintro r w7 ⟨rfl, e7⟩
    have B7 := btrans B6 e7
    replace om := own_below om e7
    replace X5 := X5.below e7
    clear e7 i0 i2 B6 d0 d1 d2 d3 d4 d5 d6 d7 d8 d9 d10 m0 m1 m2 m3 m4 m5 m6 m7 m8 m9 m10 X3' X9 oS o2
    go_upto_region 19 with fail
    have d0 := X5.c 0 (.int .i64 W2.p) rfl
    have d1 := X5.c 1 (.int .i64 W2.k) rfl
    have d2 := X5.c 2 (.int .i64 W2.f) rfl
    have d3 := X5.c 3 (.int .i64 W2.t) rfl
    have d4 := X5.c 4 (.int .i64 W2.s) rfl
    have d5 := X5.c 5 (.int .i64 W2.q) rfl
    have d6 := X5.c 6 (.int .i64 W2.x) rfl
    have d7 := X5.c 7 (.int .i64 W2.y) rfl
    have d8 := X5.c 8 (.int .i64 W2.z) rfl
    have d9 := X5.c 9 (.int .i64 W2.e) rfl
    have d10 := X5.c 10 (.slice a1 W2.T.length c1) rfl
    go_wp2_with fail
    refine (heldWord_any W2.p W2.k W2.f W2.t W2.s W2.q W2.x W2.y W2.z W2.e _ _ _ _ (own_held om) hT8 K hK).mono ?_
    rintro r w8 ⟨rfl, e8⟩
    have B8 := btrans B7 e8
    clear om X5 d0 d1 d2 d3 d4 d5 d6 d7 d8 d9 d10 e8 B7 hK
    go_wp2
    go_ret
    exact ⟨rfl, B8⟩
end Go.Proofs.YtibnojbhoepcdaaGreatDoor
