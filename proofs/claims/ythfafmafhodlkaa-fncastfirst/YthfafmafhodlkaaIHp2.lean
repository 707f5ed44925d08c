/- A heap in memory; the library's way up and down in it. -/
import Derived.Test.YthfafmafhodlkaaIHp1
namespace Go.Proofs.Ythfafmafhodlkaa.I
open Go.ChangeShapes Go.WideShapes Go.ChangeAt Go.RowKit
attribute [local go_sem ↓] Go.wp_at_zero Go.wp_at_succ
theorem load67 {p : Nat} {v : Value} {w : World} (h : Boxed w p 67 v) : (loadVar 67 ⟨p, 0, none⟩).run Try.prog w = .ok v w := by
  simp [loadVar, go_sem, h.cell]
theorem m_less {p : Nat} {v : Value} {w : World} (h : Boxed w p 67 v) : (method 203 66 (.pointer (some ⟨p, 0, none⟩)) "Less").run Try.prog w = .ok (70, v) w := by
  have : (method 203 66 (.pointer (some ⟨p, 0, none⟩)) "Less").run Try.prog w = (loadVar 67 ⟨p, 0, none⟩ >>= fun v => pure (70, v)).run Try.prog w := by kernel_rfl
  rw [this]
  simp [go_sem, h.cell]
theorem m_swap {p : Nat} {v : Value} {w : World} (h : Boxed w p 67 v) : (method 203 66 (.pointer (some ⟨p, 0, none⟩)) "Swap").run Try.prog w = .ok (73, v) w := by
  have : (method 203 66 (.pointer (some ⟨p, 0, none⟩)) "Swap").run Try.prog w = (loadVar 67 ⟨p, 0, none⟩ >>= fun v => pure (73, v)).run Try.prog w := by kernel_rfl
  rw [this]
  simp [go_sem, h.cell]
theorem m_len {p : Nat} {v : Value} {w : World} (h : Boxed w p 67 v) : (method 203 66 (.pointer (some ⟨p, 0, none⟩)) "Len").run Try.prog w = .ok (39, v) w := by
  have : (method 203 66 (.pointer (some ⟨p, 0, none⟩)) "Len").run Try.prog w = (loadVar 67 ⟨p, 0, none⟩ >>= fun v => pure (39, v)).run Try.prog w := by kernel_rfl
  rw [this]
  simp [go_sem, h.cell]
theorem m_push (p : Nat) (w : World) : (method 203 66 (.pointer (some ⟨p, 0, none⟩)) "Push").run Try.prog w = .ok (72, .pointer (some ⟨p, 0, none⟩)) w := by kernel_rfl
theorem m_pop (p : Nat) (w : World) : (method 203 66 (.pointer (some ⟨p, 0, none⟩)) "Pop").run Try.prog w = .ok (71, .pointer (some ⟨p, 0, none⟩)) w := by kernel_rfl
/-- the heap's variable lies in block p; it holds the items H, in a row of the call's own -/
def HS (w : World) (base p : Nat) (H : List It) : Prop := ∃ v, Boxed w p 67 v ∧ w.ownsRow base 36 5 v H.length (fl H) ∧ base ≤ p ∧ base ≤ w.heap.size
theorem Boxed.below {w w' : World} {p t : Nat} {v : Value} (h : Boxed w p t v) (hb : Below w.heap.size w w') : Boxed w' p t v := (hb.block p h.lt).trans h
theorem HS.below {w w' : World} {base p : Nat} {H : List It} (h : HS w base p H) (hb : Below w.heap.size w w') : HS w' base p H := by
  obtain ⟨v, h1, h2, h3, h4⟩ := h
  exact ⟨v, Boxed.below h1 hb, own_below h2 hb, h3, Nat.le_trans h4 hb.size⟩
theorem HS.at {w : World} {base p : Nat} {H : List It} (h : HS w base p H) (hn : 0 < H.length) : ∃ g cap, Boxed w p 67 (.slice (some ⟨g, 0, none⟩) H.length cap) ∧ w.ownsRow base 36 5 (.slice (some ⟨g, 0, none⟩) H.length cap) H.length (fl H) ∧ base ≤ p ∧ base ≤ w.heap.size ∧ base ≤ g ∧ g ≠ p := by
  obtain ⟨v, h1, h2, h3, h4⟩ := h
  rcases own_sliceF h2 with ⟨_, h0⟩ | ⟨g, cap, rfl, h5⟩
  · omega
  · exact ⟨g, cap, h1, h2, h3, h4, (h2.lt g rfl).1, fun e => h1.not_row (e := 36) (by decide) h2 (by simp [Value.ownBlock, e])⟩
/-- an item's rank: who is told before whom -/
def rk (x : It) : Int := (4 - x.l) * 8 + x.n
def okI (x : It) : Prop := 1 ≤ x.l ∧ x.l ≤ 4 ∧ 0 ≤ x.n ∧ x.n ≤ 7
def rh (H : List It) (k : Nat) : Int := rk (H.getD k It.zero)
theorem bef_rk {a b : It} (ha : okI a) (hb : okI b) : befB a b = decide (rk a < rk b) := by
  obtain ⟨a1, a2, a3, a4⟩ := ha
  obtain ⟨b1, b2, b3, b4⟩ := hb
  unfold befB rk
  by_cases h : a.l = b.l
  · rw [if_pos h, h]; congr 1; apply propext; omega
  · rw [if_neg h]; congr 1; apply propext; omega
theorem rh_at {H : List It} {k : Nat} {x : It} (h : H[k]? = some x) : rh H k = rk x := by simp [rh, List.getD, h]
theorem sw_set {H : List It} {i j : Nat} {x y : It} (hi : H[i]? = some x) (hj : H[j]? = some y) (hij : i ≠ j) : Sw (rh H) (rh ((H.set i y).set j x)) i j := by
  obtain ⟨h1, e1⟩ := List.getElem?_eq_some_iff.1 hi
  obtain ⟨h2, e2⟩ := List.getElem?_eq_some_iff.1 hj
  refine ⟨?_, ?_, fun k k1 k2 => ?_⟩
  · rw [rh_at hj]
    refine rh_at ?_
    rw [List.getElem?_set_ne (Ne.symm hij)]
    simp [h1]
  · rw [rh_at hi]
    refine rh_at ?_
    simp [h2]
  · unfold rh List.getD
    rw [List.getElem?_set_ne (Ne.symm k2), List.getElem?_set_ne (Ne.symm k1)]
theorem row_at {w : World} {base g n cap k : Nat} {H : List It} {x : It} (h : w.ownsRow base 36 5 (.slice (some ⟨g, 0, none⟩) n cap) n (fl H)) (hx : H[k]? = some x) :
    w.cell? ⟨g, k * 5, none⟩ = some (.int .i64 x.n) ∧ w.cell? ⟨g, k * 5 + 1, none⟩ = some (.int .i64 x.i) ∧ w.cell? ⟨g, k * 5 + 2, none⟩ = some (.int .i64 x.s) ∧ w.cell? ⟨g, k * 5 + 3, none⟩ = some (.bool x.g) ∧ w.cell? ⟨g, k * 5 + 4, none⟩ = some (.int .i64 x.l) := by
  have hT : H.length = n := by have := h.1; rw [fl_len] at this; omega
  obtain ⟨hk, _⟩ := List.getElem?_eq_some_iff.1 hx
  obtain ⟨t0, t1, t2, t3, t4⟩ := fl_get H k hk
  have gi : H.getD k It.zero = x := by simp [List.getD, hx]
  rw [gi] at t0 t1 t2 t3 t4
  exact ⟨(h.cellAt _ (by omega)).trans t0, (h.cellAt _ (by omega)).trans t1, (h.cellAt _ (by omega)).trans t2, (h.cellAt _ (by omega)).trans t3, (h.cellAt _ (by omega)).trans t4⟩
theorem below_grown {w w' : World} {base g : Nat} (hg : w.grownBy w' (some g)) (h : base ≤ g) (hs : base ≤ w.heap.size) : Below base w w' := ⟨hg.os, hg.tape, hg.output, hg.size, fun k hk => hg.block k (by omega) (by simp; omega)⟩
theorem low_trans {base : Nat} {a b c : World} (h : Below base a b) (h' : Below base b c) : Below base a c := h.trans h'
set_option maxRecDepth 20000 in
set_option maxHeartbeats 4000000 in
theorem up_any (base p : Nat) (H : List It) (j0 : Nat) (w : World) (h : HS w base p H) (hj : j0 < H.length) (hn : H.length ≤ 1048576) (hok : ∀ x ∈ H, okI x) (hU : UpI (rh H) H.length j0) :
    Calls Try.prog 47 #[.iface 66 (.pointer (some ⟨p, 0, none⟩)), .int .i64 (j0 : Int)] w fun e w' => (∃ v, e = .returned v) ∧ ∃ H', HS w' base p H' ∧ H'.Perm H ∧ Hp (rh H') H'.length ∧ Below base w w' := by
  go_enter Try.func47, Try.ntmps47
  go_wp2_with fail
  go_loopw [1] (fun x wr => ∃ (j : Nat) (H' : List It), x = .int .i64 j ∧ j < H'.length ∧ H'.Perm H ∧ UpI (rh H') H'.length j ∧ HS wr base p H' ∧ Below base w wr) (fun x _ => (intOf x).toNat)
  case atStart => exact ⟨j0, H, rfl, hj, List.Perm.refl _, hU, h, Below.refl _ _⟩
  case round =>
    obtain ⟨j, H', rfl, hjl, hp, hu, hs, hb⟩ := hrel
    have hjb : H'.length ≤ 1048576 := by have := hp.length_eq; omega
    have hok' : ∀ x ∈ H', okI x := fun x hx => hok x (hp.mem_iff.1 hx)
    obtain ⟨g, cap, hB, ho, hbp, hbw, hbg, hgp⟩ := hs.at (by omega)
    by_cases h0 : j = 0
    · subst h0
      go_wp2_with fail
      go_end0
      exact ⟨⟨_, rfl⟩, H', hs, hp, up_end hu (.inl rfl), hb⟩
    · have q0 : Int.tdiv ((j : Int) - 1) 2 = (((j - 1) / 2 : Nat) : Int) := by rw [Int.tdiv_eq_ediv_of_nonneg (by omega)]; omega
      have hil : (j - 1) / 2 < j := by omega
      obtain ⟨i, hi⟩ : ∃ i, Hid ((j - 1) / 2 = i) := ⟨_, rfl⟩
      rw [hi.out] at q0 hil
      have ij : ¬ (i : Int) = (j : Int) := by omega
      have ij' : ((i : Int) == (j : Int)) = false := by simpa using ij
      obtain ⟨x, hx⟩ : ∃ x, H'[j]? = some x := ⟨_, List.getElem?_eq_getElem hjl⟩
      obtain ⟨y, hy⟩ : ∃ y, H'[i]? = some y := ⟨_, List.getElem?_eq_getElem (by omega)⟩
      obtain ⟨c0, c1, c2, c3, c4⟩ := row_at ho hx
      obtain ⟨d0, d1, d2, d3, d4⟩ := row_at ho hy
      have hm := m_less hB
      have hbe := bef_rk (hok' x (List.mem_of_getElem? hx)) (hok' y (List.mem_of_getElem? hy))
      have hL := less_any g H'.length cap x y j i wr hjl (by omega) c0 c1 c2 c3 c4 d0 d1 d2 d3 d4
      have kx : Hid (rh H' j = rk x) := rh_at hx
      have ky : Hid (rh H' i = rk y) := rh_at hy
      have hxy : Hid (H'[j]? = some x ∧ H'[i]? = some y) := ⟨hx, hy⟩
      rw [hbe] at hL
      have hokH : Hid _ := hok
      clear c0 c1 c2 c3 c4 d0 d1 d2 d3 d4 hx hy hbe hok' hok
      obtain ⟨q, hq⟩ : ∃ q, Hid (decide (rk x < rk y) = q) := ⟨_, rfl⟩
      rw [hq.out] at hL
      cases q
      · go_wp2_with fail
        refine hL.mono ?_
        rintro e w1 ⟨rfl, b1⟩
        have hs1 := hs.below b1
        have B1 := low_trans hb (b1.mono hbw)
        clear hL hm hB ho hs b1
        go_wp2
        go_end0
        exact ⟨⟨_, rfl⟩, H', hs1, hp, up_end hu (.inr (by rw [hi.out, kx.out, ky.out]; have := of_decide_eq_false hq.out; omega)), B1⟩
      · go_wp2_with fail
        refine hL.mono ?_
        rintro e w1 ⟨rfl, b1⟩
        have hB1 := Boxed.below hB b1
        have ho1 := own_below ho b1
        have B1 := low_trans hb (b1.mono hbw)
        have hm1 := m_swap hB1
        have hbw1 : base ≤ w1.heap.size := Nat.le_trans hbw b1.size
        have hS := swap_any base g H'.length cap H' y x i j w1 ho1 hxy.out.2 hxy.out.1 (by omega)
        clear hL hm hB ho hs b1
        go_wp2_with fail
        refine hS.mono ?_
        rintro e w2 ⟨⟨v2, rfl⟩, ho2, g2⟩
        have hB2 : Boxed w2 p 67 _ := hB1.kept g2 (by simp; omega)
        have B2 := low_trans B1 (below_grown g2 hbg hbw1)
        clear hS hm1 hB1 ho1
        go_wp2
        go_roundw
        case rel =>
          refine ⟨i, (H'.set i x).set j y, rfl, by simp; omega, (swap_perm H' i j y x hxy.out.2 hxy.out.1).trans hp, ?_, ⟨_, by simpa using hB2, by simpa using ho2, hbp, Nat.le_trans hbw1 g2.size⟩, B2⟩
          have := up_step hu (by omega) hjl (by rw [hi.out, kx.out, ky.out]; exact of_decide_eq_true hq.out) (by rw [hi.out]; exact sw_set hxy.out.2 hxy.out.1 (by omega))
          rw [hi.out] at this
          simpa using this
        case measure => simp [intOf]; omega
end Go.Proofs.Ythfafmafhodlkaa.I
