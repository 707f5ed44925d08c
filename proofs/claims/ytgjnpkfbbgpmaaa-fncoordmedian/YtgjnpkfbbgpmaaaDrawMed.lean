/- Drawn trips: at most five numbers, in new memory. -/
import Derived.Test.YtgjnpkfbbgpmaaaDraw
namespace Go.Proofs.Ytgjnpkfbbgpmaaa
open Go.ChangeShapes Go.WideShapes Go.ChangeAt Go.RowKit
attribute [local go_sem ↓] Go.wp_at_zero Go.wp_at_succ
theorem Rd.below {G : Cd} {B rb p : Nat} {w w' : World} (h : Rd G B rb p w) (hb : Below (rb + 1) w w') : Rd G B rb p w' := by
  obtain ⟨h1, h2, h3, h4, h5, a, cap, hl, h6, hc0, h7⟩ := h
  refine ⟨h1, by have := hb.size; omega, h3, ?_, ?_, a, cap, hl, ?_, hc0, ?_⟩
  · exact (World.frozen?_of_block (a := ⟨rb, 1, none⟩) (hb.block rb (by omega))).trans h4
  · exact (World.cell?_of_block (a := ⟨rb, 1, none⟩) (hb.block rb (by omega))).trans h5
  · exact (World.cell?_of_block (a := ⟨rb, 0, none⟩) (hb.block rb (by omega))).trans h6
  · rcases h7 with h7 | ⟨b, off, rfl, hbb, hcc⟩
    · exact .inl h7
    · exact .inr ⟨b, off, rfl, hbb, fun i hi => (World.cell?_of_block (a := ⟨b, off + i, none⟩) (hb.block b (by omega))).trans (hcc i hi)⟩
theorem own_aside {w w' : World} {base g cap n rb : Nat} {xs : List Value} (h : w.ownsRow base 3 1 (.slice (some ⟨g, 0, none⟩) n cap) n xs) (ha : Aside1 rb w w') (hne : g ≠ rb) : w'.ownsRow base 3 1 (.slice (some ⟨g, 0, none⟩) n cap) n xs := by
  refine ⟨h.1, h.2.imp id ?_⟩
  rintro ⟨g', cap', cur, hv, hg, hh, r⟩
  cases hv
  exact ⟨g, cap, cur, rfl, hg, (ha.block g hne).trans hh, r⟩
set_option maxHeartbeats 2000000 in
theorem drawMed_any (a : Option Addr) (len cap : Nat) (w : World) (h : Bytes w.heap.size w a len) (hl : len ≤ cap) :
    Calls Try.prog 4 #[.slice a len cap] w fun e w' => ∃ (g c : Nat) (L : List Int), e = .returned (.slice (some ⟨g, 0, none⟩) L.length c) ∧ L.length ≤ 5 ∧ L.length ≤ c ∧ w'.ownsRow (w.heap.size + 1) 3 1 (.slice (some ⟨g, 0, none⟩) L.length c) L.length (lv L) ∧ Below w.heap.size w w' := by
  obtain ⟨ti, hi, hz0, hz1, hz2⟩ := info_parts info3
  go_enter Try.func4, Try.ntmps4
  go_wp2_with fail
  refine (open_any w.heap.size a len cap w (Nat.le_refl _) h hl).mono ?_
  rintro e w1 ⟨rfl, ⟨G, r1⟩, b1, s1⟩
  have o2 : (w1.alloc (.cells #[] 3)).ownsRow (w.heap.size + 1) 3 1 (.slice (some ⟨w1.heap.size, 0, none⟩) 0 0) 0 (lv []) := World.ownsRow_lit w1 #[] 0 (by omega) (by unfold maxLen; omega) rfl
  have r2 := r1.alloc (.cells #[] 3)
  have B2 := balloc (.cells #[] 3) b1
  have n2 : w1.heap.size ≠ w.heap.size := by omega
  clear r1 b1 s1
  go_wp2_with fail
  generalize (w1.alloc (.cells #[] 3)) = w2 at *
  generalize w1.heap.size = g0 at *
  refine (pick_any w.heap.size w.heap.size 0 6 _ r2 (by omega)).mono ?_
  rintro e w3 ⟨rfl, hbd, r3, a3⟩
  have o3 := own_aside o2 a3 n2
  have B3 : Below w.heap.size w w3 := B2.trans (a3.below (Nat.le_refl _))
  clear o2 r2 B2 a3
  generalize G.pk 0 6 = n0 at *
  obtain ⟨k0, rfl⟩ := Int.eq_ofNat_of_zero_le hbd.1
  have hk0 : k0 ≤ 5 := by omega
  clear hbd
  go_wp2_with fail
  go_loopw [4, 5] (fun v nv wr => ∃ k p : Nat, k ≤ 5 ∧ nv = .int .i64 k ∧ p ≤ 100 - k ∧ Rd G w.heap.size w.heap.size p wr ∧ Below w.heap.size w wr ∧ ∃ (g c : Nat) (L : List Int), v = .slice (some ⟨g, 0, none⟩) L.length c ∧ L.length + k ≤ 5 ∧ L.length ≤ c ∧ wr.ownsRow (w.heap.size + 1) 3 1 (.slice (some ⟨g, 0, none⟩) L.length c) L.length (lv L)) (fun _ nv _ => (intOf nv).toNat)
  case atStart => exact ⟨k0, 1, hk0, rfl, by omega, r3, B3, g0, 0, [], rfl, by simpa using hk0, by simp, o3⟩
  case round =>
    obtain ⟨k, p, hk, rfl, hp, hr, hb, g, c, L, rfl, hL, hLc, ho⟩ := hrel
    clear r3 o3 B3
    have hg : w.heap.size + 1 ≤ g := own_ge ho
    by_cases hlt : 0 < k
    · obtain ⟨k, rfl⟩ : ∃ k', k = k' + 1 := ⟨k - 1, by omega⟩
      have i0 : (0 : Int) < (k : Int) + 1 := by omega
      go_wp2_with fail
      refine (pick_any w.heap.size w.heap.size p 20 _ hr (by omega)).mono ?_
      rintro e w4 ⟨rfl, hbd, r4, a4⟩
      have o4 := own_aside ho a4 (by omega)
      have B4 : Below w.heap.size w w4 := hb.trans (a4.below (Nat.le_refl _))
      generalize G.pk p 20 = y at *
      have i1 : IntKind.i64.wrap (y - 4) = y - 4 := by rw [IntKind.wrap_i64]; omega
      clear hr a4 hb ho
      generalize hy : y - 4 = x at *
      go_wp2_with (at_builtin; refine wpList_append_own _ rfl _ _ 23 rfl (w.heap.size + 1) 3 ti (.int .i64 0) 1 8 Try.underlying23 hi hz0 hz1 hz2 rfl (by decide) _ _ _ rfl (o4.alloc _) ⟨w4.heap.size, 0, none⟩ 1 1 [.int .i64 x] rfl rfl ?c1 ?c2 ?c3 ?c4 ?c5 ?_)
      case c1 =>
        intro j u hj
        match j, hj with
        | 0, hj => simp at hj; subst hj; simp [Addr.add]
      case c2 => intro u hu; simp at hu; subst hu; rfl
      case c3 => unfold maxLen; omega
      case c4 => omega
      case c5 => have := r4.lt; simp; omega
      · intro v' w5 o5 g5 hnil
        rw [← lv_append] at o5
        obtain ⟨g', c', rfl, _, _, hc', _⟩ := Lib.holds_of_ownsRow (enc := Value.int .i64) (zs := L ++ [x]) o5 hnil
        have B5 : Below (w.heap.size + 1) w4 w5 := own_grow ((Below.refl _ _).alloc (by have := r4.lt; omega) _) (by have := r4.lt; simp; omega) (o4.alloc _) g5
        have r5 := r4.below B5
        have B6 := B4.trans (B5.mono (Nat.le_succ _))
        clear o4 g5 hnil r4 B4 B5
        go_wp2
        go_roundw
        case rel => exact ⟨k, p + 1, by omega, by go_num, by omega, r5, B6, g', c', L ++ [x], by simp, by simp; omega, by simpa using hc', by simpa using o5⟩
        case measure => simp [intOf]
    · have i0 : ¬ (0 : Int) < (k : Int) := by omega
      go_wp2
      go_ret
      exact ⟨g, c, L, rfl, by omega, hLc, ho, hb⟩
end Go.Proofs.Ytgjnpkfbbgpmaaa
