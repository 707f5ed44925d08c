/- Two drawn views. -/
import Derived.Test.YtfmjjafgipikeaaDrawTab
import Derived.Test.YtfmjjafgipikeaaJoin
namespace Go.Proofs.Ytfmjjafgipikeaa
open Go.ChangeShapes Go.WideShapes Go.ChangeAt Go.RowKit
attribute [local go_sem ↓] Go.wp_at_zero Go.wp_at_succ
/-- two lists of facts -/
def VNPost (w : World) (r : Ending) (w' : World) : Prop :=
  ∃ (a1 : Option Addr) (n c1 : Nat) (F : Nat → Fc) (a2 : Option Addr) (m c2 : Nat) (G : Nat → Fc), r = .returned (.tuple #[.slice a1 n c1, .slice a2 m c2]) ∧ FSl w' a1 n F ∧ FSl w' a2 m G ∧ n ≤ 8 ∧ m ≤ 8 ∧ Below w.heap.size w w'
set_option maxRecDepth 20000 in
set_option maxHeartbeats 2000000 in
theorem drawVN_any (a : Option Addr) (len cap : Nat) (w : World) (h : Bytes w.heap.size w a len) (hl : len ≤ cap) :
    Calls Try.prog 5 #[.slice a len cap] w (VNPost w) := by
  go_enter Try.func5, Try.ntmps5
  go_wp2_with fail
  refine (open_any w.heap.size a len cap _ (Nat.le_refl _) h hl).mono ?_
  rintro r w1 ⟨rfl, ⟨C, r1⟩, B1, z1⟩
  have r1lt := r1.lt
  go_wp2_with fail
  refine (anyTable_any w.heap.size w.heap.size 0 _ r1 (by omega)).mono ?_
  rintro r w2 ⟨a2, c2, T, q, rfl, hn, o2, hT, hq, r2, f2⟩
  have B2 := Off.belowAll B1 f2 (Nat.le_refl _)
  have s2 := f2.size
  clear f2 r1
  go_wp2_with fail
  refine (anyTable_any w.heap.size w.heap.size q _ r2 (by omega)).mono ?_
  rintro r w3 ⟨a3, c3, U, q3, rfl, hn3, o3, hU, hq3, r3, f3⟩
  have B3 := Off.belowAll B2 f3 (Nat.le_refl _)
  replace o2 := own_off o2 f3 (by omega)
  clear f3 r2
  go_wp2_with fail
  refine (pick_any w.heap.size w.heap.size q3 2 _ r3 (by omega)).mono ?_
  rintro r w4 ⟨rfl, hk, r4, f4⟩
  have B4 := Off.belowAll B3 f4.off (Nat.le_refl _)
  replace o2 := own_off o2 f4.off (by omega)
  replace o3 := own_off o3 f4.off (by omega)
  clear f4 r3 r4
  obtain ⟨x2, d2, e2, _, _, h2⟩ := own_facts o2
  simp only [Value.slice.injEq, true_and] at e2
  obtain ⟨rfl, rfl⟩ := e2
  obtain ⟨x3, d3, e3, _, _, h3⟩ := own_facts o3
  simp only [Value.slice.injEq, true_and] at e3
  obtain ⟨rfl, rfl⟩ := e3
  rcases own_sliceF o2 with ⟨e, _⟩ | ⟨g, cc, e, hg1, hg2, hg3⟩
  · exact absurd e hn
  simp only [Value.slice.injEq, true_and] at e
  obtain ⟨rfl, rfl⟩ := e
  clear o2 o3 hn hn3
  generalize (fun k => T.getD k Fc.zero) = F at *
  generalize T.length = n at *
  generalize (fun k => U.getD k Fc.zero) = G at *
  generalize U.length = m at *
  generalize C.pk q3 2 = k at *
  by_cases h0 : k = 0
  · subst h0
    have hfi : FactsIn w4 g 0 n F := fun j hj => by
      obtain ⟨b, off, e, hb, hf⟩ := h2 (by omega)
      simp only [Option.some.injEq, Addr.mk.injEq, and_true] at e
      obtain ⟨rfl, rfl⟩ := e
      exact hf j hj
    have hjl := tj_len n F m G
    obtain ⟨V, hV⟩ : ∃ V, Hid (tj n F m G = V) := ⟨_, rfl⟩
    rw [hV.out] at hjl
    go_wp2_with fail
    refine (sjoin_any g 0 n c2 F _ m c3 G _ hfi hg2 h3 (by omega) (by omega)).mono ?_
    rintro r w5 ⟨v, rfl, o5, b5⟩
    rw [hV.out] at o5
    obtain ⟨a5, c5, rfl, _, _, h5⟩ := own_facts o5
    have B5 := btrans B4 b5
    replace h2 := h2.below b5
    clear b5 o5 hfi
    go_wp2
    exact bodyPost_ret (v := .tuple #[.slice _ n c2, .slice a5 V.length c5]) (by simp [results, Try.results5, go_sem]) rfl ⟨_, _, _, _, _, _, _, _, rfl, h2, h5, by omega, hjl, B5⟩
  · have hk0 : (k == 0) = false := by simp [h0]
    go_wp2
    exact bodyPost_ret (v := .tuple #[.slice _ n c2, .slice a3 m c3]) (by simp [results, Try.results5, go_sem]) rfl ⟨_, _, _, _, _, _, _, _, rfl, h2, h3, by omega, by omega, B4⟩
end Go.Proofs.Ytfmjjafgipikeaa
