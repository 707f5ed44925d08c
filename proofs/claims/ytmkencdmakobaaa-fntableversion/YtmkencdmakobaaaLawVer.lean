/- How new a table is grows with all that is new: the law, walked. -/
import Derived.Test.YtmkencdmakobaaaDrawTP
import Derived.Test.YtmkencdmakobaaaExVersion
namespace Go.Proofs.Ytmkencdmakobaaa
open Go.ChangeShapes Go.WideShapes Go.ChangeAt Go.RowKit
attribute [local go_sem ↓] Go.wp_at_zero Go.wp_at_succ
def wt (f : Fc) : Int := 1 + f.i * 16 + f.s * 2 + if f.g = true then 1 else 0
def verL : List Fc → Int
  | [] => 0
  | f :: r => wt f + verL r
theorem verL_append (T U : List Fc) : verL (T ++ U) = verL T + verL U := by
  induction T with
  | nil => simp [verL]
  | cons f r ih => simp only [List.cons_append, verL, ih]; omega
theorem verN_seq (F : Nat → Fc) : ∀ n, verN F n = verL (seqF F n)
  | 0 => rfl
  | n + 1 => by
    rw [seqF_succ, verL_append, ← verN_seq F n]
    show verN F n + 1 + (F n).i * 16 + (F n).s * 2 + _ = _
    simp only [verL, wt]
    omega
theorem verN_list (T : List Fc) : verN (fun k => T.getD k Fc.zero) T.length = verL T := by rw [verN_seq, seqF_getD_self]
theorem fok_bd {f : Fc} (h : fok f = true) : 0 ≤ f.i ∧ f.i ≤ 999 ∧ 1 ≤ f.s ∧ f.s ≤ 4 := by
  unfold fok fokB inb at h
  simp at h
  omega
theorem wt_over {f g : Fc} (hf : fok f = true) (hg : fok g = true) (h : ovr f g = true) : wt g < wt f := by
  have := fok_bd hf
  have := fok_bd hg
  unfold ovr l3B at h
  unfold wt
  split at h
  · simp at h
    split <;> split <;> omega
  · split at h
    · simp at h
      split <;> split <;> omega
    · simp at h
      rw [h.1, h.2]
      simp
      omega
theorem verL_put {f : Fc} (hf : fok f = true) : ∀ {T : List Fc}, (∀ g ∈ T, fok g = true) → Asc T → tnew T f = true → verL T < verL (tput T f)
  | [], _, _, _ => by
    have := fok_bd hf
    simp only [tput, verL, wt]
    split <;> omega
  | g :: r, hT, hA, h => by
    obtain ⟨h1, h2⟩ := asc_cons.1 hA
    have hb := fok_bd hf
    have hw : 0 < wt f := by unfold wt; split <;> omega
    unfold tput
    split
    · rename_i hlt
      have e : tnew (g :: r) f = tnew r f := by
        unfold tnew
        rw [tget_cons, if_neg (by omega)]
      rw [e] at h
      have := verL_put hf (fun x hx => hT x (by simp [hx])) h2 h
      simp only [verL]
      omega
    · split
      · rename_i heq
        have e : tnew (g :: r) f = ovr f g := by
          unfold tnew
          rw [tget_cons, if_pos heq]
        rw [e] at h
        rw [if_pos h]
        have := wt_over hf (hT g (by simp)) h
        simp only [verL]
        omega
      · simp only [verL]
        omega
theorem seqF_ok' {F : Nat → Fc} {len : Nat} (h : ∀ k, k < len → fok (F k) = true) : ∀ g ∈ seqF F len, fok g = true := fun g hg => by
  obtain ⟨k, hk, rfl⟩ := seqF_mem hg
  exact h k hk
theorem tok_of {T : List Fc} (hA : Asc T) (hT : ∀ g ∈ T, fok g = true) : tokB T.length (fun k => T.getD k Fc.zero) = true := by
  unfold tokB allB ascB
  rw [Bool.and_eq_true, decide_eq_true_iff, decide_eq_true_iff]
  refine ⟨fun k hk => hT _ (by simp [List.getD, hk]), fun k hk h0 => getD_asc hA (k - 1) k (by omega) hk⟩
/-- what the law asks, numbers alone -/
theorem ver_law (T : List Fc) (f : Fc) : (tokB T.length (fun k => T.getD k Fc.zero) = true ∧ fok f = true) →
    (tpQ T.length (fun k => T.getD k Fc.zero) f = true → verT T.length (fun k => T.getD k Fc.zero) < verT (tpT T.length (fun k => T.getD k Fc.zero) f).length (fun k => (tpT T.length (fun k => T.getD k Fc.zero) f).getD k Fc.zero)) ∧
    (tpQ T.length (fun k => T.getD k Fc.zero) f = false → verT (tpT T.length (fun k => T.getD k Fc.zero) f).length (fun k => (tpT T.length (fun k => T.getD k Fc.zero) f).getD k Fc.zero) = verT T.length (fun k => T.getD k Fc.zero)) := by
  rintro ⟨h1, h2⟩
  have e1 : tpT T.length (fun k => T.getD k Fc.zero) f = tput T f := by unfold tpT; rw [h1, h2, seqF_getD_self]; rfl
  have e2 : tpQ T.length (fun k => T.getD k Fc.zero) f = tnew T f := by unfold tpQ; rw [h1, h2, seqF_getD_self]; rfl
  obtain ⟨t1, t2⟩ := tok_all h1
  have hA : Asc T := by have := seqF_asc t2 T.length (Nat.le_refl _); rwa [seqF_getD_self] at this
  have hO : ∀ g ∈ T, fok g = true := by have := seqF_ok' t1; rwa [seqF_getD_self] at this
  have h3 := tok_of (tput_asc (f := f) hA) (fun g hg => by
    rcases tput_mem hg with rfl | hg
    · exact h2
    · exact hO g hg)
  rw [e1, e2]
  unfold verT
  rw [if_pos h1, if_pos h3, verN_list, verN_list]
  refine ⟨fun h => verL_put h2 hO hA h, fun h => ?_⟩
  have : tput T f = T := by
    unfold tnew at h
    cases hg : tget T f.n with
    | none => rw [hg] at h; cases h
    | some g => rw [hg] at h; exact tput_no hA hg h
  rw [this]
theorem tpT_len' (len : Nat) (F : Nat → Fc) (f : Fc) : (tpT len F f).length ≤ 9 := by
  unfold tpT
  split
  · rename_i h
    rw [Bool.and_eq_true] at h
    have := tput_len_le (seqF F len) f
    have := tok_len h.1
    rw [seqF_len] at *
    omega
  · simp
set_option maxRecDepth 10000 in
set_option maxHeartbeats 4000000 in
theorem lawVer_walk (a : Option Addr) (len cap : Nat) (w : World) (h : Bytes w.heap.size w a len) (hl : len ≤ cap) :
    Calls Try.prog 3 #[.slice a len cap] w fun r w' => r = .returned (.bool true) ∧ Below w.heap.size w w' := by
  by_cases hlen : len ≤ 1048576
  · have j0 : ¬ (1048576 : Int) < (len : Int) := by omega
    go_enter Try.func3, Try.ntmps3
    go_wp2_with fail
    refine (drawTP_any a len cap _ h hl).mono ?_
    rintro r w1 ⟨a1, c1, T, f, rfl, hn, o1, hT, B1⟩
    have hlaw := ver_law T f
    rcases own_sliceF o1 with ⟨e, _⟩ | ⟨g, cc, e, hg1, hg2, hg3⟩
    · exact absurd e hn
    simp only [Value.slice.injEq, true_and] at e
    obtain ⟨rfl, rfl⟩ := e
    obtain ⟨a0, c0, e0, _, _, hF⟩ := own_facts o1
    simp only [Value.slice.injEq, true_and] at e0
    obtain ⟨rfl, rfl⟩ := e0
    have hTl := tpT_len' T.length (fun k => T.getD k Fc.zero) f
    obtain ⟨x, hx⟩ : ∃ x, Hid (tpT T.length (fun k => T.getD k Fc.zero) f = x) := ⟨_, rfl⟩
    obtain ⟨q, hq⟩ : ∃ q, Hid (tpQ T.length (fun k => T.getD k Fc.zero) f = q) := ⟨_, rfl⟩
    rw [hx.out, hq.out] at hlaw
    rw [hx.out] at hTl
    generalize (fun k => T.getD k Fc.zero) = F at *
    generalize T.length = n at *
    have q0 : (q != q) = false := by simp
    clear o1 hn
    have p2 : (w1.alloc (.cells #[.int .i64 f.n, .int .i64 f.i, .int .i64 f.s, .bool f.g] 25)).heap[w1.heap.size]? = some (.cells #[.int .i64 f.n, .int .i64 f.i, .int .i64 f.s, .bool f.g] 25 (0, 0)) := heap_alloc_new _ _
    have b2 : Below w1.heap.size w1 (w1.alloc (.cells #[.int .i64 f.n, .int .i64 f.i, .int .i64 f.s, .bool f.g] 25)) := balloc _ (Below.refl _ _)
    go_wp2_with fail
    generalize (w1.alloc (.cells #[.int .i64 f.n, .int .i64 f.i, .int .i64 f.s, .bool f.g] 25)) = w2 at *
    have B2 := btrans B1 b2
    have hF2 := hF.below b2
    refine (fput_any _ n c1 F f _ hF2 (by omega)).mono ?_
    rintro r w3 ⟨v3, rfl, o3, b3⟩
    rw [hx.out] at o3
    rw [hq.out]
    obtain ⟨a3, c3, rfl, _, hxl, i3⟩ := own_facts o3
    have B3 := btrans B2 b3
    have p3 := blk_below b3 p2
    have d0 : w3.cell? ⟨w1.heap.size, 0, none⟩ = some (.int .i64 f.n) := cell_block (o := 0) p3 rfl
    have d1 : w3.cell? ⟨w1.heap.size, 1, none⟩ = some (.int .i64 f.i) := cell_block (o := 1) p3 rfl
    have d2 : w3.cell? ⟨w1.heap.size, 2, none⟩ = some (.int .i64 f.s) := cell_block (o := 2) p3 rfl
    have d3 : w3.cell? ⟨w1.heap.size, 3, none⟩ = some (.bool f.g) := cell_block (o := 3) p3 rfl
    have hF3 := hF2.below b3
    clear b3 p2 hF2 b2
    go_wp2_with fail
    refine (sput_any _ n c1 F f _ hF3 (by omega) ⟨g, 0, rfl, by have := B3.size; have := lt_of_block p3; omega⟩ hg3).mono ?_
    rintro r w4 ⟨v4, rfl, o4, b4⟩
    rw [hx.out] at o4
    rw [hq.out]
    obtain ⟨a4, c4, rfl, _, _, i4⟩ := own_facts o4
    have B4 := btrans B3 b4
    have p4 := blk_below b4 p3
    have hF4 := hF3.below b4
    replace i3 := i3.below b4
    clear b4 p3 hF3 o3 o4 d0 d1 d2 d3
    clear hx
    generalize (fun k => x.getD k Fc.zero) = X at *
    generalize x.length = m at *
    obtain ⟨va, hva⟩ : ∃ va, Hid (verT n F = va) := ⟨_, rfl⟩
    obtain ⟨vb, hvb⟩ : ∃ vb, Hid (verT m X = vb) := ⟨_, rfl⟩
    rw [hva.out, hvb.out] at hlaw
    go_wp2_with fail
    refine (ver_any _ n c1 F _ hF4 (by omega)).mono ?_
    rintro r w5 ⟨rfl, b5⟩
    rw [hva.out]
    have B5 := btrans B4 b5
    have p5 := blk_below b5 p4
    have hF5 := hF4.below b5
    replace i3 := i3.below b5
    replace i4 := i4.below b5
    clear b5 p4 hF4
    go_wp2_with fail
    refine (ver_any _ m c3 X _ i3 (by omega)).mono ?_
    rintro r w6 ⟨rfl, b6⟩
    rw [hvb.out]
    have B6 := btrans B5 b6
    have p6 := blk_below b6 p5
    have hF6 := hF5.below b6
    replace i3 := i3.below b6
    replace i4 := i4.below b6
    clear b6 p5 hF5
    have va0 : ¬ (va ≠ va) := by simp
    have vb0 : ¬ (vb ≠ vb) := by simp
    go_wp2_with fail
    refine (lh_same _ _ m c3 c4 X _ i3 i4 (by omega)).mono ?_
    rintro r w7 ⟨rfl, b7⟩
    have B7 := btrans B6 b7
    have p7 := blk_below b7 p6
    have hF7 := hF6.below b7
    replace i4 := i4.below b7
    clear b7 p6 hF6 i3
    go_wp2_with fail
    refine (sver_any _ n c1 F _ hF7 (by omega)).mono ?_
    rintro r w8 ⟨rfl, b8⟩
    rw [hva.out]
    have B8 := btrans B7 b8
    have p8 := blk_below b8 p7
    have hF8 := hF7.below b8
    replace i4 := i4.below b8
    clear b8 p7 hF7
    go_wp2_with fail
    refine (sver_any _ m c4 X _ i4 (by omega)).mono ?_
    rintro r w9 ⟨rfl, b9⟩
    rw [hvb.out]
    have B9 := btrans B8 b9
    have p9 := blk_below b9 p8
    have hF9 := hF8.below b9
    clear b9 p8 hF8 i4
    go_wp2_with fail
    cases hok0 : tokB n F with
    | false =>
      have hok : Hid (tokB n F = false) := hok0
      clear hok0 hlaw
      refine (stok_lit _ n c1 F false _ hF9 (by omega) hok.out).mono ?_
      rintro r wa ⟨rfl, ba⟩
      go_wp2
      go_ret
      exact ⟨rfl, btrans B9 ba⟩
    | true =>
      have hok : Hid (tokB n F = true) := hok0
      refine (stok_lit _ n c1 F true _ hF9 (by omega) hok0).mono ?_
      rintro r wa ⟨rfl, ba⟩
      have Ba := btrans B9 ba
      have pa := blk_below ba p9
      have d0 : wa.cell? ⟨w1.heap.size, 0, none⟩ = some (.int .i64 f.n) := cell_block (o := 0) pa rfl
      have d1 : wa.cell? ⟨w1.heap.size, 1, none⟩ = some (.int .i64 f.i) := cell_block (o := 1) pa rfl
      have d2 : wa.cell? ⟨w1.heap.size, 2, none⟩ = some (.int .i64 f.s) := cell_block (o := 2) pa rfl
      have d3 : wa.cell? ⟨w1.heap.size, 3, none⟩ = some (.bool f.g) := cell_block (o := 3) pa rfl
      cases hfk0 : fok f with
      | false =>
        have hfk : Hid (fok f = false) := hfk0
        clear hok0 hlaw hfk0
        go_wp2_with fail
        refine (sfok_litF f false _ hfk.out).mono ?_
        rintro r wb ⟨rfl, bb⟩
        go_wp2
        go_ret
        exact ⟨rfl, btrans Ba bb⟩
      | true =>
        have hfk : Hid (fok f = true) := hfk0
        obtain ⟨l1, l2⟩ := hlaw ⟨hok0, hfk0⟩
        cases q with
        | false =>
          have l3 := l2 rfl
          subst l3
          clear hok0 hfk0 l1 l2 hlaw
          go_wp2_with fail
          refine (sfok_litF f true _ hfk.out).mono ?_
          rintro r wb ⟨rfl, bb⟩
          go_wp2
          go_ret
          exact ⟨rfl, btrans Ba bb⟩
        | true =>
          have l3 := l1 rfl
          clear hok0 hfk0 l1 l2 hlaw
          go_wp2_with fail
          refine (sfok_litF f true _ hfk.out).mono ?_
          rintro r wb ⟨rfl, bb⟩
          go_wp2
          go_ret
          exact ⟨rfl, btrans Ba bb⟩
  · have j0 : (1048576 : Int) < (len : Int) := by omega
    go_enter Try.func3, Try.ntmps3
    go_wp2
    go_ret
    exact ⟨rfl, Below.refl _ _⟩
end Go.Proofs.Ytmkencdmakobaaa
