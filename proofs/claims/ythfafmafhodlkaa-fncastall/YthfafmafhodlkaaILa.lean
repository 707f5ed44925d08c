/- Each fact is told just as often as it is to be: the law's walk. -/
import Derived.Test.YthfafmafhodlkaaIAm
import Derived.Test.YthfafmafhodlkaaILf
namespace Go.Proofs.Ythfafmafhodlkaa.I
open Go.ChangeShapes Go.WideShapes Go.ChangeAt Go.RowKit
attribute [local go_sem ↓] Go.wp_at_zero Go.wp_at_succ
/-- counts in a block of their own -/
def CB (w : World) (b : Nat) (c : Nat → Nat) : Prop := ∃ cs, w.heap[b]? = some (.cells cs 3 (0, 0)) ∧ cs.size = 8 ∧ ∀ k, k < 8 → cs[k]? = some (.int .i64 (c k : Int))
theorem CB.at {w : World} {b : Nat} {c : Nat → Nat} (h : CB w b c) (k : Nat) (hk : k < 8) : w.cell? ⟨b, k, none⟩ = some (.int .i64 (c k : Int)) := by
  obtain ⟨cs, h1, h2, h3⟩ := h
  simp [World.cell?, h1, h3 k hk]
theorem CB.frz {w : World} {b : Nat} {c : Nat → Nat} (h : CB w b c) (k : Nat) (_ : k < 8) : w.frozen? ⟨b, k, none⟩ = false := by
  obtain ⟨cs, h1, _⟩ := h
  simp [World.frozen?, h1]
theorem CB.below {w w' : World} {b : Nat} {c : Nat → Nat} (h : CB w b c) (hb : Below w.heap.size w w') : CB w' b c := by
  obtain ⟨cs, h1, h2⟩ := h
  exact ⟨cs, (hb.block b (Array.getElem?_eq_some_iff.1 h1).1).trans h1, h2⟩
theorem CB.set {w : World} {b : Nat} {c : Nat → Nat} (h : CB w b c) (m v : Nat) : CB (w.drew.setCell ⟨b, m, none⟩ (.int .i64 (v : Int))) b (fun j => if j = m then v else c j) := by
  obtain ⟨cs, h1, h2, h3⟩ := h
  refine ⟨cs.setIfInBounds m (.int .i64 (v : Int)), heap_setCell_same w.drew b m cs 3 _ h1, by simpa using h2, fun k hk => ?_⟩
  rw [Array.getElem?_setIfInBounds]
  by_cases e : m = k
  · subst e; simp [h2, hk]
  · rw [if_neg e, h3 k hk]
    show _ = some (Value.int .i64 ((if k = m then v else c k : Nat) : Int))
    rw [if_neg (fun h => e h.symm)]
theorem CB.not_row {w : World} {b base e size n : Nat} {c : Nat → Nat} {v : Value} {xs : List Value} (h : CB w b c) (ho : w.ownsRow base e size v n xs) (hne : e ≠ 3) : v.ownBlock ≠ some b := fun e' => by
  obtain ⟨cs, h1, _⟩ := h
  rcases ho.2 with ⟨rfl, _⟩ | ⟨g, cap, cur, rfl, _, hgb, _⟩
  · simp [Value.ownBlock] at e'
  · obtain rfl : g = b := by simpa [Value.ownBlock] using e'
    rw [hgb] at h1
    cases h1
    exact hne rfl
theorem info3 : (Try.prog.info? 3).map (fun i => (i.zero, i.size, i.bytes)) = some (some (.int .i64 0), 1, 8) := by kernel_rfl
theorem run_make_counts (w : World) :
    (Instr.makeSlice 32 (.int .i64 8) (.int .i64 8)).run Try.prog w = .ok (.slice (some ⟨w.heap.size, 0, none⟩) 8 8) (w.alloc (.cells (madeCells #[.int .i64 0] 8) 3)) := by
  obtain ⟨i, hi, hzz⟩ := Option.map_eq_some_iff.1 info3
  simp only [Prod.mk.injEq] at hzz
  obtain ⟨hz, hs, hb⟩ := hzz
  have hr := run_make (P := Try.prog) w 32 3 i _ Try.underlying32 hi hz .i64 .i64 8 8 (by omega) (Int.le_refl _) (by rw [hb]; omega) (by omega)
  rw [hr, hs]
  rfl
theorem counts_made (w : World) : CB (w.alloc (.cells (madeCells #[.int .i64 0] 8) 3)) w.heap.size (fun _ => 0) :=
  ⟨_, World.alloc_heap_new w _, size_madeCells _ _, fun k hk => by simp [madeCells, hk, Nat.mod_one]⟩
/-- how often a node is among facts -/
def cnF (T : List Fc) (k : Nat) : Nat := (T.filter fun f => decide (f.n = (k : Int))).length
theorem cnF_le (T : List Fc) (k : Nat) : cnF T k ≤ T.length := List.length_filter_le _ _
theorem cnF_snoc (T : List Fc) (f : Fc) (k : Nat) : cnF (T ++ (some f).toList) k = cnF T k + (if f.n = (k : Int) then 1 else 0) := by
  unfold cnF
  rw [List.filter_append, List.length_append]
  by_cases h : f.n = (k : Int) <;> simp [h]
theorem cnF_one {T : List Fc} (h : T.Pairwise fun f g => f.n < g.n) (k : Nat) : cnF T k = if ∃ f ∈ T, f.n = (k : Int) then 1 else 0 := by
  induction T with
  | nil => simp [cnF]
  | cons a r ih =>
    obtain ⟨h1, h2⟩ := List.pairwise_cons.1 h
    have ih := ih h2
    unfold cnF at ih ⊢
    rw [List.filter_cons]
    by_cases e : a.n = (k : Int)
    · have hr : r.filter (fun f => decide (f.n = (k : Int))) = [] := filter_none _ _ (fun f hf => by have := h1 f hf; simp; omega)
      rw [if_pos (by simpa using e), hr, if_pos ⟨a, by simp, e⟩]
      rfl
    · rw [if_neg (by simpa using e), ih]
      have : (∃ f ∈ a :: r, f.n = (k : Int)) ↔ ∃ f ∈ r, f.n = (k : Int) := by
        constructor
        · rintro ⟨f, hf, e'⟩
          rcases List.mem_cons.1 hf with rfl | hf
          · exact absurd e' e
          · exact ⟨f, hf, e'⟩
        · rintro ⟨f, hf, e'⟩
          exact ⟨f, List.mem_cons_of_mem _ hf, e'⟩
      simp only [this]
theorem lft_rng {L : List It} (h : cokB L.length (fun k => L.getD k It.zero) = true) (k : Int) : 0 ≤ lft L k ∧ lft L k ≤ 4 := by
  unfold lft
  cases hg : tget L k with
  | none => simp
  | some x =>
    have := (cok_okL h).1.1 x (tget_mem hg).1
    exact ⟨by have := this.1; simp; omega, this.2.1⟩
theorem tget_in {L : List It} (h : cokB L.length (fun k => L.getD k It.zero) = true) {x : It} (hx : x ∈ L) : tget L x.n = some x := by
  cases hg : tget L x.n with
  | none => exact absurd rfl (tget_none hg x hx)
  | some y =>
    obtain ⟨h1, h2⟩ := tget_mem hg
    rw [ok_inj (cok_okL h).1 y h1 x hx h2]
theorem takL_nil (most : Int) : takL [] most = [] := by
  unfold takL
  split <;> rfl
theorem cok_lit (a : Option Addr) (len cap : Nat) (F : Nat → It) (q : Bool) (w : World) (h : TSl w a len F) (hl : len ≤ 1048576) (hq : cokB len F = q) :
    Calls Try.prog 11 #[.slice a len cap] w fun e w' => e = .returned (.bool q) ∧ Below w.heap.size w w' := hq ▸ cok_any a len cap F w h hl
set_option maxRecDepth 20000 in
set_option maxHeartbeats 8000000 in
theorem all_walk (a : Option Addr) (len cap : Nat) (w : World) (h : Bytes w.heap.size w a len) (hl : len ≤ cap) :
    Calls Try.prog 3 #[.slice a len cap] w fun r w' => r = .returned (.bool true) ∧ Below w.heap.size w w' := by
  by_cases hlen : len ≤ 1048576
  · have j0 : ¬ (1048576 : Int) < (len : Int) := by omega
    go_enter Try.func3, Try.ntmps3
    go_wp2_with fail
    refine (drawCT_any a len cap _ h hl).mono ?_
    rintro r w1 ⟨a1, c1, L, most, rfl, oL, hL7, hm0, hm1, B1⟩
    obtain ⟨_, _, q, -, -, iL⟩ := own_facts oL
    cases q
    have hlF := takF_len L most
    have hlL := takL_len L most
    have hmost := tak_most L most
    have hnil : Hid (cokB L.length (fun k => L.getD k It.zero) = false → (takF L most).length = 0) := fun hc => by unfold takF; rw [hc]; rfl
    obtain ⟨ck, hck⟩ : ∃ ck, Hid (cokB L.length (fun k => L.getD k It.zero) = ck) := ⟨_, rfl⟩
    rw [hck.out] at hnil
    have hC := ctake_any a1 c1 L most w1 iL (by omega)
    have hS := sctake_any a1 c1 L most
    have hSH : Hid _ := hS
    clear hS
    generalize takF L most = TF at *
    generalize takL L most = TL at *
    go_wp2_with fail
    refine hC.mono ?_
    rintro r w2 ⟨v1, v2, rfl, o1, o2, b2⟩
    have B2 := btrans B1 b2
    obtain ⟨e1, k1, rfl, -, -, -⟩ := Ythfafmafhodlkaa.own_facts o1
    obtain ⟨e2, k2, rfl, -, -, -⟩ := own_facts o2
    replace iL := iL.below b2
    replace oL := own_below oL b2
    clear b2 hC
    go_wp2_with fail
    refine (hSH.out w2 iL (by omega)).mono ?_
    rintro r w3 ⟨v3, v4, rfl, o3, o4, b3⟩
    have B3 := btrans B2 b3
    obtain ⟨e3, k3, rfl, -, -, i3⟩ := Ythfafmafhodlkaa.own_facts o3
    obtain ⟨e4, k4, rfl, -, -, i4⟩ := own_facts o4
    replace iL := iL.below b3
    replace oL := own_below oL b3
    replace o1 := own_below o1 b3
    replace o2 := own_below o2 b3
    obtain ⟨_, _, q, -, -, i1⟩ := Ythfafmafhodlkaa.own_facts o1
    cases q
    obtain ⟨_, _, q, -, -, i2⟩ := own_facts o2
    cases q
    clear b3 o3 o4 o1 o2
    go_wp2_with fail
    refine (lhF_same _ _ _ _ _ _ _ i1 i3 (by omega)).mono ?_
    rintro r w4 ⟨rfl, b4⟩
    have B4 := btrans B3 b4
    replace iL := iL.below b4
    replace oL := own_below oL b4
    replace i2 := i2.below b4
    replace i4 := i4.below b4
    clear b4 i3
    go_wp2_with fail
    refine (lhI_same _ _ _ _ _ _ _ i2 i4 (by omega)).mono ?_
    rintro r w5 ⟨rfl, b5⟩
    have B5 := btrans B4 b5
    replace iL := iL.below b5
    replace oL := own_below oL b5
    clear b5 i2 i4
    go_wp2_with fail
    refine (cok_lit a1 L.length c1 _ ck _ iL (by omega) hck.out).mono ?_
    rintro r w6 ⟨rfl, b6⟩
    have B6 := btrans B5 b6
    replace iL := iL.below b6
    replace oL := own_below oL b6
    clear b6
    have ecc : (ck != ck) = false := by simp
    go_wp2_with fail
    refine (scok_lit a1 L.length c1 _ ck _ iL (by omega) hck.out).mono ?_
    rintro r w7 ⟨rfl, b7⟩
    have B7 := btrans B6 b7
    replace iL := iL.below b7
    replace oL := own_below oL b7
    clear b7
    cases ck
    · have z0 : TF.length = 0 := hnil.out rfl
      have z1 : ((TF.length : Nat) : Int) = 0 := by omega
      clear hnil
      go_wp2_with fail
      refine (scok_lit a1 L.length c1 _ false _ iL (by omega) hck.out).mono ?_
      rintro r w8 ⟨rfl, b8⟩
      have B8 := btrans B7 b8
      go_wp2
      go_ret
      exact ⟨by simp, B8⟩
    · by_cases hm1' : most < 1
      · have z0 : TF.length = 0 := by omega
        have z1 : ((TF.length : Nat) : Int) = 0 := by omega
        clear hnil hmost
        go_wp2_with fail
        refine (scok_lit a1 L.length c1 _ true _ iL (by omega) hck.out).mono ?_
        rintro r w8 ⟨rfl, b8⟩
        have B8 := btrans B7 b8
        go_wp2
        go_ret
        exact ⟨by simp, B8⟩
      · clear hnil hmost
        go_wp2_with fail
        refine (scok_lit a1 L.length c1 _ true _ iL (by omega) hck.out).mono ?_
        rintro r w8 ⟨rfl, b8⟩
        have B8 := btrans B7 b8
        replace oL := own_below oL b8
        have hmk := run_make_counts w8
        have hC0 := counts_made w8
        have Bm := balloc (.cells (madeCells #[.int .i64 0] 8) 3) B8
        replace oL := oL.alloc (.cells (madeCells #[.int .i64 0] 8) 3)
        have hbcw := B8.size
        clear b8 iL B7 B6 B5 B4 B3 B2 B1 hSH
        go_wp2_with fail
        generalize (w8.alloc (.cells (madeCells #[.int .i64 0] 8) 3)) = wm at *
        generalize w8.heap.size = bc at *
        clear hmk B8
        go_loopw [10, 11] (fun x i wr => ∃ (n : Nat) (a2 : Option Addr) (c2 : Nat) (Lc : List It) (c : Nat → Nat), n ≤ 40 ∧ i = .int .i64 n ∧ x = .slice a2 Lc.length c2 ∧ cokB Lc.length (fun k => Lc.getD k It.zero) = true ∧ (∀ k : Nat, k < 8 → (c k : Int) + lft Lc k = lft L k) ∧ (tot Lc + n ≤ 28 ∨ Lc = []) ∧ CB wr bc c ∧ wr.ownsRow w.heap.size 36 5 (.slice a2 Lc.length c2) Lc.length (fl Lc) ∧ wr.ownsRow w.heap.size 36 5 (.slice a1 L.length c1) L.length (fl L) ∧ Below w.heap.size w wr) (fun _ i _ => 40 - (intOf i).toNat)
        case atStart => exact ⟨0, a1, c1, L, fun _ => 0, by omega, rfl, rfl, hck.out, fun k _ => by simp, .inl (by have := tot_le (cok_okL hck.out).1.1; omega), hC0, oL, oL, Bm⟩
        case round =>
          clear oL hC0 Bm
          obtain ⟨n, a2, c2, Lc, c, hn, rfl, rfl, hcok0, hinv0, hdec0, hC, oc, oL, hb⟩ := hrel
          have hcok : Hid (cokB Lc.length (fun k => Lc.getD k It.zero) = true) := hcok0
          have hinv : Hid (∀ k : Nat, k < 8 → (c k : Int) + lft Lc k = lft L k) := hinv0
          have hdec1 : Hid (tot Lc + n ≤ 28 ∨ Lc = []) := hdec0
          have hcb4 : Hid (∀ k, k < 8 → c k ≤ 4) := fun k hk => by
            have h1 := hinv0 k hk
            have h2 := lft_rng hcok0 (k : Int)
            have h3 := lft_rng hck.out (k : Int)
            omega
          clear hcok0 hinv0 hdec0
          by_cases hlt : n < 40
          · have i1 : (n : Int) < 40 := by omega
            have hl8 := (cok_okL hcok.out).2
            obtain ⟨_, _, qq, -, -, iC⟩ := own_facts oc
            cases qq
            have hT := ctake_any a2 c2 Lc most wr iC (by omega)
            have hrng : Hid (∀ f ∈ takF Lc most, 0 ≤ f.n ∧ f.n ≤ 7) := takF_rng hcok.out
            have hpw : Hid ((takF Lc most).Pairwise fun f g => f.n < g.n) := takF_nodup hcok.out
            have hstep : Hid (∀ k : Int, lft (takL Lc most) k + (if ∃ f ∈ takF Lc most, f.n = k then 1 else 0) = lft Lc k) := takL_lft hcok.out
            have hdec : Hid (tot (takL Lc most) + (n + 1) ≤ 28 ∨ takL Lc most = []) := by
              rcases hdec1.out with h1 | h1
              · rcases takL_tot (most := most) hcok.out (by omega) with h2 | h2
                · exact .inl (by omega)
                · exact .inr (by rw [h2]; exact takL_nil _)
              · exact .inr (by rw [h1]; exact takL_nil _)
            have hck2 : Hid (cokB (takL Lc most).length (fun k => (takL Lc most).getD k It.zero) = true) := takL_cok hcok.out
            have hF8 := takF_len Lc most
            have hL8 := takL_len Lc most
            generalize takF Lc most = TF2 at *
            generalize hTLe : takL Lc most = TL2 at *
            have hTLH : Hid (takL Lc most = TL2) := hTLe
            clear hTLe
            go_wp2_with fail
            refine hT.mono ?_
            rintro r w9 ⟨v8, v9, rfl, o8, o9, b9⟩
            have Bx := hb.trans (b9.mono hb.size)
            replace hC := hC.below b9
            replace oL := own_below oL b9
            obtain ⟨e8, k8, rfl, -, -, -⟩ := Ythfafmafhodlkaa.own_facts o8
            obtain ⟨e9, k9, rfl, -, -, -⟩ := own_facts o9
            replace o8 := own_mono o8 hb.size
            replace o9 := own_mono o9 hb.size
            clear hT iC oc hb b9 hdec1
            go_wp2_with fail
            go_loopw [14] (fun i wr => ∃ (j : Nat) (cj : Nat → Nat), j ≤ TF2.length ∧ i = .int .i64 j ∧ (∀ k, k < 8 → cj k = c k + cnF (TF2.take j) k) ∧ CB wr bc cj ∧ wr.ownsRow w.heap.size 34 4 (.slice e8 TF2.length k8) TF2.length (Ythfafmafhodlkaa.fl TF2) ∧ wr.ownsRow w.heap.size 36 5 (.slice e9 TL2.length k9) TL2.length (fl TL2) ∧ wr.ownsRow w.heap.size 36 5 (.slice a1 L.length c1) L.length (fl L) ∧ Below w.heap.size w wr) (fun i _ => TF2.length - (intOf i).toNat)
            case atStart => exact ⟨0, c, Nat.zero_le _, rfl, fun k _ => by simp [cnF], hC, o8, o9, oL, Bx⟩
            case round =>
              clear hC o8 o9 oL Bx
              obtain ⟨j, cj, hj, rfl, hcj, hC, o8, o9, oL, hb⟩ := hrel
              have hcjH : Hid (∀ k, k < 8 → cj k = c k + cnF (TF2.take j) k) := hcj
              clear hcj
              by_cases hjlt : j < TF2.length
              · have n0 : (0 : Int) ≤ (j : Int) := by omega
                have n1 : (j : Int) < (TF2.length : Int) := by omega
                obtain ⟨f, hf⟩ : ∃ f, Hid (TF2[j]? = some f) := ⟨_, List.getElem?_eq_getElem hjlt⟩
                obtain ⟨r0, r1⟩ := hrng.out f (List.mem_of_getElem? hf.out)
                obtain ⟨nd, hnd⟩ : ∃ nd : Nat, f.n = nd := ⟨f.n.toNat, by omega⟩
                have hnd8 : nd < 8 := by omega
                obtain ⟨bf, of, e8', hbfc, t0⟩ : ∃ bf of, Hid (e8 = some ⟨bf, of, none⟩) ∧ bf ≠ bc ∧ wr.cell? ⟨bf, of + j * 4, none⟩ = some (.int .i64 (nd : Int)) := by
                  rcases Ythfafmafhodlkaa.own_sliceF o8 with ⟨_, h0⟩ | ⟨g1, p1, e, _⟩
                  · omega
                  · simp only [Value.slice.injEq, true_and] at e
                    refine ⟨g1, 0, e.1, ?_, ?_⟩
                    · rintro rfl
                      exact CB.not_row hC o8 (by decide) (by rw [e.1]; rfl)
                    · obtain ⟨rfl, -⟩ := e
                      have h1 := (Ythfafmafhodlkaa.fl_get TF2 j hjlt).1
                      rw [show TF2.getD j Fc.zero = f by simp [List.getD, hf.out], hnd] at h1
                      rw [Nat.zero_add]
                      exact (o8.cellAt _ (by omega)).trans h1
                have e8o := e8'.out
                subst e8o
                have hcb : cj nd ≤ 12 := by
                  rw [hcjH.out nd hnd8]
                  have := hcb4.out nd hnd8
                  have := cnF_le (TF2.take j) nd
                  rw [List.length_take] at this
                  omega
                have nn0 : (0 : Int) ≤ (nd : Int) := by omega
                have nn1 : (nd : Int) < 8 := by omega
                have hC' := hC.set nd (cj nd + 1)
                have gs := grown_set wr.drew bc nd (.int .i64 ((cj nd + 1 : Nat) : Int))
                have o8' := (show wr.drew.ownsRow _ _ _ _ _ _ from o8).kept gs (.inr (CB.not_row hC o8 (by decide)))
                have o9' := (show wr.drew.ownsRow _ _ _ _ _ _ from o9).kept gs (.inr (CB.not_row hC o9 (by decide)))
                have oL' := (show wr.drew.ownsRow _ _ _ _ _ _ from oL).kept gs (.inr (CB.not_row hC oL (by decide)))
                have hb' := (QB1 hb).setCell (p := ⟨bc, nd, none⟩) hbcw (.int .i64 ((cj nd + 1 : Nat) : Int))
                have frz := (CB.frz hC nd hnd8)
                have frz' : wr.drew.frozen? ⟨bc, nd, none⟩ = false := frz
                have hnew : Hid (∀ k, k < 8 → (if k = nd then cj nd + 1 else cj k) = c k + cnF (TF2.take (j + 1)) k) := fun k hk => by
                  rw [List.take_add_one, hf.out, cnF_snoc]
                  have h1 := hcjH.out k hk
                  by_cases e : k = nd
                  · subst e
                    rw [if_pos rfl, if_pos hnd, h1]
                    omega
                  · rw [if_neg e, if_neg (fun e' => e (by omega)), h1]
                    omega
                clear frz hnd
                go_upto_region 19 with fail
                refine wp_region_held_drew (S := fun w' => w'.cell? ⟨bf, of + j * 4, none⟩ = some (.int .i64 (nd : Int))) (by kernel_rfl) ?_ (fun hHeld => ?_)
                · (try dsimp only); exact keep_drew t0
                replace t0 := keep_drew t0
                replace hC : CB wr.drew bc cj := hC
                have cc := hC.at nd hnd8
                refine wpAnyH_take (i := 0) (oi := { dst := some 81, op := Go.Op.move (Go.Operand.tmp 9), type := 32, pos := "laws.go:461", after := #[], guard := none }) (v := ?_) rfl (by kernel_rfl) (by kernel_rfl) (by kernel_rfl) (fun _ _ _ h => h) (Or.inl ⟨by rfl, ?_⟩) (by assumption) ?_
                rotate_left 1
                · (intro w hSw; (try dsimp only at hSw); go_simp; try with_reducible rfl)
                (try simp only [Act.put, List.setIfInBounds_toArray, List.set_cons_zero, List.set_cons_succ])
                refine wpAnyH_take (i := 1) (oi := { dst := some 82, op := Go.Op.move (Go.Operand.tmp 12), type := 26, pos := "laws.go:461", after := #[], guard := none }) (v := ?_) rfl (by kernel_rfl) (by kernel_rfl) (by kernel_rfl) (fun _ _ _ h => h) (Or.inl ⟨by rfl, ?_⟩) (by assumption) ?_
                rotate_left 1
                · (intro w hSw; (try dsimp only at hSw); go_simp; try with_reducible rfl)
                (try simp only [Act.put, List.setIfInBounds_toArray, List.set_cons_zero, List.set_cons_succ])
                refine wpAnyH_take (i := 2) (oi := { dst := some 83, op := Go.Op.move (Go.Operand.tmp 14), type := 3, pos := "laws.go:461", after := #[], guard := none }) (v := ?_) rfl (by kernel_rfl) (by kernel_rfl) (by kernel_rfl) (fun _ _ _ h => h) (Or.inl ⟨by rfl, ?_⟩) (by assumption) ?_
                rotate_left 1
                · (intro w hSw; (try dsimp only at hSw); go_simp; try with_reducible rfl)
                (try simp only [Act.put, List.setIfInBounds_toArray, List.set_cons_zero, List.set_cons_succ])
                refine wpAnyH_take (i := 3) (oi := { dst := some 84, op := Go.Op.indexAddr 26 (Go.Operand.tmp 82) (Go.Operand.tmp 83), type := 0, pos := "laws.go:461", after := #[{ on := 1, ground := Go.Ground.data }, { on := 2, ground := Go.Ground.data }], guard := none }) (v := ?_) rfl (by kernel_rfl) (by kernel_rfl) (by kernel_rfl) (fun _ _ _ h => h) (Or.inl ⟨by rfl, ?_⟩) (by assumption) ?_
                rotate_left 1
                · (intro w hSw; (try dsimp only at hSw); go_simp; try with_reducible rfl)
                (try simp only [Act.put, List.setIfInBounds_toArray, List.set_cons_zero, List.set_cons_succ])
                refine wpAnyH_take (i := 4) (oi := { dst := some 85, op := Go.Op.fieldAddr 34 (Go.Operand.tmp 84) 0, type := 0, pos := "laws.go:461", after := #[{ on := 3, ground := Go.Ground.data }], guard := none }) (v := ?_) rfl (by kernel_rfl) (by kernel_rfl) (by kernel_rfl) (fun _ _ _ h => h) (Or.inl ⟨by rfl, ?_⟩) (by assumption) ?_
                rotate_left 1
                · (intro w hSw; (try dsimp only at hSw); go_simp; try with_reducible rfl)
                (try simp only [Act.put, List.setIfInBounds_toArray, List.set_cons_zero, List.set_cons_succ])
                refine wpAnyH_take (i := 5) (oi := { dst := some 86, op := Go.Op.load 3 (Go.Operand.tmp 85), type := 3, pos := "laws.go:461", after := #[{ on := 4, ground := Go.Ground.data }], guard := none }) (v := ?_) rfl (by kernel_rfl) (by kernel_rfl) (by kernel_rfl) (fun _ _ _ h => h) (Or.inl ⟨by rfl, ?_⟩) (by assumption) ?_
                rotate_left 1
                · (intro w hSw; (try dsimp only at hSw); go_simp; try with_reducible rfl)
                (try simp only [Act.put, List.setIfInBounds_toArray, List.set_cons_zero, List.set_cons_succ])
                refine wpAnyH_take (i := 6) (oi := { dst := some 87, op := Go.Op.move (Go.Operand.tmp 9), type := 32, pos := "laws.go:461", after := #[], guard := none }) (v := ?_) rfl (by kernel_rfl) (by kernel_rfl) (by kernel_rfl) (fun _ _ _ h => h) (Or.inl ⟨by rfl, ?_⟩) (by assumption) ?_
                rotate_left 1
                · (intro w hSw; (try dsimp only at hSw); go_simp; try with_reducible rfl)
                (try simp only [Act.put, List.setIfInBounds_toArray, List.set_cons_zero, List.set_cons_succ])
                refine wpAnyH_take (i := 7) (oi := { dst := some 88, op := Go.Op.move (Go.Operand.tmp 12), type := 26, pos := "laws.go:461", after := #[], guard := none }) (v := ?_) rfl (by kernel_rfl) (by kernel_rfl) (by kernel_rfl) (fun _ _ _ h => h) (Or.inl ⟨by rfl, ?_⟩) (by assumption) ?_
                rotate_left 1
                · (intro w hSw; (try dsimp only at hSw); go_simp; try with_reducible rfl)
                (try simp only [Act.put, List.setIfInBounds_toArray, List.set_cons_zero, List.set_cons_succ])
                refine wpAnyH_take (i := 8) (oi := { dst := some 89, op := Go.Op.move (Go.Operand.tmp 14), type := 3, pos := "laws.go:461", after := #[], guard := none }) (v := ?_) rfl (by kernel_rfl) (by kernel_rfl) (by kernel_rfl) (fun _ _ _ h => h) (Or.inl ⟨by rfl, ?_⟩) (by assumption) ?_
                rotate_left 1
                · (intro w hSw; (try dsimp only at hSw); go_simp; try with_reducible rfl)
                (try simp only [Act.put, List.setIfInBounds_toArray, List.set_cons_zero, List.set_cons_succ])
                refine wpAnyH_take (i := 9) (oi := { dst := some 90, op := Go.Op.indexAddr 26 (Go.Operand.tmp 88) (Go.Operand.tmp 89), type := 0, pos := "laws.go:461", after := #[{ on := 7, ground := Go.Ground.data }, { on := 8, ground := Go.Ground.data }], guard := none }) (v := ?_) rfl (by kernel_rfl) (by kernel_rfl) (by kernel_rfl) (fun _ _ _ h => h) (Or.inl ⟨by rfl, ?_⟩) (by assumption) ?_
                rotate_left 1
                · (intro w hSw; (try dsimp only at hSw); go_simp; try with_reducible rfl)
                (try simp only [Act.put, List.setIfInBounds_toArray, List.set_cons_zero, List.set_cons_succ])
                refine wpAnyH_take (i := 10) (oi := { dst := some 91, op := Go.Op.fieldAddr 34 (Go.Operand.tmp 90) 0, type := 0, pos := "laws.go:461", after := #[{ on := 9, ground := Go.Ground.data }], guard := none }) (v := ?_) rfl (by kernel_rfl) (by kernel_rfl) (by kernel_rfl) (fun _ _ _ h => h) (Or.inl ⟨by rfl, ?_⟩) (by assumption) ?_
                rotate_left 1
                · (intro w hSw; (try dsimp only at hSw); go_simp; try with_reducible rfl)
                (try simp only [Act.put, List.setIfInBounds_toArray, List.set_cons_zero, List.set_cons_succ])
                refine wpAnyH_take (i := 11) (oi := { dst := some 92, op := Go.Op.load 3 (Go.Operand.tmp 91), type := 3, pos := "laws.go:461", after := #[{ on := 10, ground := Go.Ground.data }], guard := none }) (v := ?_) rfl (by kernel_rfl) (by kernel_rfl) (by kernel_rfl) (fun _ _ _ h => h) (Or.inl ⟨by rfl, ?_⟩) (by assumption) ?_
                rotate_left 1
                · (intro w hSw; (try dsimp only at hSw); go_simp; try with_reducible rfl)
                (try simp only [Act.put, List.setIfInBounds_toArray, List.set_cons_zero, List.set_cons_succ])
                refine wpAnyH_take (i := 12) (oi := { dst := some 93, op := Go.Op.indexAddr 32 (Go.Operand.tmp 87) (Go.Operand.tmp 92), type := 0, pos := "laws.go:461", after := #[{ on := 6, ground := Go.Ground.data }, { on := 11, ground := Go.Ground.data }], guard := none }) (v := ?_) rfl (by kernel_rfl) (by kernel_rfl) (by kernel_rfl) (fun _ _ _ h => h) (Or.inl ⟨by rfl, ?_⟩) (by assumption) ?_
                rotate_left 1
                · (intro w hSw; (try dsimp only at hSw); go_simp; try with_reducible rfl)
                (try simp only [Act.put, List.setIfInBounds_toArray, List.set_cons_zero, List.set_cons_succ])
                refine wpAnyH_ready (rs := [13]) (by kernel_rfl) (by simp) ?_
                refine AllReadyH.cons (o := { dst := some 94, op := Go.Op.load 3 (Go.Operand.tmp 93), type := 3, pos := "laws.go:461", after := #[{ on := 12, ground := Go.Ground.data }], guard := none }) rfl (fun K hK => ?_) AllReadyH.nil
                go_simp
                refine hK.out _ _ ?_ (fun hHeld => ?_)
                · exact t0
                clear hK K
                (try simp only [Act.put, List.setIfInBounds_toArray, List.set_cons_zero, List.set_cons_succ])
                refine wpAnyH_take (i := 14) (oi := { dst := some 95, op := Go.Op.binOp Go.BinOp.add 3 (Go.Operand.tmp 94) (Go.Operand.const (Go.Value.int Go.IntKind.i64 1)) 3, type := 3, pos := "laws.go:461", after := #[{ on := 13, ground := Go.Ground.data }], guard := none }) (v := ?_) rfl (by kernel_rfl) (by kernel_rfl) (by kernel_rfl) (fun _ _ _ h => h) (Or.inl ⟨by rfl, ?_⟩) (by assumption) ?_
                rotate_left 1
                · (intro w hSw; (try dsimp only at hSw); go_simp; try with_reducible rfl)
                (try simp only [Act.put, List.setIfInBounds_toArray, List.set_cons_zero, List.set_cons_succ])
                refine wpAnyH_take (i := 15) (oi := { dst := some 96, op := Go.Op.indexAddr 32 (Go.Operand.tmp 81) (Go.Operand.tmp 86), type := 0, pos := "laws.go:461", after := #[{ on := 0, ground := Go.Ground.data }, { on := 5, ground := Go.Ground.data }, { on := 0, ground := Go.Ground.phase }, { on := 1, ground := Go.Ground.phase }, { on := 2, ground := Go.Ground.phase }, { on := 3, ground := Go.Ground.phase }, { on := 4, ground := Go.Ground.phase }, { on := 5, ground := Go.Ground.phase }, { on := 6, ground := Go.Ground.phase }, { on := 7, ground := Go.Ground.phase }, { on := 8, ground := Go.Ground.phase }, { on := 9, ground := Go.Ground.phase }, { on := 10, ground := Go.Ground.phase }, { on := 11, ground := Go.Ground.phase }, { on := 12, ground := Go.Ground.phase }, { on := 13, ground := Go.Ground.phase }, { on := 14, ground := Go.Ground.phase }], guard := none }) (v := ?_) rfl (by kernel_rfl) (by kernel_rfl) (by kernel_rfl) (fun _ _ _ h => h) (Or.inl ⟨by rfl, ?_⟩) (by assumption) ?_
                rotate_left 1
                · (intro w hSw; (try dsimp only at hSw); go_simp; try with_reducible rfl)
                (try simp only [Act.put, List.setIfInBounds_toArray, List.set_cons_zero, List.set_cons_succ])
                refine wpAnyH_ready (rs := [16]) (by kernel_rfl) (by simp) ?_
                refine AllReadyH.cons (o := { dst := none, op := Go.Op.store 3 (Go.Operand.tmp 96) (Go.Operand.tmp 95), type := 0, pos := "laws.go:461", after := #[{ on := 15, ground := Go.Ground.data }, { on := 14, ground := Go.Ground.data }, { on := 0, ground := Go.Ground.phase }, { on := 1, ground := Go.Ground.phase }, { on := 2, ground := Go.Ground.phase }, { on := 3, ground := Go.Ground.phase }, { on := 4, ground := Go.Ground.phase }, { on := 5, ground := Go.Ground.phase }, { on := 6, ground := Go.Ground.phase }, { on := 7, ground := Go.Ground.phase }, { on := 8, ground := Go.Ground.phase }, { on := 9, ground := Go.Ground.phase }, { on := 10, ground := Go.Ground.phase }, { on := 11, ground := Go.Ground.phase }, { on := 12, ground := Go.Ground.phase }, { on := 13, ground := Go.Ground.phase }, { on := 14, ground := Go.Ground.phase }], guard := none }) rfl (fun K hK => ?_) AllReadyH.nil
                go_simp
                refine hK.out _ _ ?_ (fun hHeld => ?_)
                · exact keep_setD _ hbfc t0
                clear hK K
                (try simp only [Act.put, List.setIfInBounds_toArray, List.set_cons_zero, List.set_cons_succ])
                refine wpAnyH_done (by kernel_rfl) ?_ _
                generalize (wr.drew.setCell ⟨bc, nd, none⟩ (.int .i64 ((cj nd : Int) + 1))) = wn at *
                go_wp2
                go_roundw
                case rel => exact ⟨j + 1, _, by omega, by go_num, hnew.out, hC', o8', o9', oL', hb'⟩
                case measure => simp [intOf]; omega
              · obtain rfl : j = TF2.length := by omega
                rw [List.take_length] at hcjH
                go_wp2
                go_roundw
                case rel =>
                  refine ⟨n + 1, _, _, TL2, cj, by omega, by go_num, rfl, hck2.out, fun k hk => ?_, ?_, hC, o9, oL, hb⟩
                  · have h1 := hstep.out (k : Int)
                    have h2 := hinv.out k hk
                    have h3 := hcjH.out k hk
                    rw [cnF_one hpw.out] at h3
                    by_cases he : ∃ f ∈ TF2, f.n = (k : Int)
                    · simp only [he, if_true] at h1 h3
                      omega
                    · simp only [he, if_false] at h1 h3
                      omega
                  · rcases hdec.out with h4 | h4
                    · exact .inl (by omega)
                    · exact .inr h4
                case measure => simp [intOf]; omega
          · obtain rfl : n = 40 := by omega
            have hLc : Lc = [] := by
              rcases hdec1.out with h | h
              · omega
              · exact h
            obtain ⟨wz, hwz⟩ : ∃ wz, wz = wr := ⟨_, rfl⟩
            rw [← hwz] at hC oL hb ⊢
            have Bz := hb
            subst hLc
            clear hwz hb oc
            go_wp2_with fail
            go_loopw [15] (fun i wr => ∃ m : Nat, m ≤ L.length ∧ i = .int .i64 m ∧ Below wz.heap.size wz wr) (fun i _ => L.length - (intOf i).toNat)
            case atStart => exact ⟨0, Nat.zero_le _, rfl, Below.refl _ _⟩
            case round =>
              obtain ⟨m, hm, rfl, hb⟩ := hrel
              by_cases hmlt : m < L.length
              · have m0 : (0 : Int) ≤ (m : Int) := by omega
                have m1 : (m : Int) < (L.length : Int) := by omega
                obtain ⟨x, hx⟩ : ∃ x, Hid (L[m]? = some x) := ⟨_, List.getElem?_eq_getElem hmlt⟩
                have hxL := List.mem_of_getElem? hx.out
                obtain ⟨hx1, hx2, hx3, hx4⟩ := (cok_okL hck.out).1.1 x hxL
                obtain ⟨g1, p1, e1, -⟩ : ∃ g1 p1, Value.slice a1 L.length c1 = .slice (some ⟨g1, 0, none⟩) L.length p1 ∧ True := by
                  rcases own_sliceF oL with ⟨_, h0⟩ | ⟨g1, p1, e, _⟩
                  · omega
                  · exact ⟨g1, p1, e, trivial⟩
                simp only [Value.slice.injEq, true_and] at e1
                obtain ⟨rfl, rfl⟩ := e1
                obtain ⟨d0, d1, d2, d3, d4⟩ := row_at (own_below oL hb) hx.out
                obtain ⟨nd, hnd⟩ : ∃ nd : Nat, x.n = nd := ⟨x.n.toNat, by omega⟩
                have hnd8 : nd < 8 := by omega
                have cc := (hC.below hb).at nd hnd8
                have hval : (c nd : Int) = x.l := by
                  have h1 := hinv.out nd hnd8
                  rw [show lft ([] : List It) (nd : Int) = 0 from rfl] at h1
                  have h2 : lft L (nd : Int) = x.l := by
                    unfold lft
                    rw [← hnd, tget_in hck.out hxL]
                  omega
                rw [hval] at cc
                rw [hnd] at d0
                have nn0 : (0 : Int) ≤ (nd : Int) := by omega
                have nn1 : (nd : Int) < 8 := by omega
                clear hval hnd d1 d2 d3
                go_upto_region 24 with fail
                go_quiet (fail)
                have C1 : Below wz.heap.size wz (wr.drewN nq) := QB hb
                generalize wr.drewN nq = wq at *
                go_wp2
                go_roundw
                case rel => exact ⟨m + 1, by omega, by go_num, C1⟩
                case measure => simp [intOf]; omega
              · go_wp2
                go_ret
                exact ⟨rfl, btrans Bz hb⟩
  · have j0 : (1048576 : Int) < (len : Int) := by omega
    go_enter Try.func3, Try.ntmps3
    go_wp2
    go_ret
    exact ⟨rfl, Below.refl _ _⟩
end Go.Proofs.Ythfafmafhodlkaa.I
