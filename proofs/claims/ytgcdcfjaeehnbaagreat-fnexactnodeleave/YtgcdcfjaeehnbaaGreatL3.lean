/- A fact more, the model's way: one of a node that was not known. -/
import Derived.Test.YtgcdcfjaeehnbaaGreatOf
import Derived.Laws.AppendOwn
namespace Go.Proofs.YtgcdcfjaeehnbaaGreat
open Go.ChangeShapes Go.WideShapes Go.ChangeAt Go.RowKit
set_option maxRecDepth 20000
set_option linter.unusedSimpArgs false
set_option maxHeartbeats 8000000
attribute [local go_sem ↓] Go.wp_at_zero Go.wp_at_succ
theorem facts_cell {w : World} {b off n : Nat} {T : List Fc} (h : FactsIn w b off n (fun k => T.getD k Fc.zero)) (hl : T.length = n) : ∀ j u, (fl T)[j]? = some u → w.cell? ((⟨b, off, none⟩ : Addr).add j) = some u := by
  intro j u hj
  have e : (⟨b, off, none⟩ : Addr).add j = ⟨b, off + j, none⟩ := by unfold Addr.add; split <;> simp_all
  rw [e]
  have hlt : j < n * 4 := by
    have := (List.getElem?_eq_some_iff.1 hj).1
    rw [fl_len] at this
    omega
  obtain ⟨h0, h1, h2, h3⟩ := h (j / 4) (by omega)
  obtain ⟨e0, e1, e2, e3⟩ := fl_get T (j / 4) (by omega)
  have : j % 4 = 0 ∨ j % 4 = 1 ∨ j % 4 = 2 ∨ j % 4 = 3 := by omega
  rcases this with hr | hr | hr | hr
  · rw [show j / 4 * 4 = j by omega] at e0 h0
    rw [e0] at hj
    rw [h0, ← hj]
  · rw [show off + j / 4 * 4 + 1 = off + j by omega] at h1
    rw [show j / 4 * 4 + 1 = j by omega] at e1
    rw [e1] at hj
    rw [h1, ← hj]
  · rw [show off + j / 4 * 4 + 2 = off + j by omega] at h2
    rw [show j / 4 * 4 + 2 = j by omega] at e2
    rw [e2] at hj
    rw [h2, ← hj]
  · rw [show off + j / 4 * 4 + 3 = off + j by omega] at h3
    rw [show j / 4 * 4 + 3 = j by omega] at e3
    rw [e3] at hj
    rw [h3, ← hj]
theorem fl_one {T : List Fc} : ∀ u ∈ fl T, u.oneCell' = true := by
  intro u hu
  obtain ⟨f, _, hf⟩ := List.mem_flatMap.1 hu
  simp at hf
  rcases hf with rfl | rfl | rfl | rfl <;> rfl
theorem own_sliceF {w : World} {base n : Nat} {v : Value} {xs : List Value} (h : w.ownsRow base 96 4 v n xs) : (v = .slice none 0 0 ∧ n = 0) ∨ ∃ g cap, v = .slice (some ⟨g, 0, none⟩) n cap ∧ base ≤ g ∧ g < w.heap.size ∧ n ≤ cap := by
  rcases h.2 with ⟨rfl, hn⟩ | ⟨g, cap, cur, rfl, hg, hh, hc, _⟩
  · exact .inl ⟨rfl, hn⟩
  · exact .inr ⟨g, cap, rfl, hg, lt_of_block hh, hc⟩
theorem step_appF {w : World} {ops : Array Oper} {o : Oper} {a : Act} {K : Act → World → Prop} {Q : Exit → Act → World → Prop} {E : Prop} (hgd : o.guard = none) (s x : Operand)
    (ho : o.op = .call { callee := .builtin .append, args := #[s, x], argTypes := #[34, 34] })
    (base : Nat) (v : Value) (n : Nat) (T : List Fc) (hs : a.eval s = v) (hv : v ≠ .slice none 0 0) (hown : w.ownsRow base 96 4 v n (fl T))
    (ao : Option Addr) (g o' : Nat) (hao : ao = some ⟨g, o', none⟩) (m c : Nat) (T' : List Fc) (hx : a.eval x = .slice ao m c) (hl : T'.length = m)
    (hnews : FactsIn w g o' m (fun k => T'.getD k Fc.zero)) (nm : Nat) (hnm : n + m = nm) (hn : nm ≤ 2000000) (hbase : base ≤ w.heap.size)
    (h : ∀ g' cap' w', w'.ownsRow base 96 4 (.slice (some ⟨g', 0, none⟩) nm cap') nm (fl (T ++ T')) → w.grownBy w' v.ownBlock → nm ≤ cap' → K (a.put o.dst (.slice (some ⟨g', 0, none⟩) nm cap')) w') :
    if Region.wanted o (yielded ops a.tmps) = true then Oper.wp Tryz.prog o a w K Q else E := by
  have hw : Region.wanted o (yielded ops a.tmps) = true := by simp [Region.wanted, hgd]
  rw [if_pos hw]
  subst hao hnm
  obtain ⟨ti, hi, hz0, hz1, hz2⟩ := info_parts info24
  refine wp_append_own w s x 34 ho base 96 ti (fval Fc.zero) 4 32 Tryz.underlying34 hi hz0 hz1 hz2 rfl (by decide) v n (fl T) hs hown ⟨g, o', none⟩ m c (fl T') hx (by rw [fl_len, hl]) (facts_cell hnews hl) fl_one (by unfold maxLen; omega) (by omega) hbase (fun v' w' h1 h2 h3 => ?_)
  rw [← fl_append] at h1
  rcases own_sliceF h1 with ⟨e, _⟩ | ⟨g', cap', rfl, _, _, hc⟩
  · exact absurd (h3.1 e).1 hv
  · exact h g' cap' w' h1 h2 hc
theorem QB1 {a w : World} {B : Nat} (h : Below B a w) : Below B a w.drew := ⟨h.os, h.tape, h.output, h.size, h.block⟩
theorem facts_take {w : World} {b off len k : Nat} {F : Nat → Fc} (h : FactsIn w b off len F) (hk : k ≤ len) : FactsIn w b off k (fun j => ((seqF F len).take k).getD j Fc.zero) := fun j hj => by
  have e : ((seqF F len).take k).getD j Fc.zero = F j := by simp [List.getD, hj, seqF, show j < len by omega]
  simp only [e]
  exact h j (by omega)
theorem facts_drop {w : World} {b off len k : Nat} {F : Nat → Fc} (h : FactsIn w b off len F) (hk : k ≤ len) : FactsIn w b (off + k * 4) (len - k) (fun j => ((seqF F len).drop k).getD j Fc.zero) := fun j hj => by
  have e : ((seqF F len).drop k).getD j Fc.zero = F (k + j) := by simp [List.getD, List.getElem?_drop, seqF, show k + j < len by omega]
  simp only [e]
  have := h (k + j) (by omega)
  rw [show off + k * 4 + j * 4 = off + (k + j) * 4 by omega]
  exact this
theorem FactsIn.grown {w w' : World} {r : Option Nat} {b off len : Nat} {F : Nat → Fc} (h : FactsIn w b off len F) (hg : w.grownBy w' r) (hb : some b ≠ r) : FactsIn w' b off len F := fun k hk => by
  obtain ⟨h0, h1, h2, h3⟩ := h k hk
  exact ⟨hg.cell h0 hb, hg.cell h1 hb, hg.cell h2 hb, hg.cell h3 hb⟩
theorem tput_at {T : List Fc} {f : Fc} : ∀ (k : Nat), k ≤ T.length → (∀ j, j < k → (T.getD j Fc.zero).n < f.n) → (k < T.length → f.n < (T.getD k Fc.zero).n) → tput T f = T.take k ++ [f] ++ T.drop k := by
  induction T with
  | nil => intro k hk _ _; obtain rfl : k = 0 := by simpa using hk
           rfl
  | cons g r ih =>
    intro k hk h1 h2
    match k, hk, h1, h2 with
    | 0, _, _, h2 =>
      have := h2 (by simp)
      simp at this
      unfold tput
      rw [if_neg (by omega), if_neg (by omega)]
      rfl
    | k + 1, hk, h1, h2 =>
      have := h1 0 (by omega)
      simp at this
      unfold tput
      rw [if_pos this, ih k (by simpa using hk) (fun j hj => by have := h1 (j + 1) (by omega); simpa using this) (fun h => by have := h2 (by simpa using h); simpa using this)]
      rfl
theorem new_one (V : World) (f : Fc) : FactsIn (V.alloc (.cells #[.int .i64 f.n, .int .i64 f.i, .int .i64 f.s, .bool f.g] 96)) V.heap.size 0 1 (fun j => [f].getD j Fc.zero) := fun j hj => by
  obtain rfl : j = 0 := by omega
  exact ⟨by simp [go_sem], by simp [go_sem], by simp [go_sem], by simp [go_sem]⟩
theorem facts_lt {w : World} {b off n : Nat} {F : Nat → Fc} (h : FactsIn w b off (n + 1) F) : b < w.heap.size := World.block_lt_of_cell? w _ (h 0 (by omega)).1
theorem FactsIn.alloc {w : World} {b off len : Nat} {F : Nat → Fc} (h : FactsIn w b off len F) (o : Obj) : FactsIn (w.alloc o) b off len F := fun k hk => by
  obtain ⟨h0, h1, h2, h3⟩ := h k hk
  exact ⟨keep_alloc o h0, keep_alloc o h1, keep_alloc o h2, keep_alloc o h3⟩
theorem seqF_getD (F : Nat → Fc) {len k : Nat} (h : k < len) : (seqF F len).getD k Fc.zero = F k := by simp [List.getD, seqF, h]
theorem l3_new (b off len cap : Nat) (F : Nat → Fc) (f : Fc) (w : World) (hf : FactsIn w b off len F) (hbl : b < w.heap.size) (hc : len ≤ cap) (hl : len ≤ 1048576) (hno : ∀ k, k < len → (F k).n ≠ f.n) :
    Calls Tryz.prog 191 #[.slice (some ⟨b, off, none⟩) len cap, fval f] w fun e w' => ∃ v' c', e = .returned (.tuple #[.slice v' (len + 1) c', .bool true]) ∧ w'.ownsRow w.heap.size 96 4 (.slice v' (len + 1) c') (len + 1) (fl (tput (seqF F len) f)) ∧ Below w.heap.size w w' := by
  go_enter Tryz.func191, Tryz.ntmps191
  go_wp2_with fail
  have p0 : (w.alloc (.cells #[.int .i64 f.n, .int .i64 f.i, .int .i64 f.s, .bool f.g] 96)).heap[w.heap.size]? = some (.cells #[.int .i64 f.n, .int .i64 f.i, .int .i64 f.s, .bool f.g] 96 (0, 0)) := heap_alloc_new _ _
  have B0 : Below w.heap.size w (w.alloc (.cells #[.int .i64 f.n, .int .i64 f.i, .int .i64 f.s, .bool f.g] 96)) := balloc _ (Below.refl _ _)
  generalize (w.alloc (.cells #[.int .i64 f.n, .int .i64 f.i, .int .i64 f.s, .bool f.g] 96)) = W0 at *
  refine (findO_any _ len cap F f.n _ (fun _ => ⟨b, off, rfl, by have := B0.size; omega, hf.below B0 hbl⟩) hl).mono ?_
  rintro r w0 ⟨r0, rfl, hF, hw⟩
  obtain rfl := hw.symm
  obtain rfl : r0 = -1 := by
    rcases hF with ⟨h, _⟩ | ⟨j, hj, _, e, _⟩
    · exact h
    · exact absurd e (hno j hj)
  clear hF hw
  go_wp2_with fail
  go_loopw [8] (fun i wr => ∃ k : Nat, k ≤ len ∧ i = .int .i64 k ∧ Below w.heap.size w wr ∧ wr.heap[w.heap.size]? = some (.cells #[.int .i64 f.n, .int .i64 f.i, .int .i64 f.s, .bool f.g] 96 (0, 0)) ∧ ∀ j, j < k → (F j).n < f.n) (fun i _ => len - (intOf i).toNat)
  case atStart => exact ⟨0, Nat.zero_le _, rfl, B0, p0, fun j hj => by omega⟩
  case round =>
    obtain ⟨k, hk, rfl, hb, hp, hall⟩ := hrel
    clear p0 B0
    have e0 := cell_block (o := 0) hp rfl
    have e1 := cell_block (o := 1) hp rfl
    have e2 := cell_block (o := 2) hp rfl
    have e3 := cell_block (o := 3) hp rfl
    by_cases hlt : k < len
    · obtain ⟨c0, _, _, _⟩ := (hf.below hb hbl) k hlt
      have i0 : (0 : Int) ≤ (k : Int) := by omega
      have i1 : (k : Int) < (len : Int) := by omega
      go_wp2_with fail
      go_quiet (fail)
      by_cases hle : (F k).n < f.n
      · go_wp2
        go_roundw
        case rel => exact ⟨k + 1, by omega, by go_num, QB hb, hp, fun j hj => by
          by_cases e : j = k
          · subst e; exact hle
          · exact hall j (by omega)⟩
        case measure => simp [intOf]; omega
      · have hput : Hid (tput (seqF F len) f = (seqF F len).take k ++ [f] ++ (seqF F len).drop k) := tput_at k (by rw [seqF_len]; omega) (fun j hj => by rw [seqF_getD F (by omega)]; exact hall j hj) (fun _ => by rw [seqF_getD F hlt]; have := hno k hlt; omega)
        clear c0 hp
        go_wp2_with fail
        have hb3 : Below w.heap.size w (wr.drewN nq) := ⟨hb.os, hb.tape, hb.output, hb.size, hb.block⟩
        have hfW : FactsIn (wr.drewN nq) b off len F := hf.below hb3 hbl
        have d0 : (wr.drewN nq).cell? ⟨w.heap.size, 0, none⟩ = some (.int .i64 f.n) := e0
        have d1 : (wr.drewN nq).cell? ⟨w.heap.size, 1, none⟩ = some (.int .i64 f.i) := e1
        have d2 : (wr.drewN nq).cell? ⟨w.heap.size, 2, none⟩ = some (.int .i64 f.s) := e2
        have d3 : (wr.drewN nq).cell? ⟨w.heap.size, 3, none⟩ = some (.bool f.g) := e3
        have hbW : b < (wr.drewN nq).heap.size := Nat.lt_of_lt_of_le hbl hb3.size
        clear e0 e1 e2 e3 hb hall
        generalize (wr.drewN nq) = W at *
        have k7 : (k : Int) ≤ (len : Int) := by omega
        have k9 : k ≤ cap := by omega
        have k8 : (0 : Int) ≤ (k : Int) := by omega
        refine wp_region_held_drew (S := fun w' => w'.cell? ⟨w.heap.size, 0, none⟩ = some (.int .i64 f.n) ∧ w'.cell? ⟨w.heap.size, 1, none⟩ = some (.int .i64 f.i) ∧ w'.cell? ⟨w.heap.size, 2, none⟩ = some (.int .i64 f.s) ∧ w'.cell? ⟨w.heap.size, 3, none⟩ = some (.bool f.g)) (by kernel_rfl) ?_ (fun hHeld => ?_)
        · exact ⟨keep_drew d0, keep_drew d1, keep_drew d2, keep_drew d3⟩
        refine tlT (i := 1) rfl ?_; refine tlT (i := 2) rfl ?_; refine tlT (i := 3) rfl ?_; refine tlT (i := 5) rfl ?_; refine tlT (i := 8) rfl ?_; refine tlT (i := 9) rfl ?_; refine tlT (i := 10) rfl ?_
        refine wpAnyH_ready (rs := [0, 6]) (by kernel_rfl) (by simp) ?_
        refine AllReadyH.cons (o := _) rfl (fun K hK => ?_) (AllReadyH.cons (o := _) rfl (fun K hK => ?_) AllReadyH.nil)
        · go_simp
          have oR1 : ((W.alloc (.cells #[] 96)).drew).ownsRow W.heap.size 96 4 (.slice (some ⟨W.heap.size, 0, none⟩) 0 0) 0 (fl []) := World.ownsRow_lit W #[] 0 (Nat.le_refl _) (by unfold maxLen; omega) rfl
          have BV1 : Below W.heap.size W ((W.alloc (.cells #[] 96)).drew) := QB1 (balloc (.cells #[] 96) (Below.refl _ W))
          refine hK.out _ _ ?_ (fun hHeld => ?_)
          · (try dsimp only); exact ⟨keep_below BV1 d0, keep_below BV1 d1, keep_below BV1 d2, keep_below BV1 d3⟩
          clear hK K
          (try simp only [putP])
          generalize ((W.alloc (.cells #[] 96)).drew) = V1 at *
          refine wpAnyH_ready (rs := [4, 6]) (by kernel_rfl) (by simp) ?_
          refine AllReadyH.cons (o := _) rfl (fun K hK => ?_) (AllReadyH.cons (o := _) rfl (fun K hK => ?_) AllReadyH.nil)
          · refine step_appF (by rfl) _ _ (by rfl) W.heap.size (.slice (some ⟨W.heap.size, 0, none⟩) 0 0) 0 [] (by rfl) (by simp) oR1 (some ⟨b, off, none⟩) b off rfl k cap ((seqF F len).take k) (by rfl) (by simp [seqF_len]; omega) ((facts_take hfW (by omega)).below BV1 hbW) k (Nat.zero_add k) (by omega) BV1.size ?_
            intro g2 c2 V2 oR2 gr2 hc2
            have BV2 := own_grow BV1 BV1.size oR1 gr2
            refine hK.out _ _ ?_ (fun hHeld => ?_)
            · (try dsimp only); exact ⟨keep_below BV2 d0, keep_below BV2 d1, keep_below BV2 d2, keep_below BV2 d3⟩
            clear hK K
            (try simp only [putP])
            refine wpAnyH_ready (rs := [6]) (by kernel_rfl) (by simp) ?_
            refine AllReadyH.cons (o := _) rfl (fun K hK => ?_) AllReadyH.nil
            go_simp
            have cX3 : FactsIn (V2.alloc (.cells #[.int .i64 f.n, .int .i64 f.i, .int .i64 f.s, .bool f.g] 96)) V2.heap.size 0 1 (fun j => [f].getD j Fc.zero) := new_one V2 f
            have BV3 : Below W.heap.size W (V2.alloc (.cells #[.int .i64 f.n, .int .i64 f.i, .int .i64 f.s, .bool f.g] 96)) := (balloc (.cells #[.int .i64 f.n, .int .i64 f.i, .int .i64 f.s, .bool f.g] 96) BV2)
            have oR3 := oR2.alloc (.cells #[.int .i64 f.n, .int .i64 f.i, .int .i64 f.s, .bool f.g] 96)
            refine hK.out _ _ ?_ (fun hHeld => ?_)
            · (try dsimp only); exact ⟨keep_below BV3 d0, keep_below BV3 d1, keep_below BV3 d2, keep_below BV3 d3⟩
            clear hK K
            (try simp only [putP])
            generalize (V2.alloc (.cells #[.int .i64 f.n, .int .i64 f.i, .int .i64 f.s, .bool f.g] 96)) = V3 at *
            refine wpAnyH_ready (rs := [7]) (by kernel_rfl) (by simp) ?_
            refine AllReadyH.cons (o := _) rfl (fun K hK => ?_) AllReadyH.nil
            refine step_appF (by rfl) _ _ (by rfl) W.heap.size (.slice (some ⟨g2, 0, none⟩) k c2) k _ (by rfl) (by simp) oR3 (some ⟨V2.heap.size, 0, none⟩) V2.heap.size 0 rfl 1 1 [f] (by rfl) rfl cX3 (k + 1) rfl (by omega) BV3.size ?_
            intro g8 c8 V8 oR8 gr8 hc8
            have BV8 := own_grow BV3 BV3.size oR3 gr8
            refine hK.out _ _ ?_ (fun hHeld => ?_)
            · (try dsimp only); exact ⟨keep_below BV8 d0, keep_below BV8 d1, keep_below BV8 d2, keep_below BV8 d3⟩
            clear hK K
            (try simp only [putP])
            refine wpAnyH_ready (rs := [11]) (by kernel_rfl) (by simp) ?_
            refine AllReadyH.cons (o := _) rfl (fun K hK => ?_) AllReadyH.nil
            refine step_appF (by rfl) _ _ (by rfl) W.heap.size (.slice (some ⟨g8, 0, none⟩) (k + 1) c8) (k + 1) _ (by rfl) (by simp) oR8 (if cap = k then some ⟨b, off, none⟩ else some ⟨b, off + k * 4, none⟩) b (if cap = k then off else off + k * 4) (by split <;> rfl) (len - k) (cap - k) ((seqF F len).drop k) (by rfl) (by simp [seqF_len]) (by split; exact (fun j hj => by omega); exact (facts_drop hfW (by omega)).below BV8 hbW) (len + 1) (by omega) (by omega) BV8.size ?_
            intro g9 c9 V9 oR9 gr9 hc9
            have BV9 := own_grow BV8 BV8.size oR8 gr9
            refine hK.out _ _ ?_ (fun hHeld => ?_)
            · (try dsimp only); exact ⟨keep_below BV9 d0, keep_below BV9 d1, keep_below BV9 d2, keep_below BV9 d3⟩
            clear hK K
            refine tlT (i := 12) (ha := rfl) rfl ?_; refine tlT (i := 13) (ha := rfl) rfl ?_; (try simp only [putP])
            refine wpAnyH_done (by kernel_rfl) ?_ _
            have BF := btrans hb3 BV9
            rw [List.nil_append, ← hput.out] at oR9
            clear oR8 gr8 gr9 BV8 BV9 hfW
            go_wp2
            all_goals (go_ret2; exact ⟨_, c9, rfl, own_mono hb3.size oR9, BF⟩)
          · go_simp
            have cX2 : FactsIn (V1.alloc (.cells #[.int .i64 f.n, .int .i64 f.i, .int .i64 f.s, .bool f.g] 96)) V1.heap.size 0 1 (fun j => [f].getD j Fc.zero) := new_one V1 f
            have BV2 : Below W.heap.size W (V1.alloc (.cells #[.int .i64 f.n, .int .i64 f.i, .int .i64 f.s, .bool f.g] 96)) := (balloc (.cells #[.int .i64 f.n, .int .i64 f.i, .int .i64 f.s, .bool f.g] 96) BV1)
            have oR2 := oR1.alloc (.cells #[.int .i64 f.n, .int .i64 f.i, .int .i64 f.s, .bool f.g] 96)
            have nX : some V1.heap.size ≠ some W.heap.size := by have := oR1.lt W.heap.size rfl; simp; omega
            refine hK.out _ _ ?_ (fun hHeld => ?_)
            · (try dsimp only); exact ⟨keep_below BV2 d0, keep_below BV2 d1, keep_below BV2 d2, keep_below BV2 d3⟩
            clear hK K
            (try simp only [putP])
            generalize (V1.alloc (.cells #[.int .i64 f.n, .int .i64 f.i, .int .i64 f.s, .bool f.g] 96)) = V2 at *
            refine wpAnyH_ready (rs := [4]) (by kernel_rfl) (by simp) ?_
            refine AllReadyH.cons (o := _) rfl (fun K hK => ?_) AllReadyH.nil
            refine step_appF (by rfl) _ _ (by rfl) W.heap.size (.slice (some ⟨W.heap.size, 0, none⟩) 0 0) 0 [] (by rfl) (by simp) oR2 (some ⟨b, off, none⟩) b off rfl k cap ((seqF F len).take k) (by rfl) (by simp [seqF_len]; omega) ((facts_take hfW (by omega)).below BV2 hbW) k (Nat.zero_add k) (by omega) BV2.size ?_
            intro g3 c3 V3 oR3 gr3 hc3
            have BV3 := own_grow BV2 BV2.size oR2 gr3
            have cX3 := cX2.grown gr3 nX
            refine hK.out _ _ ?_ (fun hHeld => ?_)
            · (try dsimp only); exact ⟨keep_below BV3 d0, keep_below BV3 d1, keep_below BV3 d2, keep_below BV3 d3⟩
            clear hK K
            (try simp only [putP])
            refine wpAnyH_ready (rs := [7]) (by kernel_rfl) (by simp) ?_
            refine AllReadyH.cons (o := _) rfl (fun K hK => ?_) AllReadyH.nil
            refine step_appF (by rfl) _ _ (by rfl) W.heap.size (.slice (some ⟨g3, 0, none⟩) k c3) k _ (by rfl) (by simp) oR3 (some ⟨V1.heap.size, 0, none⟩) V1.heap.size 0 rfl 1 1 [f] (by rfl) rfl cX3 (k + 1) rfl (by omega) BV3.size ?_
            intro g8 c8 V8 oR8 gr8 hc8
            have BV8 := own_grow BV3 BV3.size oR3 gr8
            refine hK.out _ _ ?_ (fun hHeld => ?_)
            · (try dsimp only); exact ⟨keep_below BV8 d0, keep_below BV8 d1, keep_below BV8 d2, keep_below BV8 d3⟩
            clear hK K
            (try simp only [putP])
            refine wpAnyH_ready (rs := [11]) (by kernel_rfl) (by simp) ?_
            refine AllReadyH.cons (o := _) rfl (fun K hK => ?_) AllReadyH.nil
            refine step_appF (by rfl) _ _ (by rfl) W.heap.size (.slice (some ⟨g8, 0, none⟩) (k + 1) c8) (k + 1) _ (by rfl) (by simp) oR8 (if cap = k then some ⟨b, off, none⟩ else some ⟨b, off + k * 4, none⟩) b (if cap = k then off else off + k * 4) (by split <;> rfl) (len - k) (cap - k) ((seqF F len).drop k) (by rfl) (by simp [seqF_len]) (by split; exact (fun j hj => by omega); exact (facts_drop hfW (by omega)).below BV8 hbW) (len + 1) (by omega) (by omega) BV8.size ?_
            intro g9 c9 V9 oR9 gr9 hc9
            have BV9 := own_grow BV8 BV8.size oR8 gr9
            refine hK.out _ _ ?_ (fun hHeld => ?_)
            · (try dsimp only); exact ⟨keep_below BV9 d0, keep_below BV9 d1, keep_below BV9 d2, keep_below BV9 d3⟩
            clear hK K
            refine tlT (i := 12) (ha := rfl) rfl ?_; refine tlT (i := 13) (ha := rfl) rfl ?_; (try simp only [putP])
            refine wpAnyH_done (by kernel_rfl) ?_ _
            have BF := btrans hb3 BV9
            rw [List.nil_append, ← hput.out] at oR9
            clear oR8 gr8 gr9 BV8 BV9 hfW
            go_wp2
            all_goals (go_ret2; exact ⟨_, c9, rfl, own_mono hb3.size oR9, BF⟩)
        · go_simp
          have cX1 : FactsIn ((W.alloc (.cells #[.int .i64 f.n, .int .i64 f.i, .int .i64 f.s, .bool f.g] 96)).drew) W.heap.size 0 1 (fun j => [f].getD j Fc.zero) := new_one W f
          have BV1 : Below W.heap.size W ((W.alloc (.cells #[.int .i64 f.n, .int .i64 f.i, .int .i64 f.s, .bool f.g] 96)).drew) := QB1 (balloc (.cells #[.int .i64 f.n, .int .i64 f.i, .int .i64 f.s, .bool f.g] 96) (Below.refl _ W))
          have xlt := facts_lt cX1
          refine hK.out _ _ ?_ (fun hHeld => ?_)
          · (try dsimp only); exact ⟨keep_below BV1 d0, keep_below BV1 d1, keep_below BV1 d2, keep_below BV1 d3⟩
          clear hK K
          (try simp only [putP])
          generalize ((W.alloc (.cells #[.int .i64 f.n, .int .i64 f.i, .int .i64 f.s, .bool f.g] 96)).drew) = V1 at *
          refine wpAnyH_ready (rs := [0]) (by kernel_rfl) (by simp) ?_
          refine AllReadyH.cons (o := _) rfl (fun K hK => ?_) AllReadyH.nil
          go_simp
          have oR2 : (V1.alloc (.cells #[] 96)).ownsRow W.heap.size 96 4 (.slice (some ⟨V1.heap.size, 0, none⟩) 0 0) 0 (fl []) := World.ownsRow_lit V1 #[] 0 (BV1.size) (by unfold maxLen; omega) rfl
          have BV2 : Below W.heap.size W (V1.alloc (.cells #[] 96)) := (balloc (.cells #[] 96) BV1)
          have cX2 := cX1.alloc (.cells #[] 96)
          have nX : some W.heap.size ≠ some V1.heap.size := by simp; omega
          refine hK.out _ _ ?_ (fun hHeld => ?_)
          · (try dsimp only); exact ⟨keep_below BV2 d0, keep_below BV2 d1, keep_below BV2 d2, keep_below BV2 d3⟩
          clear hK K
          (try simp only [putP])
          generalize (V1.alloc (.cells #[] 96)) = V2 at *
          refine wpAnyH_ready (rs := [4]) (by kernel_rfl) (by simp) ?_
          refine AllReadyH.cons (o := _) rfl (fun K hK => ?_) AllReadyH.nil
          refine step_appF (by rfl) _ _ (by rfl) W.heap.size (.slice (some ⟨V1.heap.size, 0, none⟩) 0 0) 0 [] (by rfl) (by simp) oR2 (some ⟨b, off, none⟩) b off rfl k cap ((seqF F len).take k) (by rfl) (by simp [seqF_len]; omega) ((facts_take hfW (by omega)).below BV2 hbW) k (Nat.zero_add k) (by omega) BV2.size ?_
          intro g3 c3 V3 oR3 gr3 hc3
          have BV3 := own_grow BV2 BV2.size oR2 gr3
          have cX3 := cX2.grown gr3 nX
          refine hK.out _ _ ?_ (fun hHeld => ?_)
          · (try dsimp only); exact ⟨keep_below BV3 d0, keep_below BV3 d1, keep_below BV3 d2, keep_below BV3 d3⟩
          clear hK K
          (try simp only [putP])
          refine wpAnyH_ready (rs := [7]) (by kernel_rfl) (by simp) ?_
          refine AllReadyH.cons (o := _) rfl (fun K hK => ?_) AllReadyH.nil
          refine step_appF (by rfl) _ _ (by rfl) W.heap.size (.slice (some ⟨g3, 0, none⟩) k c3) k _ (by rfl) (by simp) oR3 (some ⟨W.heap.size, 0, none⟩) W.heap.size 0 rfl 1 1 [f] (by rfl) rfl cX3 (k + 1) rfl (by omega) BV3.size ?_
          intro g8 c8 V8 oR8 gr8 hc8
          have BV8 := own_grow BV3 BV3.size oR3 gr8
          refine hK.out _ _ ?_ (fun hHeld => ?_)
          · (try dsimp only); exact ⟨keep_below BV8 d0, keep_below BV8 d1, keep_below BV8 d2, keep_below BV8 d3⟩
          clear hK K
          (try simp only [putP])
          refine wpAnyH_ready (rs := [11]) (by kernel_rfl) (by simp) ?_
          refine AllReadyH.cons (o := _) rfl (fun K hK => ?_) AllReadyH.nil
          refine step_appF (by rfl) _ _ (by rfl) W.heap.size (.slice (some ⟨g8, 0, none⟩) (k + 1) c8) (k + 1) _ (by rfl) (by simp) oR8 (if cap = k then some ⟨b, off, none⟩ else some ⟨b, off + k * 4, none⟩) b (if cap = k then off else off + k * 4) (by split <;> rfl) (len - k) (cap - k) ((seqF F len).drop k) (by rfl) (by simp [seqF_len]) (by split; exact (fun j hj => by omega); exact (facts_drop hfW (by omega)).below BV8 hbW) (len + 1) (by omega) (by omega) BV8.size ?_
          intro g9 c9 V9 oR9 gr9 hc9
          have BV9 := own_grow BV8 BV8.size oR8 gr9
          refine hK.out _ _ ?_ (fun hHeld => ?_)
          · (try dsimp only); exact ⟨keep_below BV9 d0, keep_below BV9 d1, keep_below BV9 d2, keep_below BV9 d3⟩
          clear hK K
          refine tlT (i := 12) (ha := rfl) rfl ?_; refine tlT (i := 13) (ha := rfl) rfl ?_; (try simp only [putP])
          refine wpAnyH_done (by kernel_rfl) ?_ _
          have BF := btrans hb3 BV9
          rw [List.nil_append, ← hput.out] at oR9
          clear oR8 gr8 gr9 BV8 BV9 hfW
          go_wp2
          all_goals (go_ret2; exact ⟨_, c9, rfl, own_mono hb3.size oR9, BF⟩)
    · have i1 : ¬ (k : Int) < (len : Int) := by omega
      have hput : Hid (tput (seqF F len) f = (seqF F len).take k ++ [f] ++ (seqF F len).drop k) := tput_at k (by rw [seqF_len]; omega) (fun j hj => by rw [seqF_getD F (by omega)]; exact hall j hj) (fun h => by rw [seqF_len] at h; omega)
      clear hp
      go_wp2_with fail
      refine wp_region_held_drew (S := fun _ => True) (by kernel_rfl) ?_ (fun hHeld => ?_)
      · (try dsimp only); skip
      refine tlT (i := 0) rfl ?_; refine tlT (i := 1) rfl ?_; refine tlT (i := 2) rfl ?_; refine tlT (i := 3) rfl ?_; refine tlT (i := 4) rfl ?_; refine tzT (i := 5) rfl ?_; refine tzT (i := 6) rfl ?_; refine tzT (i := 7) rfl ?_; refine tzT (i := 8) rfl ?_; refine tzT (i := 9) rfl ?_; refine tzT (i := 10) rfl ?_; refine tzT (i := 11) rfl ?_; refine tzT (i := 12) rfl ?_; refine tlT (i := 13) rfl ?_
      refine wpAnyH_done (by kernel_rfl) ?_ _
      go_wp2_with fail
      have hb3 : Below w.heap.size w (wr.drew) := ⟨hb.os, hb.tape, hb.output, hb.size, hb.block⟩
      have hfW : FactsIn (wr.drew) b off len F := hf.below hb3 hbl
      have d0 : (wr.drew).cell? ⟨w.heap.size, 0, none⟩ = some (.int .i64 f.n) := e0
      have d1 : (wr.drew).cell? ⟨w.heap.size, 1, none⟩ = some (.int .i64 f.i) := e1
      have d2 : (wr.drew).cell? ⟨w.heap.size, 2, none⟩ = some (.int .i64 f.s) := e2
      have d3 : (wr.drew).cell? ⟨w.heap.size, 3, none⟩ = some (.bool f.g) := e3
      have hbW : b < (wr.drew).heap.size := Nat.lt_of_lt_of_le hbl hb3.size
      clear e0 e1 e2 e3 hb hall
      generalize (wr.drew) = W at *
      have k7 : (k : Int) ≤ (len : Int) := by omega
      have k9 : k ≤ cap := by omega
      have k8 : (0 : Int) ≤ (k : Int) := by omega
      refine wp_region_held_drew (S := fun w' => w'.cell? ⟨w.heap.size, 0, none⟩ = some (.int .i64 f.n) ∧ w'.cell? ⟨w.heap.size, 1, none⟩ = some (.int .i64 f.i) ∧ w'.cell? ⟨w.heap.size, 2, none⟩ = some (.int .i64 f.s) ∧ w'.cell? ⟨w.heap.size, 3, none⟩ = some (.bool f.g)) (by kernel_rfl) ?_ (fun hHeld => ?_)
      · exact ⟨keep_drew d0, keep_drew d1, keep_drew d2, keep_drew d3⟩
      refine tlT (i := 1) rfl ?_; refine tlT (i := 2) rfl ?_; refine tlT (i := 3) rfl ?_; refine tlT (i := 5) rfl ?_; refine tlT (i := 8) rfl ?_; refine tlT (i := 9) rfl ?_; refine tlT (i := 10) rfl ?_
      refine wpAnyH_ready (rs := [0, 6]) (by kernel_rfl) (by simp) ?_
      refine AllReadyH.cons (o := _) rfl (fun K hK => ?_) (AllReadyH.cons (o := _) rfl (fun K hK => ?_) AllReadyH.nil)
      · go_simp
        have oR1 : ((W.alloc (.cells #[] 96)).drew).ownsRow W.heap.size 96 4 (.slice (some ⟨W.heap.size, 0, none⟩) 0 0) 0 (fl []) := World.ownsRow_lit W #[] 0 (Nat.le_refl _) (by unfold maxLen; omega) rfl
        have BV1 : Below W.heap.size W ((W.alloc (.cells #[] 96)).drew) := QB1 (balloc (.cells #[] 96) (Below.refl _ W))
        refine hK.out _ _ ?_ (fun hHeld => ?_)
        · (try dsimp only); exact ⟨keep_below BV1 d0, keep_below BV1 d1, keep_below BV1 d2, keep_below BV1 d3⟩
        clear hK K
        (try simp only [putP])
        generalize ((W.alloc (.cells #[] 96)).drew) = V1 at *
        refine wpAnyH_ready (rs := [4, 6]) (by kernel_rfl) (by simp) ?_
        refine AllReadyH.cons (o := _) rfl (fun K hK => ?_) (AllReadyH.cons (o := _) rfl (fun K hK => ?_) AllReadyH.nil)
        · refine step_appF (by rfl) _ _ (by rfl) W.heap.size (.slice (some ⟨W.heap.size, 0, none⟩) 0 0) 0 [] (by rfl) (by simp) oR1 (some ⟨b, off, none⟩) b off rfl k cap ((seqF F len).take k) (by rfl) (by simp [seqF_len]; omega) ((facts_take hfW (by omega)).below BV1 hbW) k (Nat.zero_add k) (by omega) BV1.size ?_
          intro g2 c2 V2 oR2 gr2 hc2
          have BV2 := own_grow BV1 BV1.size oR1 gr2
          refine hK.out _ _ ?_ (fun hHeld => ?_)
          · (try dsimp only); exact ⟨keep_below BV2 d0, keep_below BV2 d1, keep_below BV2 d2, keep_below BV2 d3⟩
          clear hK K
          (try simp only [putP])
          refine wpAnyH_ready (rs := [6]) (by kernel_rfl) (by simp) ?_
          refine AllReadyH.cons (o := _) rfl (fun K hK => ?_) AllReadyH.nil
          go_simp
          have cX3 : FactsIn (V2.alloc (.cells #[.int .i64 f.n, .int .i64 f.i, .int .i64 f.s, .bool f.g] 96)) V2.heap.size 0 1 (fun j => [f].getD j Fc.zero) := new_one V2 f
          have BV3 : Below W.heap.size W (V2.alloc (.cells #[.int .i64 f.n, .int .i64 f.i, .int .i64 f.s, .bool f.g] 96)) := (balloc (.cells #[.int .i64 f.n, .int .i64 f.i, .int .i64 f.s, .bool f.g] 96) BV2)
          have oR3 := oR2.alloc (.cells #[.int .i64 f.n, .int .i64 f.i, .int .i64 f.s, .bool f.g] 96)
          refine hK.out _ _ ?_ (fun hHeld => ?_)
          · (try dsimp only); exact ⟨keep_below BV3 d0, keep_below BV3 d1, keep_below BV3 d2, keep_below BV3 d3⟩
          clear hK K
          (try simp only [putP])
          generalize (V2.alloc (.cells #[.int .i64 f.n, .int .i64 f.i, .int .i64 f.s, .bool f.g] 96)) = V3 at *
          refine wpAnyH_ready (rs := [7]) (by kernel_rfl) (by simp) ?_
          refine AllReadyH.cons (o := _) rfl (fun K hK => ?_) AllReadyH.nil
          refine step_appF (by rfl) _ _ (by rfl) W.heap.size (.slice (some ⟨g2, 0, none⟩) k c2) k _ (by rfl) (by simp) oR3 (some ⟨V2.heap.size, 0, none⟩) V2.heap.size 0 rfl 1 1 [f] (by rfl) rfl cX3 (k + 1) rfl (by omega) BV3.size ?_
          intro g8 c8 V8 oR8 gr8 hc8
          have BV8 := own_grow BV3 BV3.size oR3 gr8
          refine hK.out _ _ ?_ (fun hHeld => ?_)
          · (try dsimp only); exact ⟨keep_below BV8 d0, keep_below BV8 d1, keep_below BV8 d2, keep_below BV8 d3⟩
          clear hK K
          (try simp only [putP])
          refine wpAnyH_ready (rs := [11]) (by kernel_rfl) (by simp) ?_
          refine AllReadyH.cons (o := _) rfl (fun K hK => ?_) AllReadyH.nil
          refine step_appF (by rfl) _ _ (by rfl) W.heap.size (.slice (some ⟨g8, 0, none⟩) (k + 1) c8) (k + 1) _ (by rfl) (by simp) oR8 (if cap = k then some ⟨b, off, none⟩ else some ⟨b, off + k * 4, none⟩) b (if cap = k then off else off + k * 4) (by split <;> rfl) (len - k) (cap - k) ((seqF F len).drop k) (by rfl) (by simp [seqF_len]) (by split; exact (fun j hj => by omega); exact (facts_drop hfW (by omega)).below BV8 hbW) (len + 1) (by omega) (by omega) BV8.size ?_
          intro g9 c9 V9 oR9 gr9 hc9
          have BV9 := own_grow BV8 BV8.size oR8 gr9
          refine hK.out _ _ ?_ (fun hHeld => ?_)
          · (try dsimp only); exact ⟨keep_below BV9 d0, keep_below BV9 d1, keep_below BV9 d2, keep_below BV9 d3⟩
          clear hK K
          refine tlT (i := 12) (ha := rfl) rfl ?_; refine tlT (i := 13) (ha := rfl) rfl ?_; (try simp only [putP])
          refine wpAnyH_done (by kernel_rfl) ?_ _
          have BF := btrans hb3 BV9
          rw [List.nil_append, ← hput.out] at oR9
          clear oR8 gr8 gr9 BV8 BV9 hfW
          go_wp2
          all_goals (go_ret2; exact ⟨_, c9, rfl, own_mono hb3.size oR9, BF⟩)
        · go_simp
          have cX2 : FactsIn (V1.alloc (.cells #[.int .i64 f.n, .int .i64 f.i, .int .i64 f.s, .bool f.g] 96)) V1.heap.size 0 1 (fun j => [f].getD j Fc.zero) := new_one V1 f
          have BV2 : Below W.heap.size W (V1.alloc (.cells #[.int .i64 f.n, .int .i64 f.i, .int .i64 f.s, .bool f.g] 96)) := (balloc (.cells #[.int .i64 f.n, .int .i64 f.i, .int .i64 f.s, .bool f.g] 96) BV1)
          have oR2 := oR1.alloc (.cells #[.int .i64 f.n, .int .i64 f.i, .int .i64 f.s, .bool f.g] 96)
          have nX : some V1.heap.size ≠ some W.heap.size := by have := oR1.lt W.heap.size rfl; simp; omega
          refine hK.out _ _ ?_ (fun hHeld => ?_)
          · (try dsimp only); exact ⟨keep_below BV2 d0, keep_below BV2 d1, keep_below BV2 d2, keep_below BV2 d3⟩
          clear hK K
          (try simp only [putP])
          generalize (V1.alloc (.cells #[.int .i64 f.n, .int .i64 f.i, .int .i64 f.s, .bool f.g] 96)) = V2 at *
          refine wpAnyH_ready (rs := [4]) (by kernel_rfl) (by simp) ?_
          refine AllReadyH.cons (o := _) rfl (fun K hK => ?_) AllReadyH.nil
          refine step_appF (by rfl) _ _ (by rfl) W.heap.size (.slice (some ⟨W.heap.size, 0, none⟩) 0 0) 0 [] (by rfl) (by simp) oR2 (some ⟨b, off, none⟩) b off rfl k cap ((seqF F len).take k) (by rfl) (by simp [seqF_len]; omega) ((facts_take hfW (by omega)).below BV2 hbW) k (Nat.zero_add k) (by omega) BV2.size ?_
          intro g3 c3 V3 oR3 gr3 hc3
          have BV3 := own_grow BV2 BV2.size oR2 gr3
          have cX3 := cX2.grown gr3 nX
          refine hK.out _ _ ?_ (fun hHeld => ?_)
          · (try dsimp only); exact ⟨keep_below BV3 d0, keep_below BV3 d1, keep_below BV3 d2, keep_below BV3 d3⟩
          clear hK K
          (try simp only [putP])
          refine wpAnyH_ready (rs := [7]) (by kernel_rfl) (by simp) ?_
          refine AllReadyH.cons (o := _) rfl (fun K hK => ?_) AllReadyH.nil
          refine step_appF (by rfl) _ _ (by rfl) W.heap.size (.slice (some ⟨g3, 0, none⟩) k c3) k _ (by rfl) (by simp) oR3 (some ⟨V1.heap.size, 0, none⟩) V1.heap.size 0 rfl 1 1 [f] (by rfl) rfl cX3 (k + 1) rfl (by omega) BV3.size ?_
          intro g8 c8 V8 oR8 gr8 hc8
          have BV8 := own_grow BV3 BV3.size oR3 gr8
          refine hK.out _ _ ?_ (fun hHeld => ?_)
          · (try dsimp only); exact ⟨keep_below BV8 d0, keep_below BV8 d1, keep_below BV8 d2, keep_below BV8 d3⟩
          clear hK K
          (try simp only [putP])
          refine wpAnyH_ready (rs := [11]) (by kernel_rfl) (by simp) ?_
          refine AllReadyH.cons (o := _) rfl (fun K hK => ?_) AllReadyH.nil
          refine step_appF (by rfl) _ _ (by rfl) W.heap.size (.slice (some ⟨g8, 0, none⟩) (k + 1) c8) (k + 1) _ (by rfl) (by simp) oR8 (if cap = k then some ⟨b, off, none⟩ else some ⟨b, off + k * 4, none⟩) b (if cap = k then off else off + k * 4) (by split <;> rfl) (len - k) (cap - k) ((seqF F len).drop k) (by rfl) (by simp [seqF_len]) (by split; exact (fun j hj => by omega); exact (facts_drop hfW (by omega)).below BV8 hbW) (len + 1) (by omega) (by omega) BV8.size ?_
          intro g9 c9 V9 oR9 gr9 hc9
          have BV9 := own_grow BV8 BV8.size oR8 gr9
          refine hK.out _ _ ?_ (fun hHeld => ?_)
          · (try dsimp only); exact ⟨keep_below BV9 d0, keep_below BV9 d1, keep_below BV9 d2, keep_below BV9 d3⟩
          clear hK K
          refine tlT (i := 12) (ha := rfl) rfl ?_; refine tlT (i := 13) (ha := rfl) rfl ?_; (try simp only [putP])
          refine wpAnyH_done (by kernel_rfl) ?_ _
          have BF := btrans hb3 BV9
          rw [List.nil_append, ← hput.out] at oR9
          clear oR8 gr8 gr9 BV8 BV9 hfW
          go_wp2
          all_goals (go_ret2; exact ⟨_, c9, rfl, own_mono hb3.size oR9, BF⟩)
      · go_simp
        have cX1 : FactsIn ((W.alloc (.cells #[.int .i64 f.n, .int .i64 f.i, .int .i64 f.s, .bool f.g] 96)).drew) W.heap.size 0 1 (fun j => [f].getD j Fc.zero) := new_one W f
        have BV1 : Below W.heap.size W ((W.alloc (.cells #[.int .i64 f.n, .int .i64 f.i, .int .i64 f.s, .bool f.g] 96)).drew) := QB1 (balloc (.cells #[.int .i64 f.n, .int .i64 f.i, .int .i64 f.s, .bool f.g] 96) (Below.refl _ W))
        have xlt := facts_lt cX1
        refine hK.out _ _ ?_ (fun hHeld => ?_)
        · (try dsimp only); exact ⟨keep_below BV1 d0, keep_below BV1 d1, keep_below BV1 d2, keep_below BV1 d3⟩
        clear hK K
        (try simp only [putP])
        generalize ((W.alloc (.cells #[.int .i64 f.n, .int .i64 f.i, .int .i64 f.s, .bool f.g] 96)).drew) = V1 at *
        refine wpAnyH_ready (rs := [0]) (by kernel_rfl) (by simp) ?_
        refine AllReadyH.cons (o := _) rfl (fun K hK => ?_) AllReadyH.nil
        go_simp
        have oR2 : (V1.alloc (.cells #[] 96)).ownsRow W.heap.size 96 4 (.slice (some ⟨V1.heap.size, 0, none⟩) 0 0) 0 (fl []) := World.ownsRow_lit V1 #[] 0 (BV1.size) (by unfold maxLen; omega) rfl
        have BV2 : Below W.heap.size W (V1.alloc (.cells #[] 96)) := (balloc (.cells #[] 96) BV1)
        have cX2 := cX1.alloc (.cells #[] 96)
        have nX : some W.heap.size ≠ some V1.heap.size := by simp; omega
        refine hK.out _ _ ?_ (fun hHeld => ?_)
        · (try dsimp only); exact ⟨keep_below BV2 d0, keep_below BV2 d1, keep_below BV2 d2, keep_below BV2 d3⟩
        clear hK K
        (try simp only [putP])
        generalize (V1.alloc (.cells #[] 96)) = V2 at *
        refine wpAnyH_ready (rs := [4]) (by kernel_rfl) (by simp) ?_
        refine AllReadyH.cons (o := _) rfl (fun K hK => ?_) AllReadyH.nil
        refine step_appF (by rfl) _ _ (by rfl) W.heap.size (.slice (some ⟨V1.heap.size, 0, none⟩) 0 0) 0 [] (by rfl) (by simp) oR2 (some ⟨b, off, none⟩) b off rfl k cap ((seqF F len).take k) (by rfl) (by simp [seqF_len]; omega) ((facts_take hfW (by omega)).below BV2 hbW) k (Nat.zero_add k) (by omega) BV2.size ?_
        intro g3 c3 V3 oR3 gr3 hc3
        have BV3 := own_grow BV2 BV2.size oR2 gr3
        have cX3 := cX2.grown gr3 nX
        refine hK.out _ _ ?_ (fun hHeld => ?_)
        · (try dsimp only); exact ⟨keep_below BV3 d0, keep_below BV3 d1, keep_below BV3 d2, keep_below BV3 d3⟩
        clear hK K
        (try simp only [putP])
        refine wpAnyH_ready (rs := [7]) (by kernel_rfl) (by simp) ?_
        refine AllReadyH.cons (o := _) rfl (fun K hK => ?_) AllReadyH.nil
        refine step_appF (by rfl) _ _ (by rfl) W.heap.size (.slice (some ⟨g3, 0, none⟩) k c3) k _ (by rfl) (by simp) oR3 (some ⟨W.heap.size, 0, none⟩) W.heap.size 0 rfl 1 1 [f] (by rfl) rfl cX3 (k + 1) rfl (by omega) BV3.size ?_
        intro g8 c8 V8 oR8 gr8 hc8
        have BV8 := own_grow BV3 BV3.size oR3 gr8
        refine hK.out _ _ ?_ (fun hHeld => ?_)
        · (try dsimp only); exact ⟨keep_below BV8 d0, keep_below BV8 d1, keep_below BV8 d2, keep_below BV8 d3⟩
        clear hK K
        (try simp only [putP])
        refine wpAnyH_ready (rs := [11]) (by kernel_rfl) (by simp) ?_
        refine AllReadyH.cons (o := _) rfl (fun K hK => ?_) AllReadyH.nil
        refine step_appF (by rfl) _ _ (by rfl) W.heap.size (.slice (some ⟨g8, 0, none⟩) (k + 1) c8) (k + 1) _ (by rfl) (by simp) oR8 (if cap = k then some ⟨b, off, none⟩ else some ⟨b, off + k * 4, none⟩) b (if cap = k then off else off + k * 4) (by split <;> rfl) (len - k) (cap - k) ((seqF F len).drop k) (by rfl) (by simp [seqF_len]) (by split; exact (fun j hj => by omega); exact (facts_drop hfW (by omega)).below BV8 hbW) (len + 1) (by omega) (by omega) BV8.size ?_
        intro g9 c9 V9 oR9 gr9 hc9
        have BV9 := own_grow BV8 BV8.size oR8 gr9
        refine hK.out _ _ ?_ (fun hHeld => ?_)
        · (try dsimp only); exact ⟨keep_below BV9 d0, keep_below BV9 d1, keep_below BV9 d2, keep_below BV9 d3⟩
        clear hK K
        refine tlT (i := 12) (ha := rfl) rfl ?_; refine tlT (i := 13) (ha := rfl) rfl ?_; (try simp only [putP])
        refine wpAnyH_done (by kernel_rfl) ?_ _
        have BF := btrans hb3 BV9
        rw [List.nil_append, ← hput.out] at oR9
        clear oR8 gr8 gr9 BV8 BV9 hfW
        go_wp2
        all_goals (go_ret2; exact ⟨_, c9, rfl, own_mono hb3.size oR9, BF⟩)
end Go.Proofs.YtgcdcfjaeehnbaaGreat
