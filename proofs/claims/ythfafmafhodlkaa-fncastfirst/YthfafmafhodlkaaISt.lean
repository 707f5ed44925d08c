/- The model's CastTake. -/
import Derived.Test.YthfafmafhodlkaaISn
namespace Go.Proofs.Ythfafmafhodlkaa.I
open Go.ChangeShapes Go.WideShapes Go.ChangeAt Go.RowKit
attribute [local go_sem ↓] Go.wp_at_zero Go.wp_at_succ
/-- flags in a block of their own -/
def FB (w : World) (b len : Nat) (f : Nat → Bool) : Prop := ∃ cs, w.heap[b]? = some (.cells cs 4 (0, 0)) ∧ cs.size = len ∧ ∀ k, k < len → cs[k]? = some (.bool (f k))
theorem FB.at {w : World} {b len : Nat} {f : Nat → Bool} (h : FB w b len f) (k : Nat) (hk : k < len) : w.cell? ⟨b, k, none⟩ = some (.bool (f k)) ∧ w.frozen? ⟨b, k, none⟩ = false := by
  obtain ⟨cs, h1, h2, h3⟩ := h
  exact ⟨by simp [World.cell?, h1, h3 k hk], by simp [World.frozen?, h1]⟩
theorem FB.flags {w : World} {b len : Nat} {f : Nat → Bool} (h : FB w b len f) : Flags w b len f := ⟨by obtain ⟨cs, h1, _⟩ := h; exact (Array.getElem?_eq_some_iff.1 h1).1, fun k hk => (h.at k hk).1⟩
theorem FB.lt {w : World} {b len : Nat} {f : Nat → Bool} (h : FB w b len f) : b < w.heap.size := by obtain ⟨cs, h1, _⟩ := h; exact (Array.getElem?_eq_some_iff.1 h1).1
theorem FB.below {w w' : World} {b len : Nat} {f : Nat → Bool} (h : FB w b len f) (hb : Below w.heap.size w w') : FB w' b len f := by
  have hlt := h.lt
  obtain ⟨cs, h1, h2⟩ := h
  exact ⟨cs, (hb.block b hlt).trans h1, h2⟩
theorem FB.set {w : World} {b len : Nat} {f : Nat → Bool} (h : FB w b len f) (m : Nat) : FB (w.setCell ⟨b, m, none⟩ (.bool true)) b len (fun j => if j = m then true else f j) := by
  obtain ⟨cs, h1, h2, h3⟩ := h
  refine ⟨cs.setIfInBounds m (.bool true), heap_setCell_same w b m cs 4 _ h1, by simpa using h2, fun k hk => ?_⟩
  rw [Array.getElem?_setIfInBounds]
  by_cases e : m = k
  · subst e; simp [h2, hk]
  · rw [if_neg e, h3 k hk]
    show _ = some (Value.bool (if k = m then true else f k))
    rw [if_neg (fun h => e h.symm)]
theorem keep_flags {W w5 : World} {base e size n b len : Nat} {v : Value} {xs : List Value} {o : Obj} {f : Nat → Bool} (ho : W.ownsRow base e size v n xs) (hg : (W.alloc o).grownBy w5 v.ownBlock) (h : FB W b len f) (h4 : e ≠ 4 := by decide) : FB w5 b len f := by
  obtain ⟨cs, h1, h2⟩ := h
  exact ⟨cs, keep_other ho hg h1 (fun cur h' => by cases h'; exact h4 rfl), h2⟩
theorem set_flags {W : World} {b len B : Nat} {x : It} {f : Nat → Bool} {v : Value} (hx : W.heap[B]? = some (.cells (icells x) 36 (0, 0))) (h : FB W b len f) : FB (W.setCell ⟨B, 4, none⟩ v) b len f := by
  have gs := grown_set W B 4 v
  obtain ⟨cs, h1, h2⟩ := h
  exact ⟨cs, (gs.block b (Array.getElem?_eq_some_iff.1 h1).1 (fun e => by cases e; rw [hx] at h1; cases h1)).trans h1, h2⟩
theorem info4 : (Try.prog.info? 4).map (fun i => (i.zero, i.size, i.bytes)) = some (some (.bool false), 1, 1) := by kernel_rfl
theorem run_make_flags (n : Nat) (hn : n ≤ 1048576) (w : World) :
    (Instr.makeSlice 70 (.int .i64 (n : Int)) (.int .i64 (n : Int))).run Try.prog w = .ok (.slice (some ⟨w.heap.size, 0, none⟩) n n) (w.alloc (.cells (madeCells #[.bool false] n) 4)) := by
  obtain ⟨i, hi, hzz⟩ := Option.map_eq_some_iff.1 info4
  simp only [Prod.mk.injEq] at hzz
  obtain ⟨hz, hs, hb⟩ := hzz
  have hr := run_make (P := Try.prog) w 70 4 i _ Try.underlying70 hi hz .i64 .i64 n n (by omega) (Int.le_refl _) (by rw [hb]; omega) (by omega)
  rw [hr, hs, Int.toNat_natCast, Nat.mul_one]
  rfl
theorem flags_made (n : Nat) (w : World) : FB (w.alloc (.cells (madeCells #[.bool false] n) 4)) w.heap.size n (fun _ => false) :=
  ⟨_, World.alloc_heap_new w _, size_madeCells _ _, fun k hk => by simp [madeCells, hk, Nat.mod_one]⟩
/-- what was taken till now -/
def Tki (L : List It) (most : Int) (f : Nat → Bool) (n : Nat) : Prop := ∃ xs H : List It, (xs ++ H).Perm L ∧ (∀ x ∈ xs, ∀ y ∈ H, rk x ≤ rk y) ∧ xs.length = n ∧ ((n : Int) ≤ most ∨ n = 0) ∧ ∀ k x, k < L.length → L[k]? = some x → (f k = true ↔ x ∈ xs)
theorem tki_start (L : List It) (most : Int) : Tki L most (fun _ => false) 0 := ⟨[], L, List.Perm.refl _, by simp, rfl, .inr rfl, by simp⟩
theorem tki_step {L : List It} {most : Int} {f : Nat → Bool} {n m : Nat} (hL : okL L) (h : Tki L most f n) (hn : (n : Int) < most) (hm : m < L.length) (hfm : f m = false) (hmin : ∀ j, j < L.length → f j = false → rh L m ≤ rh L j) : Tki L most (fun j => if j = m then true else f j) (n + 1) := by
  obtain ⟨xs, H, hp, hle, hl, _, hf⟩ := h
  obtain ⟨x, hx⟩ : ∃ x, L[m]? = some x := ⟨_, List.getElem?_eq_getElem hm⟩
  have hxn : x ∉ xs := fun h => by have := (hf m x hm hx).2 h; rw [hfm] at this; cases this
  have hnd : L.Nodup := hL.2.imp (fun {a b} hab e => by subst e; omega)
  have hxH : x ∈ H := by
    rcases List.mem_append.1 (hp.mem_iff.2 (List.mem_of_getElem? hx)) with h | h
    · exact absurd h hxn
    · exact h
  obtain ⟨s1, s2, rfl⟩ := List.append_of_mem hxH
  have hnd2 : (xs ++ (s1 ++ x :: s2)).Nodup := hp.nodup_iff.2 hnd
  refine ⟨xs ++ [x], s1 ++ s2, ?_, ?_, by simp [hl], .inl (by omega), ?_⟩
  · rw [List.append_assoc]
    exact ((List.perm_middle (l₁ := s1) (l₂ := s2) (a := x)).symm.append_left xs).trans hp
  · intro a ha b hb
    have hbH : b ∈ s1 ++ x :: s2 := by
      rcases List.mem_append.1 hb with h | h
      · exact List.mem_append_left _ h
      · exact List.mem_append_right _ (List.mem_cons_of_mem _ h)
    rcases List.mem_append.1 ha with ha | ha
    · exact hle a ha b hbH
    · simp at ha
      subst ha
      have hbL := hp.mem_iff.1 (List.mem_append_right xs hbH)
      obtain ⟨j, hj, ej⟩ := List.getElem_of_mem hbL
      have hjb : L[j]? = some b := by rw [List.getElem?_eq_getElem hj, ej]
      have hfj : f j = false := by
        cases e : f j
        · rfl
        · exact absurd rfl ((List.nodup_append.1 hnd2).2.2 b ((hf j b hj hjb).1 e) b hbH)
      have := hmin j hj hfj
      rwa [rh_at hx, rh_at hjb] at this
  · intro k y hk hy
    by_cases e : k = m
    · subst e
      rw [hx] at hy
      cases hy
      simp
    · show (if k = m then true else f k) = true ↔ _
      rw [if_neg e, hf k y hk hy, List.mem_append]
      refine ⟨.inl, fun h => h.elim id (fun h => ?_)⟩
      simp at h
      subst h
      exact absurd ((List.getElem?_inj hk hnd).1 (by rw [hx, hy])) e
theorem tki_all {L : List It} {most : Int} {f : Nat → Bool} {n : Nat} (hL : okL L) (h : Tki L most f n) (he : most ≤ (n : Int) ∨ ∀ j, j < L.length → f j = true) : ∀ k x, k < L.length → L[k]? = some x → f k = tk L most x := by
  obtain ⟨xs, H, hp, hle, hl, hm, hf⟩ := h
  have hT : Taken L most xs := by
    refine ⟨H, hp, hle, ?_, ?_⟩
    · rcases hm with h | h
      · exact .inl (by rw [hl]; exact h)
      · exact .inr (List.length_eq_zero_iff.1 (by omega))
    · rcases he with he | he
      · exact .inl (by rw [hl]; exact he)
      · refine .inr (List.eq_nil_iff_forall_not_mem.2 (fun y hy => ?_))
        have hnd : (xs ++ H).Nodup := hp.nodup_iff.2 (hL.2.imp (fun {a b} hab e => by subst e; omega))
        have hyL := hp.mem_iff.1 (List.mem_append_right xs hy)
        obtain ⟨j, hj, ej⟩ := List.getElem_of_mem hyL
        have hyx := (hf j y hj (by rw [List.getElem?_eq_getElem hj, ej])).1 (he j hj)
        exact (List.nodup_append.1 hnd).2.2 y hyx y hy rfl
  intro k x hk hx
  have h1 := hf k x hk hx
  have h2 := taken_mem hL hT x (List.mem_of_getElem? hx)
  cases e1 : f k <;> cases e2 : tk L most x <;> simp_all
set_option maxRecDepth 20000 in
set_option maxHeartbeats 8000000 in
theorem stake_any (a : Option Addr) (cap : Nat) (L : List It) (most : Int) (w : World) (h : TSl w a L.length (fun k => L.getD k It.zero)) (hl : L.length ≤ 8) (hL : okL L) :
    Calls Try.prog 26 #[.slice a L.length cap, .int .i64 most] w fun e w' => ∃ v8 v9, e = .returned (.tuple #[v8, v9]) ∧ w'.ownsRow w.heap.size 34 4 v8 (gF (tk L most) L).length (Ythfafmafhodlkaa.fl (gF (tk L most) L)) ∧ w'.ownsRow w.heap.size 36 5 v9 (gL (tk L most) L).length (fl (gL (tk L most) L)) ∧ Below w.heap.size w w' := by
  have hmk := run_make_flags L.length (by omega) w
  have hF0 := flags_made L.length w
  have B0 : Below w.heap.size w (w.alloc (.cells (madeCells #[.bool false] L.length) 4)) := balloc _ (Below.refl _ _)
  have h0 : Hid (TSl w a L.length (fun k => L.getD k It.zero)) := h
  have hLh : Hid (okL L) := hL
  clear h hL
  go_enter Try.func26, Try.ntmps26
  go_wp2_with fail
  generalize (w.alloc (.cells (madeCells #[.bool false] L.length) 4)) = w1 at *
  obtain ⟨bt, hbt⟩ : ∃ b, w.heap.size = b := ⟨_, rfl⟩
  have hbw : w.heap.size ≤ bt := Nat.le_of_eq hbt
  rw [hbt] at hF0 ⊢
  clear hmk hbt
  go_loopw [7] (fun i wr => ∃ (n : Nat) (f : Nat → Bool), i = .int .i64 n ∧ Tki L most f n ∧ FB wr bt L.length f ∧ Below w.heap.size w wr) (fun i _ => L.length + 1 - (intOf i).toNat)
  case atStart => exact ⟨0, _, rfl, tki_start L most, hF0, B0⟩
  case round =>
    clear hF0 B0
    obtain ⟨n, f, rfl, hT, hfl, hb⟩ := hrel
    have hnl : n ≤ L.length := by obtain ⟨xs, H, hp, _, h2, _⟩ := hT; have := hp.length_eq; rw [List.length_append] at this; omega
    by_cases hlt : (n : Int) < most
    · have hN := next_any a cap bt L f wr (h0.out.below hb) hfl.flags hl hLh.out
      go_wp2_with fail
      refine hN.mono ?_
      rintro e w3 ⟨r, rfl, hr, b3⟩
      have hf3 := hfl.below b3
      have hb3 := btrans hb b3
      clear hN hfl hb b3
      rcases hr with ⟨rfl, hall⟩ | ⟨m, hm, rfl, hfm, hmin⟩
      · have hfe : Hid (∀ k x, k < L.length → L[k]? = some x → f k = tk L most x) := tki_all hLh.out hT (.inr hall)
        clear hall hT
        go_wp2_with fail
        have hff := (hf3.below (balloc (.cells #[] 34) (Below.refl _ _))).below (balloc (.cells #[] 36) (Below.refl _ _))
        have hbb := balloc (.cells #[] 36) (balloc (.cells #[] 34) hb3)
        have oo8 : (w3.alloc (.cells #[] 34)).ownsRow w.heap.size 34 4 (.slice (some ⟨w3.heap.size, 0, none⟩) 0 0) 0 (Ythfafmafhodlkaa.fl []) := World.ownsRow_lit w3 #[] 0 hb3.size (by unfold maxLen; omega) rfl
        have oo8' := oo8.alloc (.cells #[] 36)
        have oo9 := own_emptyF (w3.alloc (.cells #[] 34)) w.heap.size (by have := hb3.size; simp; omega)
        obtain ⟨tF, hF0, hF1, hF2, hF3⟩ := info_parts infoFc
        obtain ⟨tI, hI0, hI1, hI2, hI3⟩ := info_parts infoI
        rw [World.size_alloc] at oo9
        generalize (w3.alloc (.cells #[] 34)).alloc (.cells #[] 36) = w4 at *
        generalize w3.heap.size + 1 = bb2 at *
        generalize w3.heap.size = bb1 at *
        clear oo8 hf3 hb3
        go_loopw [9, 10, 11] (fun v8 v9 i wr => ∃ k : Nat, k ≤ L.length ∧ i = .int .i64 k ∧ wr.ownsRow w.heap.size 34 4 v8 (gF (tk L most) (L.take k)).length (Ythfafmafhodlkaa.fl (gF (tk L most) (L.take k))) ∧ wr.ownsRow w.heap.size 36 5 v9 (gL (tk L most) (L.take k)).length (fl (gL (tk L most) (L.take k))) ∧ FB wr bt L.length f ∧ Below w.heap.size w wr) (fun _ _ i _ => L.length - (intOf i).toNat)
        case atStart => exact ⟨0, Nat.zero_le _, rfl, oo8', oo9, hff, hbb⟩
        case round =>
          clear oo8' oo9 hff hbb
          obtain ⟨k, hk, rfl, ho8, ho9, hfl, hb⟩ := hrel
          by_cases hlt : k < L.length
          · have i0 : (0 : Int) ≤ (k : Int) := by omega
            have i1 : (k : Int) < (L.length : Int) := by omega
            have hl8 : (gF (tk L most) (L.take k)).length ≤ 8 := by have := gF_len (tk L most) (L.take k); rw [List.length_take] at this; omega
            have hl9 : (gL (tk L most) (L.take k)).length ≤ 8 := by have := gL_len (tk L most) (L.take k); rw [List.length_take] at this; omega
            obtain ⟨bg, og, rfl, hbg, hfg⟩ := h0.out (by omega)
            obtain ⟨x, hx⟩ : ∃ x, Hid (L[k]? = some x) := ⟨_, List.getElem?_eq_getElem hlt⟩
            have hxg : L.getD k It.zero = x := by simp [List.getD, hx.out]
            obtain ⟨c0, c1, c2, c3, c4⟩ := (hfg.below hb hbg) k hlt
            dsimp only at c0 c1 c2 c3 c4
            rw [hxg] at c0 c1 c2 c3 c4
            have hxo : okI x := hLh.out.1 x (List.mem_of_getElem? hx.out)
            have hxl1 : 1 ≤ x.l := hxo.1
            have hxl4 : x.l ≤ 4 := hxo.2.1
            clear hxg
            have hx2 : Boxed5 (wr.alloc (.cells #[.int .i64 x.n, .int .i64 x.i, .int .i64 x.s, .bool x.g, .int .i64 x.l] 36)) wr.heap.size x := World.alloc_heap_new wr _
            have b01 : Below wr.heap.size wr (wr.alloc (.cells #[.int .i64 x.n, .int .i64 x.i, .int .i64 x.s, .bool x.g, .int .i64 x.l] 36)) := (Below.refl _ wr).alloc (Nat.le_refl _) _
            have hT2 := hfl.below b01
            have o8 := own_below ho8 b01
            have o9 := own_below ho9 b01
            have hb2 := btrans hb b01
            have hBib := hb.size
            have h9lt : ∀ j, u10.ownBlock = some j → j < wr.heap.size := fun j hj => (ho9.lt j hj).2
            go_upto_region 14 with fail
            generalize (wr.alloc (.cells #[.int .i64 x.n, .int .i64 x.i, .int .i64 x.s, .bool x.g, .int .i64 x.l] 36)) = W2 at *
            generalize wr.heap.size = Bi at *
            clear b01 ho8 ho9 hb c0 c1 c2 c3 c4 hfl
            have y0 := hx2.c0
            have y1 := hx2.c1
            have y2 := hx2.c2
            have y3 := hx2.c3
            have y4 := hx2.c4
            obtain ⟨u8l, hu8⟩ : ∃ m, Hid ((gF (tk L most) (L.take k)).length = m) := ⟨_, rfl⟩
            obtain ⟨u9l, hu9⟩ : ∃ m, Hid ((gL (tk L most) (L.take k)).length = m) := ⟨_, rfl⟩
            rw [hu8.out] at o8 hl8
            rw [hu9.out] at o9 hl9
            obtain ⟨hfc, -⟩ := hT2.at k hlt
            have hqk := hfe.out k x hlt hx.out
            cases hfk : f k
            · rw [hfk] at hfc hqk
              have hqt : ¬ tk L most x = true := by rw [← hqk]; simp
              have hgF : Hid (gF (tk L most) (L.take (k + 1)) = gF (tk L most) (L.take k)) := by
                unfold Hid
                rw [List.take_add_one, hx.out]
                exact (gF_snoc _ _ _).trans (by rw [if_neg hqt, List.append_nil])
              have hll : 0 < x.l := by omega
              have hgL : Hid (gL (tk L most) (L.take (k + 1)) = gL (tk L most) (L.take k) ++ [x]) := by
                unfold Hid
                rw [List.take_add_one, hx.out]
                exact (gL_snoc _ _ _).trans (by unfold leftI; rw [if_neg hqt, if_pos hll]; rfl)
              clear hqt hqk hfk
              go_wp2_with (at_builtin; refine wpList_append_own _ rfl _ _ 23 rfl w.heap.size 36 tI (fval It.zero) 5 40 Try.underlying23 hI0 hI1 hI2 hI3 rfl (by decide) _ _ _ rfl (o9.alloc _) ⟨W2.heap.size, 0, none⟩ 1 1 (fl [x]) rfl rfl (new_item W2 _ (by simp) (x)) fl_one (by unfold maxLen; omega) (by omega) (by have := hb2.size; simp at this ⊢; omega) ?_; intro v9' W7 ho9' hg7 _)
              have o87 := keep_row o9 hg7 o8 (by decide)
              have hT7 := keep_flags o9 hg7 hT2
              have hb7 := hb2.trans (keep_low o9 hg7 hb2.size)
              go_roundw
              case rel => exact ⟨k + 1, by omega, by go_num, by rw [hgF.out, hu8.out]; exact o87, by rw [hgL.out, List.length_append, fl_append, hu9.out]; exact ho9', hT7, hb7⟩
              case measure => simp [intOf]; omega
            · rw [hfk] at hfc hqk
              have hqt : tk L most x = true := hqk.symm
              have hgF : Hid (gF (tk L most) (L.take (k + 1)) = gF (tk L most) (L.take k) ++ [itF x]) := by
                unfold Hid
                rw [List.take_add_one, hx.out]
                exact (gF_snoc _ _ _).trans (by rw [if_pos hqt])
              by_cases hll : 0 < x.l - 1
              · have hgL : Hid (gL (tk L most) (L.take (k + 1)) = gL (tk L most) (L.take k) ++ [lessI x]) := by
                  unfold Hid
                  rw [List.take_add_one, hx.out]
                  exact (gL_snoc _ _ _).trans (by unfold leftI; rw [if_pos hqt, if_pos hll]; rfl)
                clear hqt hqk hfk
                go_wp2_with (first | (at_builtin; refine wpList_append_own _ rfl _ _ 26 rfl w.heap.size 34 tF (Ythfafmafhodlkaa.fval Fc.zero) 4 32 Try.underlying26 hF0 hF1 hF2 hF3 rfl (by decide) _ _ _ rfl (o8.alloc _) ⟨W2.heap.size, 0, none⟩ 1 1 (Ythfafmafhodlkaa.fl [itF x]) rfl rfl (new_fact W2 (itF x)) Ythfafmafhodlkaa.fl_one (by unfold maxLen; omega) (by omega) (by have := hb2.size; simp; omega) ?_; intro v8' W5 ho8' hg5 _; have hx5 := keep_other o8 hg5 hx2 (by intro cur e; cases e); have hT5 := keep_flags o8 hg5 hT2; have hb5 := hb2.trans (keep_low o8 hg5 hb2.size); have z0 := Boxed5.c0 hx5; have z1 := Boxed5.c1 hx5; have z2 := Boxed5.c2 hx5; have z3 := Boxed5.c3 hx5; have z4 := Boxed5.c4 hx5; have zf := Boxed5.f4 hx5; have gs := grown_set W5 Bi 4 (.int .i64 (x.l - 1)); have o86 := ho8'.kept gs (.inr (row_ne ho8' hx5 (by decide))); have o96 := (keep_row o8 hg5 o9 (by decide)).kept gs (.inr (fun e => by have := h9lt Bi e; omega)); have hT6 := set_flags (v := .int .i64 (x.l - 1)) hx5 hT5; have hb6 := hb5.trans (below_grown gs hBib (Nat.le_trans hb2.size (keep_low o8 hg5 hb2.size).size)); clear y0 y1 y2 y3 y4) | (at_builtin; refine wpList_append_own _ rfl _ _ 23 rfl w.heap.size 36 tI (fval It.zero) 5 40 Try.underlying23 hI0 hI1 hI2 hI3 rfl (by decide) _ _ _ rfl (o96.alloc _) ⟨W5.heap.size, 0, none⟩ 1 1 (fl [lessI x]) rfl rfl (new_item (W5.setCell ⟨Bi, 4, none⟩ (.int .i64 (x.l - 1))) _ (by simp) (lessI x)) fl_one (by unfold maxLen; omega) (by omega) (by have := hb6.size; simp at this ⊢; omega) ?_; intro v9' W7 ho9' hg7 _))
                have o87 := keep_row o96 hg7 o86 (by decide)
                have hT7 := keep_flags o96 hg7 hT6
                have hb7 := hb6.trans (keep_low o96 hg7 hb6.size)
                go_roundw
                case rel => exact ⟨k + 1, by omega, by go_num, by rw [hgF.out, List.length_append, Ythfafmafhodlkaa.fl_append, hu8.out]; exact o87, by rw [hgL.out, List.length_append, fl_append, hu9.out]; exact ho9', hT7, hb7⟩
                case measure => simp [intOf]; omega
              · have hgL : Hid (gL (tk L most) (L.take (k + 1)) = gL (tk L most) (L.take k)) := by
                  unfold Hid
                  rw [List.take_add_one, hx.out]
                  exact (gL_snoc _ _ _).trans (by unfold leftI; rw [if_pos hqt, if_neg hll]; simp)
                clear hqt hqk hfk
                go_wp2_with (at_builtin; refine wpList_append_own _ rfl _ _ 26 rfl w.heap.size 34 tF (Ythfafmafhodlkaa.fval Fc.zero) 4 32 Try.underlying26 hF0 hF1 hF2 hF3 rfl (by decide) _ _ _ rfl (o8.alloc _) ⟨W2.heap.size, 0, none⟩ 1 1 (Ythfafmafhodlkaa.fl [itF x]) rfl rfl (new_fact W2 (itF x)) Ythfafmafhodlkaa.fl_one (by unfold maxLen; omega) (by omega) (by have := hb2.size; simp; omega) ?_; intro v8' W5 ho8' hg5 _; have hx5 := keep_other o8 hg5 hx2 (by intro cur e; cases e); have hT5 := keep_flags o8 hg5 hT2; have hb5 := hb2.trans (keep_low o8 hg5 hb2.size); have z0 := Boxed5.c0 hx5; have z1 := Boxed5.c1 hx5; have z2 := Boxed5.c2 hx5; have z3 := Boxed5.c3 hx5; have z4 := Boxed5.c4 hx5; have zf := Boxed5.f4 hx5; have gs := grown_set W5 Bi 4 (.int .i64 (x.l - 1)); have o86 := ho8'.kept gs (.inr (row_ne ho8' hx5 (by decide))); have o96 := (keep_row o8 hg5 o9 (by decide)).kept gs (.inr (fun e => by have := h9lt Bi e; omega)); have hT6 := set_flags (v := .int .i64 (x.l - 1)) hx5 hT5; have hb6 := hb5.trans (below_grown gs hBib (Nat.le_trans hb2.size (keep_low o8 hg5 hb2.size).size)); clear y0 y1 y2 y3 y4)
                go_roundw
                case rel => exact ⟨k + 1, by omega, by go_num, by rw [hgF.out, List.length_append, Ythfafmafhodlkaa.fl_append, hu8.out]; exact o86, by rw [hgL.out, hu9.out]; exact o96, hT6, hb6⟩
                case measure => simp [intOf]; omega
          · obtain rfl : k = L.length := by omega
            rw [List.take_length] at ho8 ho9
            go_wp2
            go_ret2
            exact ⟨_, _, rfl, ho8, ho9, hb⟩
      · have hT' := tki_step hLh.out hT hlt hm hfm hmin
        have m0 : (0 : Int) ≤ (m : Int) := by omega
        have m1 : (m : Int) < (L.length : Int) := by omega
        have m2 : ¬ (m : Int) < 0 := by omega
        obtain ⟨c0, fz⟩ := hf3.at m hm
        have hf4 := hf3.set m
        have hb4 := hb3.setCell (p := ⟨bt, m, none⟩) hbw (.bool true)
        have hnl2 : n < L.length := by
          obtain ⟨xs, H, hp, _, h2, _, hff⟩ := hT'
          have := hp.length_eq
          rw [List.length_append] at this
          omega
        clear hmin hT hfm hf3 hb3
        go_wp2
        go_roundw
        case rel => exact ⟨n + 1, _, by go_num, hT', hf4, hb4⟩
        case measure => simp [intOf]; omega
    · have hfe : Hid (∀ k x, k < L.length → L[k]? = some x → f k = tk L most x) := tki_all hLh.out hT (.inl (by omega))
      have hf3 := hfl
      have hb3 := hb
      clear hT hfl hb
      obtain ⟨w3, hw3⟩ : ∃ w3, w3 = wr := ⟨_, rfl⟩
      rw [← hw3] at hf3 hb3 ⊢
      clear hw3
      go_wp2_with fail
      have hff := (hf3.below (balloc (.cells #[] 34) (Below.refl _ _))).below (balloc (.cells #[] 36) (Below.refl _ _))
      have hbb := balloc (.cells #[] 36) (balloc (.cells #[] 34) hb3)
      have oo8 : (w3.alloc (.cells #[] 34)).ownsRow w.heap.size 34 4 (.slice (some ⟨w3.heap.size, 0, none⟩) 0 0) 0 (Ythfafmafhodlkaa.fl []) := World.ownsRow_lit w3 #[] 0 hb3.size (by unfold maxLen; omega) rfl
      have oo8' := oo8.alloc (.cells #[] 36)
      have oo9 := own_emptyF (w3.alloc (.cells #[] 34)) w.heap.size (by have := hb3.size; simp; omega)
      obtain ⟨tF, hF0, hF1, hF2, hF3⟩ := info_parts infoFc
      obtain ⟨tI, hI0, hI1, hI2, hI3⟩ := info_parts infoI
      rw [World.size_alloc] at oo9
      generalize (w3.alloc (.cells #[] 34)).alloc (.cells #[] 36) = w4 at *
      generalize w3.heap.size + 1 = bb2 at *
      generalize w3.heap.size = bb1 at *
      clear oo8 hf3 hb3
      go_loopw [9, 10, 11] (fun v8 v9 i wr => ∃ k : Nat, k ≤ L.length ∧ i = .int .i64 k ∧ wr.ownsRow w.heap.size 34 4 v8 (gF (tk L most) (L.take k)).length (Ythfafmafhodlkaa.fl (gF (tk L most) (L.take k))) ∧ wr.ownsRow w.heap.size 36 5 v9 (gL (tk L most) (L.take k)).length (fl (gL (tk L most) (L.take k))) ∧ FB wr bt L.length f ∧ Below w.heap.size w wr) (fun _ _ i _ => L.length - (intOf i).toNat)
      case atStart => exact ⟨0, Nat.zero_le _, rfl, oo8', oo9, hff, hbb⟩
      case round =>
        clear oo8' oo9 hff hbb
        obtain ⟨k, hk, rfl, ho8, ho9, hfl, hb⟩ := hrel
        by_cases hlt : k < L.length
        · have i0 : (0 : Int) ≤ (k : Int) := by omega
          have i1 : (k : Int) < (L.length : Int) := by omega
          have hl8 : (gF (tk L most) (L.take k)).length ≤ 8 := by have := gF_len (tk L most) (L.take k); rw [List.length_take] at this; omega
          have hl9 : (gL (tk L most) (L.take k)).length ≤ 8 := by have := gL_len (tk L most) (L.take k); rw [List.length_take] at this; omega
          obtain ⟨bg, og, rfl, hbg, hfg⟩ := h0.out (by omega)
          obtain ⟨x, hx⟩ : ∃ x, Hid (L[k]? = some x) := ⟨_, List.getElem?_eq_getElem hlt⟩
          have hxg : L.getD k It.zero = x := by simp [List.getD, hx.out]
          obtain ⟨c0, c1, c2, c3, c4⟩ := (hfg.below hb hbg) k hlt
          dsimp only at c0 c1 c2 c3 c4
          rw [hxg] at c0 c1 c2 c3 c4
          have hxo : okI x := hLh.out.1 x (List.mem_of_getElem? hx.out)
          have hxl1 : 1 ≤ x.l := hxo.1
          have hxl4 : x.l ≤ 4 := hxo.2.1
          clear hxg
          have hx2 : Boxed5 (wr.alloc (.cells #[.int .i64 x.n, .int .i64 x.i, .int .i64 x.s, .bool x.g, .int .i64 x.l] 36)) wr.heap.size x := World.alloc_heap_new wr _
          have b01 : Below wr.heap.size wr (wr.alloc (.cells #[.int .i64 x.n, .int .i64 x.i, .int .i64 x.s, .bool x.g, .int .i64 x.l] 36)) := (Below.refl _ wr).alloc (Nat.le_refl _) _
          have hT2 := hfl.below b01
          have o8 := own_below ho8 b01
          have o9 := own_below ho9 b01
          have hb2 := btrans hb b01
          have hBib := hb.size
          have h9lt : ∀ j, u10.ownBlock = some j → j < wr.heap.size := fun j hj => (ho9.lt j hj).2
          go_upto_region 14 with fail
          generalize (wr.alloc (.cells #[.int .i64 x.n, .int .i64 x.i, .int .i64 x.s, .bool x.g, .int .i64 x.l] 36)) = W2 at *
          generalize wr.heap.size = Bi at *
          clear b01 ho8 ho9 hb c0 c1 c2 c3 c4 hfl
          have y0 := hx2.c0
          have y1 := hx2.c1
          have y2 := hx2.c2
          have y3 := hx2.c3
          have y4 := hx2.c4
          obtain ⟨u8l, hu8⟩ : ∃ m, Hid ((gF (tk L most) (L.take k)).length = m) := ⟨_, rfl⟩
          obtain ⟨u9l, hu9⟩ : ∃ m, Hid ((gL (tk L most) (L.take k)).length = m) := ⟨_, rfl⟩
          rw [hu8.out] at o8 hl8
          rw [hu9.out] at o9 hl9
          obtain ⟨hfc, -⟩ := hT2.at k hlt
          have hqk := hfe.out k x hlt hx.out
          cases hfk : f k
          · rw [hfk] at hfc hqk
            have hqt : ¬ tk L most x = true := by rw [← hqk]; simp
            have hgF : Hid (gF (tk L most) (L.take (k + 1)) = gF (tk L most) (L.take k)) := by
              unfold Hid
              rw [List.take_add_one, hx.out]
              exact (gF_snoc _ _ _).trans (by rw [if_neg hqt, List.append_nil])
            have hll : 0 < x.l := by omega
            have hgL : Hid (gL (tk L most) (L.take (k + 1)) = gL (tk L most) (L.take k) ++ [x]) := by
              unfold Hid
              rw [List.take_add_one, hx.out]
              exact (gL_snoc _ _ _).trans (by unfold leftI; rw [if_neg hqt, if_pos hll]; rfl)
            clear hqt hqk hfk
            go_wp2_with (at_builtin; refine wpList_append_own _ rfl _ _ 23 rfl w.heap.size 36 tI (fval It.zero) 5 40 Try.underlying23 hI0 hI1 hI2 hI3 rfl (by decide) _ _ _ rfl (o9.alloc _) ⟨W2.heap.size, 0, none⟩ 1 1 (fl [x]) rfl rfl (new_item W2 _ (by simp) (x)) fl_one (by unfold maxLen; omega) (by omega) (by have := hb2.size; simp at this ⊢; omega) ?_; intro v9' W7 ho9' hg7 _)
            have o87 := keep_row o9 hg7 o8 (by decide)
            have hT7 := keep_flags o9 hg7 hT2
            have hb7 := hb2.trans (keep_low o9 hg7 hb2.size)
            go_roundw
            case rel => exact ⟨k + 1, by omega, by go_num, by rw [hgF.out, hu8.out]; exact o87, by rw [hgL.out, List.length_append, fl_append, hu9.out]; exact ho9', hT7, hb7⟩
            case measure => simp [intOf]; omega
          · rw [hfk] at hfc hqk
            have hqt : tk L most x = true := hqk.symm
            have hgF : Hid (gF (tk L most) (L.take (k + 1)) = gF (tk L most) (L.take k) ++ [itF x]) := by
              unfold Hid
              rw [List.take_add_one, hx.out]
              exact (gF_snoc _ _ _).trans (by rw [if_pos hqt])
            by_cases hll : 0 < x.l - 1
            · have hgL : Hid (gL (tk L most) (L.take (k + 1)) = gL (tk L most) (L.take k) ++ [lessI x]) := by
                unfold Hid
                rw [List.take_add_one, hx.out]
                exact (gL_snoc _ _ _).trans (by unfold leftI; rw [if_pos hqt, if_pos hll]; rfl)
              clear hqt hqk hfk
              go_wp2_with (first | (at_builtin; refine wpList_append_own _ rfl _ _ 26 rfl w.heap.size 34 tF (Ythfafmafhodlkaa.fval Fc.zero) 4 32 Try.underlying26 hF0 hF1 hF2 hF3 rfl (by decide) _ _ _ rfl (o8.alloc _) ⟨W2.heap.size, 0, none⟩ 1 1 (Ythfafmafhodlkaa.fl [itF x]) rfl rfl (new_fact W2 (itF x)) Ythfafmafhodlkaa.fl_one (by unfold maxLen; omega) (by omega) (by have := hb2.size; simp; omega) ?_; intro v8' W5 ho8' hg5 _; have hx5 := keep_other o8 hg5 hx2 (by intro cur e; cases e); have hT5 := keep_flags o8 hg5 hT2; have hb5 := hb2.trans (keep_low o8 hg5 hb2.size); have z0 := Boxed5.c0 hx5; have z1 := Boxed5.c1 hx5; have z2 := Boxed5.c2 hx5; have z3 := Boxed5.c3 hx5; have z4 := Boxed5.c4 hx5; have zf := Boxed5.f4 hx5; have gs := grown_set W5 Bi 4 (.int .i64 (x.l - 1)); have o86 := ho8'.kept gs (.inr (row_ne ho8' hx5 (by decide))); have o96 := (keep_row o8 hg5 o9 (by decide)).kept gs (.inr (fun e => by have := h9lt Bi e; omega)); have hT6 := set_flags (v := .int .i64 (x.l - 1)) hx5 hT5; have hb6 := hb5.trans (below_grown gs hBib (Nat.le_trans hb2.size (keep_low o8 hg5 hb2.size).size)); clear y0 y1 y2 y3 y4) | (at_builtin; refine wpList_append_own _ rfl _ _ 23 rfl w.heap.size 36 tI (fval It.zero) 5 40 Try.underlying23 hI0 hI1 hI2 hI3 rfl (by decide) _ _ _ rfl (o96.alloc _) ⟨W5.heap.size, 0, none⟩ 1 1 (fl [lessI x]) rfl rfl (new_item (W5.setCell ⟨Bi, 4, none⟩ (.int .i64 (x.l - 1))) _ (by simp) (lessI x)) fl_one (by unfold maxLen; omega) (by omega) (by have := hb6.size; simp at this ⊢; omega) ?_; intro v9' W7 ho9' hg7 _))
              have o87 := keep_row o96 hg7 o86 (by decide)
              have hT7 := keep_flags o96 hg7 hT6
              have hb7 := hb6.trans (keep_low o96 hg7 hb6.size)
              go_roundw
              case rel => exact ⟨k + 1, by omega, by go_num, by rw [hgF.out, List.length_append, Ythfafmafhodlkaa.fl_append, hu8.out]; exact o87, by rw [hgL.out, List.length_append, fl_append, hu9.out]; exact ho9', hT7, hb7⟩
              case measure => simp [intOf]; omega
            · have hgL : Hid (gL (tk L most) (L.take (k + 1)) = gL (tk L most) (L.take k)) := by
                unfold Hid
                rw [List.take_add_one, hx.out]
                exact (gL_snoc _ _ _).trans (by unfold leftI; rw [if_pos hqt, if_neg hll]; simp)
              clear hqt hqk hfk
              go_wp2_with (at_builtin; refine wpList_append_own _ rfl _ _ 26 rfl w.heap.size 34 tF (Ythfafmafhodlkaa.fval Fc.zero) 4 32 Try.underlying26 hF0 hF1 hF2 hF3 rfl (by decide) _ _ _ rfl (o8.alloc _) ⟨W2.heap.size, 0, none⟩ 1 1 (Ythfafmafhodlkaa.fl [itF x]) rfl rfl (new_fact W2 (itF x)) Ythfafmafhodlkaa.fl_one (by unfold maxLen; omega) (by omega) (by have := hb2.size; simp; omega) ?_; intro v8' W5 ho8' hg5 _; have hx5 := keep_other o8 hg5 hx2 (by intro cur e; cases e); have hT5 := keep_flags o8 hg5 hT2; have hb5 := hb2.trans (keep_low o8 hg5 hb2.size); have z0 := Boxed5.c0 hx5; have z1 := Boxed5.c1 hx5; have z2 := Boxed5.c2 hx5; have z3 := Boxed5.c3 hx5; have z4 := Boxed5.c4 hx5; have zf := Boxed5.f4 hx5; have gs := grown_set W5 Bi 4 (.int .i64 (x.l - 1)); have o86 := ho8'.kept gs (.inr (row_ne ho8' hx5 (by decide))); have o96 := (keep_row o8 hg5 o9 (by decide)).kept gs (.inr (fun e => by have := h9lt Bi e; omega)); have hT6 := set_flags (v := .int .i64 (x.l - 1)) hx5 hT5; have hb6 := hb5.trans (below_grown gs hBib (Nat.le_trans hb2.size (keep_low o8 hg5 hb2.size).size)); clear y0 y1 y2 y3 y4)
              go_roundw
              case rel => exact ⟨k + 1, by omega, by go_num, by rw [hgF.out, List.length_append, Ythfafmafhodlkaa.fl_append, hu8.out]; exact o86, by rw [hgL.out, hu9.out]; exact o96, hT6, hb6⟩
              case measure => simp [intOf]; omega
        · obtain rfl : k = L.length := by omega
          rw [List.take_length] at ho8 ho9
          go_wp2
          go_ret2
          exact ⟨_, _, rfl, ho8, ho9, hb⟩
theorem own_mono {w : World} {base base' size n : Nat} {e : TypeId} {v : Value} {xs : List Value} (h : w.ownsRow base e size v n xs) (hb : base' ≤ base) : w.ownsRow base' e size v n xs := by
  refine ⟨h.1, h.2.imp id ?_⟩
  rintro ⟨g, cap, cur, e1, e2, e3⟩
  exact ⟨g, cap, cur, e1, Nat.le_trans hb e2, e3⟩
theorem scok_lit (a : Option Addr) (len cap : Nat) (F : Nat → It) (q : Bool) (w : World) (h : TSl w a len F) (hl : len ≤ 1048576) (hq : cokB len F = q) :
    Calls Try.prog 12 #[.slice a len cap] w fun e w' => e = .returned (.bool q) ∧ Below w.heap.size w w' := hq ▸ scok_any a len cap F w h hl
/-- the model's CastTake -/
theorem sctake_any (a : Option Addr) (cap : Nat) (L : List It) (most : Int) (w : World) (h : TSl w a L.length (fun k => L.getD k It.zero)) (hl : L.length ≤ 1048576) :
    Calls Try.prog 8 #[.slice a L.length cap, .int .i64 most] w fun e w' => ∃ v8 v9, e = .returned (.tuple #[v8, v9]) ∧ w'.ownsRow w.heap.size 34 4 v8 (takF L most).length (Ythfafmafhodlkaa.fl (takF L most)) ∧ w'.ownsRow w.heap.size 36 5 v9 (takL L most).length (fl (takL L most)) ∧ Below w.heap.size w w' := by
  cases hc : cokB L.length (fun k => L.getD k It.zero)
  · have e1 : takF L most = [] := by unfold takF; rw [hc]; rfl
    have e2 : takL L most = [] := by unfold takL; rw [hc]; rfl
    rw [e1, e2]
    have hC := scok_lit a L.length cap (fun k => L.getD k It.zero) false w h hl hc
    clear hc e1 e2
    go_enter Try.func8, Try.ntmps8
    go_wp2_with fail
    refine hC.mono ?_
    rintro e w1 ⟨rfl, b1⟩
    have o8 : (w1.alloc (.cells #[] 34)).ownsRow w.heap.size 34 4 (.slice (some ⟨w1.heap.size, 0, none⟩) 0 0) 0 (Ythfafmafhodlkaa.fl []) := World.ownsRow_lit w1 #[] 0 b1.size (by unfold maxLen; omega) rfl
    have o8' := o8.alloc (.cells #[] 36)
    have o9 := own_emptyF (w1.alloc (.cells #[] 34)) w.heap.size (by have := b1.size; simp; omega)
    rw [World.size_alloc] at o9
    have hb := balloc (.cells #[] 36) (balloc (.cells #[] 34) b1)
    go_wp2
    go_ret2
    exact ⟨_, _, rfl, o8', o9, hb⟩
  · obtain ⟨hL, h8⟩ := cok_okL hc
    have e1 : takF L most = gF (tk L most) L := by unfold takF; rw [if_pos hc]
    have e2 : takL L most = gL (tk L most) L := by unfold takL; rw [if_pos hc]
    rw [e1, e2]
    have hC := scok_lit a L.length cap (fun k => L.getD k It.zero) true w h hl hc
    have h0 : Hid (TSl w a L.length (fun k => L.getD k It.zero)) := h
    clear hc e1 e2 h
    go_enter Try.func8, Try.ntmps8
    go_wp2_with fail
    refine hC.mono ?_
    rintro e w1 ⟨rfl, b1⟩
    go_wp2_with fail
    refine (stake_any a cap L most w1 (h0.out.below b1) h8 hL).mono ?_
    rintro e w2 ⟨v8, v9, rfl, o8, o9, b2⟩
    go_wp2
    go_ret2
    exact ⟨v8, v9, rfl, own_mono o8 b1.size, own_mono o9 b1.size, btrans b1 b2⟩
end Go.Proofs.Ythfafmafhodlkaa.I
