/- What is new in a view: the model's way. -/
import Derived.Test.YtfmjjafgipikeaaNews
namespace Go.Proofs.Ytfmjjafgipikeaa.W
open Go.ChangeShapes Go.WideShapes Go.ChangeAt Go.RowKit
attribute [local go_sem ↓] Go.wp_at_zero Go.wp_at_succ
theorem step_appF {w : World} {ops : Array Oper} {o : Oper} {a : Act} {K : Act → World → Prop} {Q : Exit → Act → World → Prop} {E : Prop} (hgd : o.guard = none) (s x : Operand)
    (ho : o.op = .call { callee := .builtin .append, args := #[s, x], argTypes := #[26, 26] })
    (base : Nat) (v : Value) (n : Nat) (T : List It) (hs : a.eval s = v) (hv : v ≠ .slice none 0 0) (hown : w.ownsRow base 32 5 v n (fl T))
    (ao : Option Addr) (g o' : Nat) (hao : ao = some ⟨g, o', none⟩) (m c : Nat) (T' : List It) (hx : a.eval x = .slice ao m c) (hl : T'.length = m)
    (hnews : ItemsIn w g o' m (fun k => T'.getD k It.zero)) (nm : Nat) (hnm : n + m = nm) (hn : nm ≤ 2000000) (hbase : base ≤ w.heap.size)
    (h : ∀ g' cap' w', w'.ownsRow base 32 5 (.slice (some ⟨g', 0, none⟩) nm cap') nm (fl (T ++ T')) → w.grownBy w' v.ownBlock → nm ≤ cap' → K (a.put o.dst (.slice (some ⟨g', 0, none⟩) nm cap')) w') :
    if Region.wanted o (yielded ops a.tmps) = true then Oper.wp Try.prog o a w K Q else E := by
  have hw : Region.wanted o (yielded ops a.tmps) = true := by simp [Region.wanted, hgd]
  rw [if_pos hw]
  subst hao hnm
  obtain ⟨ti, hi, hz0, hz1, hz2⟩ := info_parts info78
  refine wp_append_own w s x 26 ho base 32 ti (fval It.zero) 5 40 Try.underlying26 hi hz0 hz1 hz2 rfl (by decide) v n (fl T) hs hown ⟨g, o', none⟩ m c (fl T') hx (by rw [fl_len, hl]) (facts_cell hnews hl) fl_one (by unfold maxLen; omega) (by omega) hbase (fun v' w' h1 h2 h3 => ?_)
  rw [← fl_append] at h1
  rcases own_sliceF h1 with ⟨e, _⟩ | ⟨g', cap', rfl, _, _, hc⟩
  · exact absurd (h3.1 e).1 hv
  · exact h g' cap' w' h1 h2 hc
theorem own_neB {w : World} {base n b : Nat} {v : Value} {xs : List Value} (h : w.ownsRow base 32 5 v n xs) (hb : b < base) : some b ≠ v.ownBlock := by
  rcases own_sliceF h with ⟨rfl, _⟩ | ⟨g, cap, rfl, h1, h2, _⟩
  · simp [Value.ownBlock]
  · intro e
    simp [Value.ownBlock] at e
    omega
/-- what a fact says that a table did not -/
def nw (T : List Fc) (g : Fc) : Option It := match tget T g.n with
  | none => some ⟨g.n, g.i, g.s, g.g, 0⟩
  | some f => if f.i = g.i ∧ f.s = g.s ∧ f.g = g.g then none else some ⟨g.n, g.i, g.s, g.g, f.s⟩
def newsL (T U : List Fc) : List It := U.filterMap (nw T)
theorem newsL_succ (T : List Fc) (G : Nat → Fc) (k : Nat) : newsL T (Go.Proofs.Ytfmjjafgipikeaa.seqF G (k + 1)) = newsL T (Go.Proofs.Ytfmjjafgipikeaa.seqF G k) ++ (nw T (G k)).toList := by
  unfold newsL
  rw [Go.Proofs.Ytfmjjafgipikeaa.seqF_succ, List.filterMap_append]
  cases h : nw T (G k) <;> simp [h]
theorem newsL_len (T U : List Fc) : (newsL T U).length ≤ U.length := List.length_filterMap_le _ _
def nv (len : Nat) (F : Nat → Fc) (len2 : Nat) (G : Nat → Fc) : List It := if (tokB len F && tokB len2 G) = true then newsL (Go.Proofs.Ytfmjjafgipikeaa.seqF F len) (Go.Proofs.Ytfmjjafgipikeaa.seqF G len2) else []
theorem tget_no {T : List Fc} {k : Int} (h : ∀ g ∈ T, g.n ≠ k) : tget T k = none := by
  unfold tget
  rw [List.find?_eq_none]
  intro g hg
  simpa using h g hg
set_option maxRecDepth 20000 in
set_option maxHeartbeats 8000000 in
theorem sview_any (a : Option Addr) (len cap : Nat) (F : Nat → Fc) (a2 : Option Addr) (len2 cap2 : Nat) (G : Nat → Fc) (w : World) (h : FSl w a len F) (h2 : FSl w a2 len2 G) (hl : len ≤ 1048576) (hl2 : len2 ≤ 1048576) :
    Calls Try.prog 7 #[.slice a len cap, .slice a2 len2 cap2] w fun e w' => ∃ v, e = .returned v ∧ w'.ownsRow w.heap.size 32 5 v (nv len F len2 G).length (fl (nv len F len2 G)) ∧ Below w.heap.size w w' := by
  have E0 := own_emptyF w w.heap.size (Nat.le_refl _)
  have B0 : Below w.heap.size w (w.alloc (.cells #[] 32)) := balloc _ (Below.refl _ _)
  cases hok0 : tokB len F
  · have hok : Hid (tokB len F = false) := hok0
    have e1 : nv len F len2 G = [] := by unfold nv; rw [hok0]; rfl
    rw [e1]
    clear hok0 e1
    go_enter Try.func7, Try.ntmps7
    go_wp2_with fail
    generalize (w.alloc (.cells #[] 32)) = W0 at *
    refine (stok_lit _ len cap F false _ (h.below B0) hl hok.out).mono ?_
    rintro r w1 ⟨rfl, b1⟩
    have O1 := own_below E0 b1
    have B1 := btrans B0 b1
    go_wp2
    go_ret
    exact ⟨_, rfl, O1, B1⟩
  · have hok : Hid (tokB len F = true) := hok0
    cases hok1 : tokB len2 G
    · have hokG : Hid (tokB len2 G = false) := hok1
      have e1 : nv len F len2 G = [] := by unfold nv; rw [hok0, hok1]; rfl
      rw [e1]
      clear hok0 hok1 e1
      go_enter Try.func7, Try.ntmps7
      go_wp2_with fail
      generalize (w.alloc (.cells #[] 32)) = W0 at *
      refine (stok_lit _ len cap F true _ (h.below B0) hl hok.out).mono ?_
      rintro r w1 ⟨rfl, b1⟩
      have O1 := own_below E0 b1
      have B1 := btrans B0 b1
      clear E0 B0 b1
      go_wp2_with fail
      refine (stok_lit a2 len2 cap2 G false _ (h2.below B1) hl2 hokG.out).mono ?_
      rintro r w2 ⟨rfl, b2⟩
      replace O1 := own_below O1 b2
      have B2 := btrans B1 b2
      go_wp2
      go_ret
      exact ⟨_, rfl, O1, B2⟩
    · have hokG : Hid (tokB len2 G = true) := hok1
      have e1 : nv len F len2 G = newsL (Go.Proofs.Ytfmjjafgipikeaa.seqF F len) (Go.Proofs.Ytfmjjafgipikeaa.seqF G len2) := by unfold nv; rw [hok0, hok1]; rfl
      rw [e1]
      obtain ⟨t1, t2⟩ := tok_all hok0
      have hm8 := tok_len hok1
      have hA := seqF_asc t2 len (Nat.le_refl _)
      have hgD : ∀ j, j < len → (Go.Proofs.Ytfmjjafgipikeaa.seqF F len).getD j Fc.zero = F j := fun j hj => Go.Proofs.Ytfmjjafgipikeaa.seqF_getD F hj
      have hTl := Go.Proofs.Ytfmjjafgipikeaa.seqF_len F len
      have hTm : ∀ x, x ∈ Go.Proofs.Ytfmjjafgipikeaa.seqF F len → ∃ j, j < len ∧ F j = x := fun x hx => Go.Proofs.Ytfmjjafgipikeaa.seqF_mem hx
      clear hok0 hok1 e1 t1 t2
      obtain ⟨T, hT⟩ : ∃ T, Hid (Go.Proofs.Ytfmjjafgipikeaa.seqF F len = T) := ⟨_, rfl⟩
      rw [hT.out] at hA hTl hTm hgD
      rw [hT.out]
      clear hT
      go_enter Try.func7, Try.ntmps7
      go_wp2_with fail
      generalize (w.alloc (.cells #[] 32)) = W0 at *
      refine (stok_lit _ len cap F true _ (h.below B0) hl hok.out).mono ?_
      rintro r w1 ⟨rfl, b1⟩
      have O1 := own_below E0 b1
      have B1 := btrans B0 b1
      clear E0 B0 b1
      go_wp2_with fail
      refine (stok_lit a2 len2 cap2 G true _ (h2.below B1) hl2 hokG.out).mono ?_
      rintro r w2 ⟨rfl, b2⟩
      replace O1 := own_below O1 b2
      have B2 := btrans B1 b2
      clear B1 b2
      go_wp2_with fail
      go_loopw [5, 6] (fun x i wr => ∃ (k : Nat) (ax : Option Addr) (cx nO : Nat), i = .int .i64 k ∧ k ≤ len2 ∧ x = .slice ax nO cx ∧ Hid ((newsL T (Go.Proofs.Ytfmjjafgipikeaa.seqF G k)).length = nO) ∧ Value.slice ax nO cx ≠ .slice none 0 0 ∧ wr.ownsRow w.heap.size 32 5 (.slice ax nO cx) nO (fl (newsL T (Go.Proofs.Ytfmjjafgipikeaa.seqF G k))) ∧ Below w.heap.size w wr) (fun _ i _ => len2 - (intOf i).toNat)
      case atStart => exact ⟨0, _, _, 0, rfl, Nat.zero_le _, rfl, rfl, by simp, O1, B2⟩
      case round =>
        obtain ⟨k, ax, cx, nO, rfl, hk, rfl, hO, hnx, hox, hb⟩ := hrel
        clear O1 B2
        have hnO : nO ≤ 8 := by
          have := newsL_len T (Go.Proofs.Ytfmjjafgipikeaa.seqF G k)
          rw [hO.out, Go.Proofs.Ytfmjjafgipikeaa.seqF_len] at this
          omega
        by_cases hlt : k < len2
        · have i0 : (0 : Int) ≤ (k : Int) := by omega
          have i1 : (k : Int) < (len2 : Int) := by omega
          obtain ⟨bg, og, rfl, hbg, hfg⟩ := h2 (by omega)
          obtain ⟨c0, c1, c2, c3⟩ := (hfg.below hb hbg) k hlt
          have hs0 := newsL_succ T G k
          generalize G k = g at *
          go_wp2_with fail
          refine (find_any a len cap F g.n _ (h.below hb) hl).mono ?_
          rintro r wf ⟨r0, rfl, hFd, hw⟩
          obtain rfl := hw.symm
          rcases hFd with ⟨rfl, hno⟩ | ⟨j, hj, rfl, hjn, _⟩
          · have hN : tget T g.n = none := tget_no (fun x hx => by obtain ⟨j, hj, rfl⟩ := hTm x hx; exact hno j hj)
            have hnw : nw T g = some ⟨g.n, g.i, g.s, g.g, 0⟩ := by unfold nw; rw [hN]
            rw [hnw] at hs0
            have hs : Hid (newsL T (Go.Proofs.Ytfmjjafgipikeaa.seqF G (k + 1)) = newsL T (Go.Proofs.Ytfmjjafgipikeaa.seqF G k) ++ [⟨g.n, g.i, g.s, g.g, 0⟩]) := hs0
            have nx := new_one wr ⟨g.n, g.i, g.s, g.g, 0⟩
            clear hs0 hnw hN hno hTm hgD hTl
            go_wp2_with (at_builtin; refine wpList_appF rfl _ _ rfl w.heap.size (.slice ax nO cx) nO _ rfl hnx (hox.alloc _) _ 0 1 1 [⟨g.n, g.i, g.s, g.g, 0⟩] rfl rfl nx (nO + 1) rfl (by omega) (by have := hb.size; simp; omega) ?_; intro g5 cap5 w5 o5 gr5 hc5)
            have B5 := own_grow (balloc (.cells #[.int .i64 g.n, .int .i64 g.i, .int .i64 g.s, .bool g.g, .int .i64 0] 32) hb) (by have := hb.size; simp; omega) (hox.alloc _) gr5
            have hl5 : Hid ((newsL T (Go.Proofs.Ytfmjjafgipikeaa.seqF G (k + 1))).length = nO + 1) := by
              show (newsL T (Go.Proofs.Ytfmjjafgipikeaa.seqF G (k + 1))).length = nO + 1
              rw [hs.out, List.length_append, hO.out]
              rfl
            rw [← hs.out] at o5
            clear hox gr5 c0 c1 c2 c3 nx hb
            go_wp2
            go_roundw
            case rel => exact ⟨k + 1, _, _, _, by go_num, by omega, rfl, hl5, by simp, o5, B5⟩
            case measure => simp [intOf]; omega
          · have hgt := tget_at j hA (by rw [hTl]; exact hj)
            rw [hgD j hj] at hgt
            have hj1 : (0 : Int) ≤ (j : Int) := by omega
            have hj2 : (j : Int) < (len : Int) := by omega
            have hj3 : ¬ (j : Int) < 0 := by omega
            obtain ⟨bf, of, rfl, hbf, hff⟩ := h (by omega)
            obtain ⟨e0, e1, e2, e3⟩ := (hff.below hb hbf) j hj
            generalize F j = f at *
            rw [hjn] at e0 hgt
            have hnw : nw T g = if f.i = g.i ∧ f.s = g.s ∧ f.g = g.g then none else some ⟨g.n, g.i, g.s, g.g, f.s⟩ := by unfold nw; rw [hgt]
            clear hgt hjn hTm hgD hTl
            by_cases h1 : f.i = g.i
            · by_cases h2' : f.s = g.s
              · by_cases h3 : f.g = g.g
                · rw [if_pos ⟨h1, h2', h3⟩] at hnw
                  rw [hnw, Option.toList_none, List.append_nil] at hs0
                  have hs : Hid (newsL T (Go.Proofs.Ytfmjjafgipikeaa.seqF G (k + 1)) = newsL T (Go.Proofs.Ytfmjjafgipikeaa.seqF G k)) := hs0
                  rw [h1] at e1
                  rw [h2'] at e2
                  rw [h3] at e3
                  clear hs0 hnw h1 h2' h3
                  go_wp2_with fail
                  go_quiet (fail)
                  go_wp2
                  go_roundw
                  case rel => exact ⟨k + 1, ax, cx, nO, by go_num, by omega, rfl, by rw [hs.out]; exact hO, hnx, by rw [hs.out]; exact hox, QB hb⟩
                  case measure => simp [intOf]; omega
                · have q1 : (f.g == g.g) = false := by simp [h3]
                  have q2 : ¬ f.g = g.g := h3
                  rw [if_neg (fun hh => h3 hh.2.2)] at hnw
                  rw [h1] at e1
                  rw [h2'] at e2 hnw
                  clear h1 h2'
                  have hs : Hid (newsL T (Go.Proofs.Ytfmjjafgipikeaa.seqF G (k + 1)) = newsL T (Go.Proofs.Ytfmjjafgipikeaa.seqF G k) ++ [⟨g.n, g.i, g.s, g.g, g.s⟩]) := by rw [hnw] at hs0; exact hs0
                  clear hs0 hnw
                  go_wp2_with fail
                  go_quiet (fail)
                  go_wp2_with fail
                  have hbq : Below w.heap.size w (wr.drewN nq) := QB hb
                  have hoq : (wr.drewN nq).ownsRow _ _ _ _ _ _ := hox
                  replace c0 : (wr.drewN nq).cell? _ = _ := c0
                  replace c1 : (wr.drewN nq).cell? _ = _ := c1
                  replace c2 : (wr.drewN nq).cell? _ = _ := c2
                  replace c3 : (wr.drewN nq).cell? _ = _ := c3
                  replace e2 : (wr.drewN nq).cell? _ = _ := e2
                  clear hb hox e0 e1 e3
                  generalize (wr.drewN nq) = WW at *
                  refine wp_region_held_drew (S := fun w' => w'.cell? ⟨bg, og + k * 4, none⟩ = some (.int .i64 g.n) ∧ w'.cell? ⟨bg, og + k * 4 + 1, none⟩ = some (.int .i64 g.i) ∧ w'.cell? ⟨bg, og + k * 4 + 2, none⟩ = some (.int .i64 g.s) ∧ w'.cell? ⟨bg, og + k * 4 + 3, none⟩ = some (.bool g.g) ∧ w'.cell? ⟨bf, of + j * 4 + 2, none⟩ = some (.int .i64 g.s)) (by kernel_rfl) ?_ (fun hHeld => ?_)
                  · exact ⟨keep_drew c0, keep_drew c1, keep_drew c2, keep_drew c3, keep_drew e2⟩
                  refine wpAnyH_take (i := 0) (oi := { dst := some 50, op := Go.Op.move (Go.Operand.tmp 5), type := 26, pos := "l31_view.go:16", after := #[], guard := none }) (v := ?_) rfl (by kernel_rfl) (by kernel_rfl) (by kernel_rfl) (fun _ _ _ h => h) (Or.inl ⟨by rfl, ?_⟩) (by assumption) ?_
                  rotate_left 1
                  · (intro w hSw; (try dsimp only at hSw); go_simp; try with_reducible rfl)
                  (try simp only [Act.put, List.setIfInBounds_toArray, List.set_cons_zero, List.set_cons_succ])
                  refine wpAnyH_take (i := 1) (oi := { dst := some 51, op := Go.Op.move (Go.Operand.tmp 1), type := 23, pos := "l31_view.go:16", after := #[], guard := none }) (v := ?_) rfl (by kernel_rfl) (by kernel_rfl) (by kernel_rfl) (fun _ _ _ h => h) (Or.inl ⟨by rfl, ?_⟩) (by assumption) ?_
                  rotate_left 1
                  · (intro w hSw; (try dsimp only at hSw); go_simp; try with_reducible rfl)
                  (try simp only [Act.put, List.setIfInBounds_toArray, List.set_cons_zero, List.set_cons_succ])
                  refine wpAnyH_take (i := 2) (oi := { dst := some 52, op := Go.Op.move (Go.Operand.tmp 6), type := 3, pos := "l31_view.go:16", after := #[], guard := none }) (v := ?_) rfl (by kernel_rfl) (by kernel_rfl) (by kernel_rfl) (fun _ _ _ h => h) (Or.inl ⟨by rfl, ?_⟩) (by assumption) ?_
                  rotate_left 1
                  · (intro w hSw; (try dsimp only at hSw); go_simp; try with_reducible rfl)
                  (try simp only [Act.put, List.setIfInBounds_toArray, List.set_cons_zero, List.set_cons_succ])
                  refine wpAnyH_take (i := 3) (oi := { dst := some 53, op := Go.Op.indexAddr 23 (Go.Operand.tmp 51) (Go.Operand.tmp 52), type := 0, pos := "l31_view.go:16", after := #[{ on := 1, ground := Go.Ground.data }, { on := 2, ground := Go.Ground.data }], guard := none }) (v := ?_) rfl (by kernel_rfl) (by kernel_rfl) (by kernel_rfl) (fun _ _ _ h => h) (Or.inl ⟨by rfl, ?_⟩) (by assumption) ?_
                  rotate_left 1
                  · (intro w hSw; (try dsimp only at hSw); go_simp; try with_reducible rfl)
                  (try simp only [Act.put, List.setIfInBounds_toArray, List.set_cons_zero, List.set_cons_succ])
                  refine wpAnyH_take (i := 4) (oi := { dst := some 54, op := Go.Op.load 30 (Go.Operand.tmp 53), type := 30, pos := "l31_view.go:16", after := #[{ on := 3, ground := Go.Ground.data }], guard := none }) (v := ?_) rfl (by kernel_rfl) (by kernel_rfl) (by kernel_rfl) (fun _ _ _ h => h) (Or.inl ⟨by rfl, ?_⟩) (by assumption) ?_
                  rotate_left 1
                  · (intro w hSw; (try dsimp only at hSw); go_simp; try with_reducible rfl)
                  (try simp only [Act.put, List.setIfInBounds_toArray, List.set_cons_zero, List.set_cons_succ])
                  refine wpAnyH_take (i := 5) (oi := { dst := some 55, op := Go.Op.move (Go.Operand.tmp 0), type := 23, pos := "l31_view.go:16", after := #[], guard := none }) (v := ?_) rfl (by kernel_rfl) (by kernel_rfl) (by kernel_rfl) (fun _ _ _ h => h) (Or.inl ⟨by rfl, ?_⟩) (by assumption) ?_
                  rotate_left 1
                  · (intro w hSw; (try dsimp only at hSw); go_simp; try with_reducible rfl)
                  (try simp only [Act.put, List.setIfInBounds_toArray, List.set_cons_zero, List.set_cons_succ])
                  refine wpAnyH_take (i := 6) (oi := { dst := some 56, op := Go.Op.move (Go.Operand.tmp 7), type := 3, pos := "l31_view.go:16", after := #[], guard := none }) (v := ?_) rfl (by kernel_rfl) (by kernel_rfl) (by kernel_rfl) (fun _ _ _ h => h) (Or.inl ⟨by rfl, ?_⟩) (by assumption) ?_
                  rotate_left 1
                  · (intro w hSw; (try dsimp only at hSw); go_simp; try with_reducible rfl)
                  (try simp only [Act.put, List.setIfInBounds_toArray, List.set_cons_zero, List.set_cons_succ])
                  refine wpAnyH_take (i := 7) (oi := { dst := some 57, op := Go.Op.indexAddr 23 (Go.Operand.tmp 55) (Go.Operand.tmp 56), type := 0, pos := "l31_view.go:16", after := #[{ on := 5, ground := Go.Ground.data }, { on := 6, ground := Go.Ground.data }], guard := none }) (v := ?_) rfl (by kernel_rfl) (by kernel_rfl) (by kernel_rfl) (fun _ _ _ h => h) (Or.inl ⟨by rfl, ?_⟩) (by assumption) ?_
                  rotate_left 1
                  · (intro w hSw; (try dsimp only at hSw); go_simp; try with_reducible rfl)
                  (try simp only [Act.put, List.setIfInBounds_toArray, List.set_cons_zero, List.set_cons_succ])
                  refine wpAnyH_take (i := 8) (oi := { dst := some 58, op := Go.Op.fieldAddr 30 (Go.Operand.tmp 57) 2, type := 0, pos := "l31_view.go:16", after := #[{ on := 7, ground := Go.Ground.data }], guard := none }) (v := ?_) rfl (by kernel_rfl) (by kernel_rfl) (by kernel_rfl) (fun _ _ _ h => h) (Or.inl ⟨by rfl, ?_⟩) (by assumption) ?_
                  rotate_left 1
                  · (intro w hSw; (try dsimp only at hSw); go_simp; try with_reducible rfl)
                  (try simp only [Act.put, List.setIfInBounds_toArray, List.set_cons_zero, List.set_cons_succ])
                  refine wpAnyH_take (i := 9) (oi := { dst := some 59, op := Go.Op.load 3 (Go.Operand.tmp 58), type := 3, pos := "l31_view.go:16", after := #[{ on := 8, ground := Go.Ground.data }], guard := none }) (v := ?_) rfl (by kernel_rfl) (by kernel_rfl) (by kernel_rfl) (fun _ _ _ h => h) (Or.inl ⟨by rfl, ?_⟩) (by assumption) ?_
                  rotate_left 1
                  · (intro w hSw; (try dsimp only at hSw); go_simp; try with_reducible rfl)
                  (try simp only [Act.put, List.setIfInBounds_toArray, List.set_cons_zero, List.set_cons_succ])
                  refine wpAnyH_take (i := 10) (oi := { dst := some 60, op := Go.Op.build 32 #[(0, Go.Operand.tmp 54), (1, Go.Operand.tmp 59)], type := 32, pos := "l31_view.go:16", after := #[{ on := 4, ground := Go.Ground.data }, { on := 9, ground := Go.Ground.data }], guard := none }) (v := ?_) rfl (by kernel_rfl) (by kernel_rfl) (by kernel_rfl) (fun _ _ _ h => h) (Or.inl ⟨by rfl, ?_⟩) (by assumption) ?_
                  rotate_left 1
                  · (intro w hSw; (try dsimp only at hSw); go_simp; try with_reducible rfl)
                  (try simp only [Act.put, List.setIfInBounds_toArray, List.set_cons_zero, List.set_cons_succ])
                  refine wpAnyH_ready (rs := [11]) (by kernel_rfl) (by simp) ?_
                  refine AllReadyH.cons (o := { dst := some 61, op := Go.Op.buildSlice 26 1 #[(0, Go.Operand.tmp 60)], type := 26, pos := "l31_view.go:16", after := #[{ on := 10, ground := Go.Ground.data }], guard := none }) rfl (fun K hK => ?_) AllReadyH.nil
                  go_simp
                  have nx := new_one WW.drew ⟨g.n, g.i, g.s, g.g, g.s⟩
                  have z0 := keep_alloc (.cells #[.int .i64 g.n, .int .i64 g.i, .int .i64 g.s, .bool g.g, .int .i64 g.s] 32) (keep_drew c0)
                  have z1 := keep_alloc (.cells #[.int .i64 g.n, .int .i64 g.i, .int .i64 g.s, .bool g.g, .int .i64 g.s] 32) (keep_drew c1)
                  have z2 := keep_alloc (.cells #[.int .i64 g.n, .int .i64 g.i, .int .i64 g.s, .bool g.g, .int .i64 g.s] 32) (keep_drew c2)
                  have z3 := keep_alloc (.cells #[.int .i64 g.n, .int .i64 g.i, .int .i64 g.s, .bool g.g, .int .i64 g.s] 32) (keep_drew c3)
                  have z4 := keep_alloc (.cells #[.int .i64 g.n, .int .i64 g.i, .int .i64 g.s, .bool g.g, .int .i64 g.s] 32) (keep_drew e2)
                  have oo2 := (show WW.drew.ownsRow _ _ _ _ _ _ from hoq).alloc (.cells #[.int .i64 g.n, .int .i64 g.i, .int .i64 g.s, .bool g.g, .int .i64 g.s] 32)
                  have hb2 : Below w.heap.size w (WW.drew.alloc (.cells #[.int .i64 g.n, .int .i64 g.i, .int .i64 g.s, .bool g.g, .int .i64 g.s] 32)) := balloc _ (QB1 hbq)
                  refine hK.out _ _ ?_ (fun hHeld => ?_)
                  · (try dsimp only); exact ⟨z0, z1, z2, z3, z4⟩
                  clear hK K
                  (try simp only [Act.put, List.setIfInBounds_toArray, List.set_cons_zero, List.set_cons_succ])
                  refine wpAnyH_ready (rs := [12]) (by kernel_rfl) (by simp) ?_
                  refine AllReadyH.cons (o := { dst := some 62, op := Go.Op.call { callee := Go.Callee.builtin Go.Builtin.append, args := #[Go.Operand.tmp 50, Go.Operand.tmp 61], argTypes := #[26, 26] }, type := 26, pos := "l31_view.go:16", after := #[{ on := 0, ground := Go.Ground.data }, { on := 11, ground := Go.Ground.data }], guard := none }) rfl (fun K hK => ?_) AllReadyH.nil
                  refine step_appF (by rfl) _ _ (by rfl) w.heap.size (.slice ax nO cx) nO _ (by rfl) hnx oo2 (some ⟨WW.heap.size, 0, none⟩) WW.heap.size 0 rfl 1 1 [⟨g.n, g.i, g.s, g.g, g.s⟩] (by rfl) rfl nx (nO + 1) rfl (by omega) hb2.size ?_
                  intro g5 cap5 w5 o5 gr5 hc5
                  have B5 := own_grow hb2 hb2.size oo2 gr5
                  have y0 := gr5.cell z0 (own_neB hoq hbg)
                  have y1 := gr5.cell z1 (own_neB hoq hbg)
                  have y2 := gr5.cell z2 (own_neB hoq hbg)
                  have y3 := gr5.cell z3 (own_neB hoq hbg)
                  have y4 := gr5.cell z4 (own_neB hoq hbf)
                  clear z0 z1 z2 z3 z4 gr5 oo2 hb2 nx c0 c1 c2 c3 e2 hoq hbq
                  refine hK.out _ _ ?_ (fun hHeld => ?_)
                  · (try dsimp only); exact ⟨y0, y1, y2, y3, y4⟩
                  clear hK K
                  (try simp only [Act.put, List.setIfInBounds_toArray, List.set_cons_zero, List.set_cons_succ])
                  refine wpAnyH_take (i := 13) (oi := { dst := some 5, op := Go.Op.assign (Go.Operand.tmp 62), type := 26, pos := "l31_view.go:16", after := #[{ on := 12, ground := Go.Ground.data }, { on := 12, ground := Go.Ground.chain }, { on := 0, ground := Go.Ground.phase }, { on := 1, ground := Go.Ground.phase }, { on := 2, ground := Go.Ground.phase }, { on := 3, ground := Go.Ground.phase }, { on := 4, ground := Go.Ground.phase }, { on := 5, ground := Go.Ground.phase }, { on := 6, ground := Go.Ground.phase }, { on := 7, ground := Go.Ground.phase }, { on := 8, ground := Go.Ground.phase }, { on := 9, ground := Go.Ground.phase }, { on := 10, ground := Go.Ground.phase }, { on := 11, ground := Go.Ground.phase }, { on := 12, ground := Go.Ground.phase }], guard := none }) (v := ?_) rfl (by kernel_rfl) (by kernel_rfl) (by kernel_rfl) (fun _ _ _ h => h) (Or.inl ⟨by rfl, ?_⟩) (by assumption) ?_
                  rotate_left 1
                  · (intro w hSw; (try dsimp only at hSw); go_simp; try with_reducible rfl)
                  (try simp only [Act.put, List.setIfInBounds_toArray, List.set_cons_zero, List.set_cons_succ])
                  refine wpAnyH_done (by kernel_rfl) ?_ _
                  clear y0 y1 y2 y3 y4
                  have hl5 : Hid ((newsL T (Go.Proofs.Ytfmjjafgipikeaa.seqF G (k + 1))).length = nO + 1) := by
                    show (newsL T (Go.Proofs.Ytfmjjafgipikeaa.seqF G (k + 1))).length = nO + 1
                    rw [hs.out, List.length_append, hO.out]
                    rfl
                  rw [← hs.out] at o5
                  go_wp2
                  go_roundw
                  case rel => exact ⟨k + 1, _, _, _, by go_num, by omega, rfl, hl5, by simp, o5, B5⟩
                  case measure => simp [intOf]; omega
              · have q1 : (f.s == g.s) = false := by simp [h2']
                have q2 : ¬ f.s = g.s := h2'
                rw [if_neg (fun hh => h2' hh.2.1)] at hnw
                rw [h1] at e1
                clear h1
                have hs : Hid (newsL T (Go.Proofs.Ytfmjjafgipikeaa.seqF G (k + 1)) = newsL T (Go.Proofs.Ytfmjjafgipikeaa.seqF G k) ++ [⟨g.n, g.i, g.s, g.g, f.s⟩]) := by rw [hnw] at hs0; exact hs0
                clear hs0 hnw
                go_wp2_with fail
                go_quiet (fail)
                go_wp2_with fail
                have hbq : Below w.heap.size w (wr.drewN nq) := QB hb
                have hoq : (wr.drewN nq).ownsRow _ _ _ _ _ _ := hox
                replace c0 : (wr.drewN nq).cell? _ = _ := c0
                replace c1 : (wr.drewN nq).cell? _ = _ := c1
                replace c2 : (wr.drewN nq).cell? _ = _ := c2
                replace c3 : (wr.drewN nq).cell? _ = _ := c3
                replace e2 : (wr.drewN nq).cell? _ = _ := e2
                clear hb hox e0 e1 e3
                generalize (wr.drewN nq) = WW at *
                refine wp_region_held_drew (S := fun w' => w'.cell? ⟨bg, og + k * 4, none⟩ = some (.int .i64 g.n) ∧ w'.cell? ⟨bg, og + k * 4 + 1, none⟩ = some (.int .i64 g.i) ∧ w'.cell? ⟨bg, og + k * 4 + 2, none⟩ = some (.int .i64 g.s) ∧ w'.cell? ⟨bg, og + k * 4 + 3, none⟩ = some (.bool g.g) ∧ w'.cell? ⟨bf, of + j * 4 + 2, none⟩ = some (.int .i64 f.s)) (by kernel_rfl) ?_ (fun hHeld => ?_)
                · exact ⟨keep_drew c0, keep_drew c1, keep_drew c2, keep_drew c3, keep_drew e2⟩
                refine wpAnyH_take (i := 0) (oi := { dst := some 50, op := Go.Op.move (Go.Operand.tmp 5), type := 26, pos := "l31_view.go:16", after := #[], guard := none }) (v := ?_) rfl (by kernel_rfl) (by kernel_rfl) (by kernel_rfl) (fun _ _ _ h => h) (Or.inl ⟨by rfl, ?_⟩) (by assumption) ?_
                rotate_left 1
                · (intro w hSw; (try dsimp only at hSw); go_simp; try with_reducible rfl)
                (try simp only [Act.put, List.setIfInBounds_toArray, List.set_cons_zero, List.set_cons_succ])
                refine wpAnyH_take (i := 1) (oi := { dst := some 51, op := Go.Op.move (Go.Operand.tmp 1), type := 23, pos := "l31_view.go:16", after := #[], guard := none }) (v := ?_) rfl (by kernel_rfl) (by kernel_rfl) (by kernel_rfl) (fun _ _ _ h => h) (Or.inl ⟨by rfl, ?_⟩) (by assumption) ?_
                rotate_left 1
                · (intro w hSw; (try dsimp only at hSw); go_simp; try with_reducible rfl)
                (try simp only [Act.put, List.setIfInBounds_toArray, List.set_cons_zero, List.set_cons_succ])
                refine wpAnyH_take (i := 2) (oi := { dst := some 52, op := Go.Op.move (Go.Operand.tmp 6), type := 3, pos := "l31_view.go:16", after := #[], guard := none }) (v := ?_) rfl (by kernel_rfl) (by kernel_rfl) (by kernel_rfl) (fun _ _ _ h => h) (Or.inl ⟨by rfl, ?_⟩) (by assumption) ?_
                rotate_left 1
                · (intro w hSw; (try dsimp only at hSw); go_simp; try with_reducible rfl)
                (try simp only [Act.put, List.setIfInBounds_toArray, List.set_cons_zero, List.set_cons_succ])
                refine wpAnyH_take (i := 3) (oi := { dst := some 53, op := Go.Op.indexAddr 23 (Go.Operand.tmp 51) (Go.Operand.tmp 52), type := 0, pos := "l31_view.go:16", after := #[{ on := 1, ground := Go.Ground.data }, { on := 2, ground := Go.Ground.data }], guard := none }) (v := ?_) rfl (by kernel_rfl) (by kernel_rfl) (by kernel_rfl) (fun _ _ _ h => h) (Or.inl ⟨by rfl, ?_⟩) (by assumption) ?_
                rotate_left 1
                · (intro w hSw; (try dsimp only at hSw); go_simp; try with_reducible rfl)
                (try simp only [Act.put, List.setIfInBounds_toArray, List.set_cons_zero, List.set_cons_succ])
                refine wpAnyH_take (i := 4) (oi := { dst := some 54, op := Go.Op.load 30 (Go.Operand.tmp 53), type := 30, pos := "l31_view.go:16", after := #[{ on := 3, ground := Go.Ground.data }], guard := none }) (v := ?_) rfl (by kernel_rfl) (by kernel_rfl) (by kernel_rfl) (fun _ _ _ h => h) (Or.inl ⟨by rfl, ?_⟩) (by assumption) ?_
                rotate_left 1
                · (intro w hSw; (try dsimp only at hSw); go_simp; try with_reducible rfl)
                (try simp only [Act.put, List.setIfInBounds_toArray, List.set_cons_zero, List.set_cons_succ])
                refine wpAnyH_take (i := 5) (oi := { dst := some 55, op := Go.Op.move (Go.Operand.tmp 0), type := 23, pos := "l31_view.go:16", after := #[], guard := none }) (v := ?_) rfl (by kernel_rfl) (by kernel_rfl) (by kernel_rfl) (fun _ _ _ h => h) (Or.inl ⟨by rfl, ?_⟩) (by assumption) ?_
                rotate_left 1
                · (intro w hSw; (try dsimp only at hSw); go_simp; try with_reducible rfl)
                (try simp only [Act.put, List.setIfInBounds_toArray, List.set_cons_zero, List.set_cons_succ])
                refine wpAnyH_take (i := 6) (oi := { dst := some 56, op := Go.Op.move (Go.Operand.tmp 7), type := 3, pos := "l31_view.go:16", after := #[], guard := none }) (v := ?_) rfl (by kernel_rfl) (by kernel_rfl) (by kernel_rfl) (fun _ _ _ h => h) (Or.inl ⟨by rfl, ?_⟩) (by assumption) ?_
                rotate_left 1
                · (intro w hSw; (try dsimp only at hSw); go_simp; try with_reducible rfl)
                (try simp only [Act.put, List.setIfInBounds_toArray, List.set_cons_zero, List.set_cons_succ])
                refine wpAnyH_take (i := 7) (oi := { dst := some 57, op := Go.Op.indexAddr 23 (Go.Operand.tmp 55) (Go.Operand.tmp 56), type := 0, pos := "l31_view.go:16", after := #[{ on := 5, ground := Go.Ground.data }, { on := 6, ground := Go.Ground.data }], guard := none }) (v := ?_) rfl (by kernel_rfl) (by kernel_rfl) (by kernel_rfl) (fun _ _ _ h => h) (Or.inl ⟨by rfl, ?_⟩) (by assumption) ?_
                rotate_left 1
                · (intro w hSw; (try dsimp only at hSw); go_simp; try with_reducible rfl)
                (try simp only [Act.put, List.setIfInBounds_toArray, List.set_cons_zero, List.set_cons_succ])
                refine wpAnyH_take (i := 8) (oi := { dst := some 58, op := Go.Op.fieldAddr 30 (Go.Operand.tmp 57) 2, type := 0, pos := "l31_view.go:16", after := #[{ on := 7, ground := Go.Ground.data }], guard := none }) (v := ?_) rfl (by kernel_rfl) (by kernel_rfl) (by kernel_rfl) (fun _ _ _ h => h) (Or.inl ⟨by rfl, ?_⟩) (by assumption) ?_
                rotate_left 1
                · (intro w hSw; (try dsimp only at hSw); go_simp; try with_reducible rfl)
                (try simp only [Act.put, List.setIfInBounds_toArray, List.set_cons_zero, List.set_cons_succ])
                refine wpAnyH_take (i := 9) (oi := { dst := some 59, op := Go.Op.load 3 (Go.Operand.tmp 58), type := 3, pos := "l31_view.go:16", after := #[{ on := 8, ground := Go.Ground.data }], guard := none }) (v := ?_) rfl (by kernel_rfl) (by kernel_rfl) (by kernel_rfl) (fun _ _ _ h => h) (Or.inl ⟨by rfl, ?_⟩) (by assumption) ?_
                rotate_left 1
                · (intro w hSw; (try dsimp only at hSw); go_simp; try with_reducible rfl)
                (try simp only [Act.put, List.setIfInBounds_toArray, List.set_cons_zero, List.set_cons_succ])
                refine wpAnyH_take (i := 10) (oi := { dst := some 60, op := Go.Op.build 32 #[(0, Go.Operand.tmp 54), (1, Go.Operand.tmp 59)], type := 32, pos := "l31_view.go:16", after := #[{ on := 4, ground := Go.Ground.data }, { on := 9, ground := Go.Ground.data }], guard := none }) (v := ?_) rfl (by kernel_rfl) (by kernel_rfl) (by kernel_rfl) (fun _ _ _ h => h) (Or.inl ⟨by rfl, ?_⟩) (by assumption) ?_
                rotate_left 1
                · (intro w hSw; (try dsimp only at hSw); go_simp; try with_reducible rfl)
                (try simp only [Act.put, List.setIfInBounds_toArray, List.set_cons_zero, List.set_cons_succ])
                refine wpAnyH_ready (rs := [11]) (by kernel_rfl) (by simp) ?_
                refine AllReadyH.cons (o := { dst := some 61, op := Go.Op.buildSlice 26 1 #[(0, Go.Operand.tmp 60)], type := 26, pos := "l31_view.go:16", after := #[{ on := 10, ground := Go.Ground.data }], guard := none }) rfl (fun K hK => ?_) AllReadyH.nil
                go_simp
                have nx := new_one WW.drew ⟨g.n, g.i, g.s, g.g, f.s⟩
                have z0 := keep_alloc (.cells #[.int .i64 g.n, .int .i64 g.i, .int .i64 g.s, .bool g.g, .int .i64 f.s] 32) (keep_drew c0)
                have z1 := keep_alloc (.cells #[.int .i64 g.n, .int .i64 g.i, .int .i64 g.s, .bool g.g, .int .i64 f.s] 32) (keep_drew c1)
                have z2 := keep_alloc (.cells #[.int .i64 g.n, .int .i64 g.i, .int .i64 g.s, .bool g.g, .int .i64 f.s] 32) (keep_drew c2)
                have z3 := keep_alloc (.cells #[.int .i64 g.n, .int .i64 g.i, .int .i64 g.s, .bool g.g, .int .i64 f.s] 32) (keep_drew c3)
                have z4 := keep_alloc (.cells #[.int .i64 g.n, .int .i64 g.i, .int .i64 g.s, .bool g.g, .int .i64 f.s] 32) (keep_drew e2)
                have oo2 := (show WW.drew.ownsRow _ _ _ _ _ _ from hoq).alloc (.cells #[.int .i64 g.n, .int .i64 g.i, .int .i64 g.s, .bool g.g, .int .i64 f.s] 32)
                have hb2 : Below w.heap.size w (WW.drew.alloc (.cells #[.int .i64 g.n, .int .i64 g.i, .int .i64 g.s, .bool g.g, .int .i64 f.s] 32)) := balloc _ (QB1 hbq)
                refine hK.out _ _ ?_ (fun hHeld => ?_)
                · (try dsimp only); exact ⟨z0, z1, z2, z3, z4⟩
                clear hK K
                (try simp only [Act.put, List.setIfInBounds_toArray, List.set_cons_zero, List.set_cons_succ])
                refine wpAnyH_ready (rs := [12]) (by kernel_rfl) (by simp) ?_
                refine AllReadyH.cons (o := { dst := some 62, op := Go.Op.call { callee := Go.Callee.builtin Go.Builtin.append, args := #[Go.Operand.tmp 50, Go.Operand.tmp 61], argTypes := #[26, 26] }, type := 26, pos := "l31_view.go:16", after := #[{ on := 0, ground := Go.Ground.data }, { on := 11, ground := Go.Ground.data }], guard := none }) rfl (fun K hK => ?_) AllReadyH.nil
                refine step_appF (by rfl) _ _ (by rfl) w.heap.size (.slice ax nO cx) nO _ (by rfl) hnx oo2 (some ⟨WW.heap.size, 0, none⟩) WW.heap.size 0 rfl 1 1 [⟨g.n, g.i, g.s, g.g, f.s⟩] (by rfl) rfl nx (nO + 1) rfl (by omega) hb2.size ?_
                intro g5 cap5 w5 o5 gr5 hc5
                have B5 := own_grow hb2 hb2.size oo2 gr5
                have y0 := gr5.cell z0 (own_neB hoq hbg)
                have y1 := gr5.cell z1 (own_neB hoq hbg)
                have y2 := gr5.cell z2 (own_neB hoq hbg)
                have y3 := gr5.cell z3 (own_neB hoq hbg)
                have y4 := gr5.cell z4 (own_neB hoq hbf)
                clear z0 z1 z2 z3 z4 gr5 oo2 hb2 nx c0 c1 c2 c3 e2 hoq hbq
                refine hK.out _ _ ?_ (fun hHeld => ?_)
                · (try dsimp only); exact ⟨y0, y1, y2, y3, y4⟩
                clear hK K
                (try simp only [Act.put, List.setIfInBounds_toArray, List.set_cons_zero, List.set_cons_succ])
                refine wpAnyH_take (i := 13) (oi := { dst := some 5, op := Go.Op.assign (Go.Operand.tmp 62), type := 26, pos := "l31_view.go:16", after := #[{ on := 12, ground := Go.Ground.data }, { on := 12, ground := Go.Ground.chain }, { on := 0, ground := Go.Ground.phase }, { on := 1, ground := Go.Ground.phase }, { on := 2, ground := Go.Ground.phase }, { on := 3, ground := Go.Ground.phase }, { on := 4, ground := Go.Ground.phase }, { on := 5, ground := Go.Ground.phase }, { on := 6, ground := Go.Ground.phase }, { on := 7, ground := Go.Ground.phase }, { on := 8, ground := Go.Ground.phase }, { on := 9, ground := Go.Ground.phase }, { on := 10, ground := Go.Ground.phase }, { on := 11, ground := Go.Ground.phase }, { on := 12, ground := Go.Ground.phase }], guard := none }) (v := ?_) rfl (by kernel_rfl) (by kernel_rfl) (by kernel_rfl) (fun _ _ _ h => h) (Or.inl ⟨by rfl, ?_⟩) (by assumption) ?_
                rotate_left 1
                · (intro w hSw; (try dsimp only at hSw); go_simp; try with_reducible rfl)
                (try simp only [Act.put, List.setIfInBounds_toArray, List.set_cons_zero, List.set_cons_succ])
                refine wpAnyH_done (by kernel_rfl) ?_ _
                clear y0 y1 y2 y3 y4
                have hl5 : Hid ((newsL T (Go.Proofs.Ytfmjjafgipikeaa.seqF G (k + 1))).length = nO + 1) := by
                  show (newsL T (Go.Proofs.Ytfmjjafgipikeaa.seqF G (k + 1))).length = nO + 1
                  rw [hs.out, List.length_append, hO.out]
                  rfl
                rw [← hs.out] at o5
                go_wp2
                go_roundw
                case rel => exact ⟨k + 1, _, _, _, by go_num, by omega, rfl, hl5, by simp, o5, B5⟩
                case measure => simp [intOf]; omega
            · have q1 : (f.i == g.i) = false := by simp [h1]
              have q2 : ¬ f.i = g.i := h1
              rw [if_neg (fun hh => h1 hh.1)] at hnw
              have hs : Hid (newsL T (Go.Proofs.Ytfmjjafgipikeaa.seqF G (k + 1)) = newsL T (Go.Proofs.Ytfmjjafgipikeaa.seqF G k) ++ [⟨g.n, g.i, g.s, g.g, f.s⟩]) := by rw [hnw] at hs0; exact hs0
              clear hs0 hnw
              go_wp2_with fail
              go_quiet (fail)
              go_wp2_with fail
              have hbq : Below w.heap.size w (wr.drewN nq) := QB hb
              have hoq : (wr.drewN nq).ownsRow _ _ _ _ _ _ := hox
              replace c0 : (wr.drewN nq).cell? _ = _ := c0
              replace c1 : (wr.drewN nq).cell? _ = _ := c1
              replace c2 : (wr.drewN nq).cell? _ = _ := c2
              replace c3 : (wr.drewN nq).cell? _ = _ := c3
              replace e2 : (wr.drewN nq).cell? _ = _ := e2
              clear hb hox e0 e1 e3
              generalize (wr.drewN nq) = WW at *
              refine wp_region_held_drew (S := fun w' => w'.cell? ⟨bg, og + k * 4, none⟩ = some (.int .i64 g.n) ∧ w'.cell? ⟨bg, og + k * 4 + 1, none⟩ = some (.int .i64 g.i) ∧ w'.cell? ⟨bg, og + k * 4 + 2, none⟩ = some (.int .i64 g.s) ∧ w'.cell? ⟨bg, og + k * 4 + 3, none⟩ = some (.bool g.g) ∧ w'.cell? ⟨bf, of + j * 4 + 2, none⟩ = some (.int .i64 f.s)) (by kernel_rfl) ?_ (fun hHeld => ?_)
              · exact ⟨keep_drew c0, keep_drew c1, keep_drew c2, keep_drew c3, keep_drew e2⟩
              refine wpAnyH_take (i := 0) (oi := { dst := some 50, op := Go.Op.move (Go.Operand.tmp 5), type := 26, pos := "l31_view.go:16", after := #[], guard := none }) (v := ?_) rfl (by kernel_rfl) (by kernel_rfl) (by kernel_rfl) (fun _ _ _ h => h) (Or.inl ⟨by rfl, ?_⟩) (by assumption) ?_
              rotate_left 1
              · (intro w hSw; (try dsimp only at hSw); go_simp; try with_reducible rfl)
              (try simp only [Act.put, List.setIfInBounds_toArray, List.set_cons_zero, List.set_cons_succ])
              refine wpAnyH_take (i := 1) (oi := { dst := some 51, op := Go.Op.move (Go.Operand.tmp 1), type := 23, pos := "l31_view.go:16", after := #[], guard := none }) (v := ?_) rfl (by kernel_rfl) (by kernel_rfl) (by kernel_rfl) (fun _ _ _ h => h) (Or.inl ⟨by rfl, ?_⟩) (by assumption) ?_
              rotate_left 1
              · (intro w hSw; (try dsimp only at hSw); go_simp; try with_reducible rfl)
              (try simp only [Act.put, List.setIfInBounds_toArray, List.set_cons_zero, List.set_cons_succ])
              refine wpAnyH_take (i := 2) (oi := { dst := some 52, op := Go.Op.move (Go.Operand.tmp 6), type := 3, pos := "l31_view.go:16", after := #[], guard := none }) (v := ?_) rfl (by kernel_rfl) (by kernel_rfl) (by kernel_rfl) (fun _ _ _ h => h) (Or.inl ⟨by rfl, ?_⟩) (by assumption) ?_
              rotate_left 1
              · (intro w hSw; (try dsimp only at hSw); go_simp; try with_reducible rfl)
              (try simp only [Act.put, List.setIfInBounds_toArray, List.set_cons_zero, List.set_cons_succ])
              refine wpAnyH_take (i := 3) (oi := { dst := some 53, op := Go.Op.indexAddr 23 (Go.Operand.tmp 51) (Go.Operand.tmp 52), type := 0, pos := "l31_view.go:16", after := #[{ on := 1, ground := Go.Ground.data }, { on := 2, ground := Go.Ground.data }], guard := none }) (v := ?_) rfl (by kernel_rfl) (by kernel_rfl) (by kernel_rfl) (fun _ _ _ h => h) (Or.inl ⟨by rfl, ?_⟩) (by assumption) ?_
              rotate_left 1
              · (intro w hSw; (try dsimp only at hSw); go_simp; try with_reducible rfl)
              (try simp only [Act.put, List.setIfInBounds_toArray, List.set_cons_zero, List.set_cons_succ])
              refine wpAnyH_take (i := 4) (oi := { dst := some 54, op := Go.Op.load 30 (Go.Operand.tmp 53), type := 30, pos := "l31_view.go:16", after := #[{ on := 3, ground := Go.Ground.data }], guard := none }) (v := ?_) rfl (by kernel_rfl) (by kernel_rfl) (by kernel_rfl) (fun _ _ _ h => h) (Or.inl ⟨by rfl, ?_⟩) (by assumption) ?_
              rotate_left 1
              · (intro w hSw; (try dsimp only at hSw); go_simp; try with_reducible rfl)
              (try simp only [Act.put, List.setIfInBounds_toArray, List.set_cons_zero, List.set_cons_succ])
              refine wpAnyH_take (i := 5) (oi := { dst := some 55, op := Go.Op.move (Go.Operand.tmp 0), type := 23, pos := "l31_view.go:16", after := #[], guard := none }) (v := ?_) rfl (by kernel_rfl) (by kernel_rfl) (by kernel_rfl) (fun _ _ _ h => h) (Or.inl ⟨by rfl, ?_⟩) (by assumption) ?_
              rotate_left 1
              · (intro w hSw; (try dsimp only at hSw); go_simp; try with_reducible rfl)
              (try simp only [Act.put, List.setIfInBounds_toArray, List.set_cons_zero, List.set_cons_succ])
              refine wpAnyH_take (i := 6) (oi := { dst := some 56, op := Go.Op.move (Go.Operand.tmp 7), type := 3, pos := "l31_view.go:16", after := #[], guard := none }) (v := ?_) rfl (by kernel_rfl) (by kernel_rfl) (by kernel_rfl) (fun _ _ _ h => h) (Or.inl ⟨by rfl, ?_⟩) (by assumption) ?_
              rotate_left 1
              · (intro w hSw; (try dsimp only at hSw); go_simp; try with_reducible rfl)
              (try simp only [Act.put, List.setIfInBounds_toArray, List.set_cons_zero, List.set_cons_succ])
              refine wpAnyH_take (i := 7) (oi := { dst := some 57, op := Go.Op.indexAddr 23 (Go.Operand.tmp 55) (Go.Operand.tmp 56), type := 0, pos := "l31_view.go:16", after := #[{ on := 5, ground := Go.Ground.data }, { on := 6, ground := Go.Ground.data }], guard := none }) (v := ?_) rfl (by kernel_rfl) (by kernel_rfl) (by kernel_rfl) (fun _ _ _ h => h) (Or.inl ⟨by rfl, ?_⟩) (by assumption) ?_
              rotate_left 1
              · (intro w hSw; (try dsimp only at hSw); go_simp; try with_reducible rfl)
              (try simp only [Act.put, List.setIfInBounds_toArray, List.set_cons_zero, List.set_cons_succ])
              refine wpAnyH_take (i := 8) (oi := { dst := some 58, op := Go.Op.fieldAddr 30 (Go.Operand.tmp 57) 2, type := 0, pos := "l31_view.go:16", after := #[{ on := 7, ground := Go.Ground.data }], guard := none }) (v := ?_) rfl (by kernel_rfl) (by kernel_rfl) (by kernel_rfl) (fun _ _ _ h => h) (Or.inl ⟨by rfl, ?_⟩) (by assumption) ?_
              rotate_left 1
              · (intro w hSw; (try dsimp only at hSw); go_simp; try with_reducible rfl)
              (try simp only [Act.put, List.setIfInBounds_toArray, List.set_cons_zero, List.set_cons_succ])
              refine wpAnyH_take (i := 9) (oi := { dst := some 59, op := Go.Op.load 3 (Go.Operand.tmp 58), type := 3, pos := "l31_view.go:16", after := #[{ on := 8, ground := Go.Ground.data }], guard := none }) (v := ?_) rfl (by kernel_rfl) (by kernel_rfl) (by kernel_rfl) (fun _ _ _ h => h) (Or.inl ⟨by rfl, ?_⟩) (by assumption) ?_
              rotate_left 1
              · (intro w hSw; (try dsimp only at hSw); go_simp; try with_reducible rfl)
              (try simp only [Act.put, List.setIfInBounds_toArray, List.set_cons_zero, List.set_cons_succ])
              refine wpAnyH_take (i := 10) (oi := { dst := some 60, op := Go.Op.build 32 #[(0, Go.Operand.tmp 54), (1, Go.Operand.tmp 59)], type := 32, pos := "l31_view.go:16", after := #[{ on := 4, ground := Go.Ground.data }, { on := 9, ground := Go.Ground.data }], guard := none }) (v := ?_) rfl (by kernel_rfl) (by kernel_rfl) (by kernel_rfl) (fun _ _ _ h => h) (Or.inl ⟨by rfl, ?_⟩) (by assumption) ?_
              rotate_left 1
              · (intro w hSw; (try dsimp only at hSw); go_simp; try with_reducible rfl)
              (try simp only [Act.put, List.setIfInBounds_toArray, List.set_cons_zero, List.set_cons_succ])
              refine wpAnyH_ready (rs := [11]) (by kernel_rfl) (by simp) ?_
              refine AllReadyH.cons (o := { dst := some 61, op := Go.Op.buildSlice 26 1 #[(0, Go.Operand.tmp 60)], type := 26, pos := "l31_view.go:16", after := #[{ on := 10, ground := Go.Ground.data }], guard := none }) rfl (fun K hK => ?_) AllReadyH.nil
              go_simp
              have nx := new_one WW.drew ⟨g.n, g.i, g.s, g.g, f.s⟩
              have z0 := keep_alloc (.cells #[.int .i64 g.n, .int .i64 g.i, .int .i64 g.s, .bool g.g, .int .i64 f.s] 32) (keep_drew c0)
              have z1 := keep_alloc (.cells #[.int .i64 g.n, .int .i64 g.i, .int .i64 g.s, .bool g.g, .int .i64 f.s] 32) (keep_drew c1)
              have z2 := keep_alloc (.cells #[.int .i64 g.n, .int .i64 g.i, .int .i64 g.s, .bool g.g, .int .i64 f.s] 32) (keep_drew c2)
              have z3 := keep_alloc (.cells #[.int .i64 g.n, .int .i64 g.i, .int .i64 g.s, .bool g.g, .int .i64 f.s] 32) (keep_drew c3)
              have z4 := keep_alloc (.cells #[.int .i64 g.n, .int .i64 g.i, .int .i64 g.s, .bool g.g, .int .i64 f.s] 32) (keep_drew e2)
              have oo2 := (show WW.drew.ownsRow _ _ _ _ _ _ from hoq).alloc (.cells #[.int .i64 g.n, .int .i64 g.i, .int .i64 g.s, .bool g.g, .int .i64 f.s] 32)
              have hb2 : Below w.heap.size w (WW.drew.alloc (.cells #[.int .i64 g.n, .int .i64 g.i, .int .i64 g.s, .bool g.g, .int .i64 f.s] 32)) := balloc _ (QB1 hbq)
              refine hK.out _ _ ?_ (fun hHeld => ?_)
              · (try dsimp only); exact ⟨z0, z1, z2, z3, z4⟩
              clear hK K
              (try simp only [Act.put, List.setIfInBounds_toArray, List.set_cons_zero, List.set_cons_succ])
              refine wpAnyH_ready (rs := [12]) (by kernel_rfl) (by simp) ?_
              refine AllReadyH.cons (o := { dst := some 62, op := Go.Op.call { callee := Go.Callee.builtin Go.Builtin.append, args := #[Go.Operand.tmp 50, Go.Operand.tmp 61], argTypes := #[26, 26] }, type := 26, pos := "l31_view.go:16", after := #[{ on := 0, ground := Go.Ground.data }, { on := 11, ground := Go.Ground.data }], guard := none }) rfl (fun K hK => ?_) AllReadyH.nil
              refine step_appF (by rfl) _ _ (by rfl) w.heap.size (.slice ax nO cx) nO _ (by rfl) hnx oo2 (some ⟨WW.heap.size, 0, none⟩) WW.heap.size 0 rfl 1 1 [⟨g.n, g.i, g.s, g.g, f.s⟩] (by rfl) rfl nx (nO + 1) rfl (by omega) hb2.size ?_
              intro g5 cap5 w5 o5 gr5 hc5
              have B5 := own_grow hb2 hb2.size oo2 gr5
              have y0 := gr5.cell z0 (own_neB hoq hbg)
              have y1 := gr5.cell z1 (own_neB hoq hbg)
              have y2 := gr5.cell z2 (own_neB hoq hbg)
              have y3 := gr5.cell z3 (own_neB hoq hbg)
              have y4 := gr5.cell z4 (own_neB hoq hbf)
              clear z0 z1 z2 z3 z4 gr5 oo2 hb2 nx c0 c1 c2 c3 e2 hoq hbq
              refine hK.out _ _ ?_ (fun hHeld => ?_)
              · (try dsimp only); exact ⟨y0, y1, y2, y3, y4⟩
              clear hK K
              (try simp only [Act.put, List.setIfInBounds_toArray, List.set_cons_zero, List.set_cons_succ])
              refine wpAnyH_take (i := 13) (oi := { dst := some 5, op := Go.Op.assign (Go.Operand.tmp 62), type := 26, pos := "l31_view.go:16", after := #[{ on := 12, ground := Go.Ground.data }, { on := 12, ground := Go.Ground.chain }, { on := 0, ground := Go.Ground.phase }, { on := 1, ground := Go.Ground.phase }, { on := 2, ground := Go.Ground.phase }, { on := 3, ground := Go.Ground.phase }, { on := 4, ground := Go.Ground.phase }, { on := 5, ground := Go.Ground.phase }, { on := 6, ground := Go.Ground.phase }, { on := 7, ground := Go.Ground.phase }, { on := 8, ground := Go.Ground.phase }, { on := 9, ground := Go.Ground.phase }, { on := 10, ground := Go.Ground.phase }, { on := 11, ground := Go.Ground.phase }, { on := 12, ground := Go.Ground.phase }], guard := none }) (v := ?_) rfl (by kernel_rfl) (by kernel_rfl) (by kernel_rfl) (fun _ _ _ h => h) (Or.inl ⟨by rfl, ?_⟩) (by assumption) ?_
              rotate_left 1
              · (intro w hSw; (try dsimp only at hSw); go_simp; try with_reducible rfl)
              (try simp only [Act.put, List.setIfInBounds_toArray, List.set_cons_zero, List.set_cons_succ])
              refine wpAnyH_done (by kernel_rfl) ?_ _
              clear y0 y1 y2 y3 y4
              have hl5 : Hid ((newsL T (Go.Proofs.Ytfmjjafgipikeaa.seqF G (k + 1))).length = nO + 1) := by
                show (newsL T (Go.Proofs.Ytfmjjafgipikeaa.seqF G (k + 1))).length = nO + 1
                rw [hs.out, List.length_append, hO.out]
                rfl
              rw [← hs.out] at o5
              go_wp2
              go_roundw
              case rel => exact ⟨k + 1, _, _, _, by go_num, by omega, rfl, hl5, by simp, o5, B5⟩
              case measure => simp [intOf]; omega
        · have e : k = len2 := by omega
          subst e
          go_wp2
          go_ret
          exact ⟨_, rfl, by rw [hO.out]; exact hox, hb⟩
end Go.Proofs.Ytfmjjafgipikeaa.W
