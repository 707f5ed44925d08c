/- Nothing that is known is lost: the law, walked. -/
import Derived.Test.YtogoehaagdldnaaGreatDoorLh
namespace Go.Proofs.YtogoehaagdldnaaGreatDoor
open Go.ChangeShapes Go.WideShapes Go.ChangeAt Go.RowKit
attribute [local go_sem ↓] Go.wp_at_zero Go.wp_at_succ
theorem diff3 {g1 g2 : Int} {g3 : Bool} {f1 f2 : Int} {f3 : Bool} (he : ¬ (g1 = f1 ∧ g2 = f2 ∧ g3 = f3)) : ((g1 == f1) = false ∧ ¬ g1 = f1) ∨ (g1 = f1 ∧ ((g2 == f2) = false ∧ ¬ g2 = f2)) ∨ (g1 = f1 ∧ g2 = f2 ∧ ((g3 == f3) = false ∧ ¬ g3 = f3)) := by
  by_cases z1 : g1 = f1
  · by_cases z2 : g2 = f2
    · exact .inr (.inr ⟨z1, z2, by simpa using fun e => he ⟨z1, z2, e⟩, fun e => he ⟨z1, z2, e⟩⟩)
    · exact .inr (.inl ⟨z1, by simpa using z2, z2⟩)
  · exact .inl ⟨by simpa using z1, z1⟩
theorem diff3' {g1 g2 : Int} {g3 : Bool} {f1 f2 : Int} {f3 : Bool} : (g1 = f1 ∧ g2 = f2 ∧ g3 = f3) ∨ ((g1 == f1) = false ∧ ¬ g1 = f1) ∨ (g1 = f1 ∧ ((g2 == f2) = false ∧ ¬ g2 = f2)) ∨ (g1 = f1 ∧ g2 = f2 ∧ ((g3 == f3) = false ∧ ¬ g3 = f3)) := by
  by_cases he : g1 = f1 ∧ g2 = f2 ∧ g3 = f3
  · exact .inl he
  · exact .inr (diff3 he)
theorem more_law {T : List Fc} {f : Fc} {X : List Fc} {q : Bool} (h1 : okT T = true) (h2 : fok f = true) (hX : pt T f = X) (hq : pq T f = q) : okT X = true ∧ (∀ k, k < T.length → ∃ g, tof X.length (gd X) (gd T k).n = some g ∧ g.n = (gd T k).n ∧ fok (gd T k) = true ∧ fok g = true ∧ (g = gd T k ∨ ovr g (gd T k) = true)) ∧ (∃ g, tof X.length (gd X) f.n = some g ∧ g.n = f.n ∧ fok f = true ∧ fok g = true ∧ (g = f ∨ ovr g f = true)) ∧ (q = true → X ≠ T) ∧ (q = false → X = T) := by
  have t1 := okT_tbl h1
  have tf := one_tbl h2
  have eX : X = tjoin T [f] := by rw [← hX, pt_eq h1 h2]; rfl
  have tX : Tbl X := by rw [eX]; exact t1.join tf
  have oX := tbl_okT tX
  have k1 : Kp T X := by rw [eX]; exact kp_left t1 tf
  have k2 : Kp [f] X := by rw [eX]; exact kp_right t1 tf
  have eq : q = tnew T f := by rw [← hq, pq_eq h1 h2]
  have eX2 : X = tput T f := eX
  refine ⟨oX, fun k hk => ?_, ?_, fun h => ?_, fun h => ?_⟩
  · have hm : gd T k ∈ T := by simp [gd, List.getD, hk]
    obtain ⟨g, e1, e2, e3, e4⟩ := k1 _ hm
    exact ⟨g, by rw [tof_eq oX]; exact e1, e2, t1.2 _ hm, e3, e4⟩
  · obtain ⟨g, e1, e2, e3, e4⟩ := k2 f (by simp)
    exact ⟨g, by rw [tof_eq oX]; exact e1, e2, h2, e3, e4⟩
  · intro e
    rw [eq] at h
    have h3 := tget_tput (f := f) t1.1 f.n
    rw [if_pos ⟨rfl, h⟩, ← eX2, e] at h3
    unfold tnew at h
    rw [h3] at h
    have := (ovr_wgt h2 h2).1 h
    omega
  · rw [eq] at h
    rw [eX2]
    unfold tnew at h
    cases hg : tget T f.n with
    | none => rw [hg] at h; cases h
    | some g => rw [hg] at h; exact tput_no t1.1 hg h
set_option maxRecDepth 20000 in
set_option maxHeartbeats 8000000 in
theorem more_walk (a : Option Addr) (len cap : Nat) (w : World) (h : Bytes w.heap.size w a len) (hl : len ≤ cap) (ht : Tabs w) :
    Calls Tryz.prog 6 #[.slice a len cap] w fun r w' => r = .returned (.bool true) ∧ Below w.heap.size w w' := by
  by_cases hlen : len ≤ 1048576
  · have j0 : ¬ (1048576 : Int) < (len : Int) := by omega
    go_enter Tryz.func6, Tryz.ntmps6
    go_wp2_with fail
    refine (drawTPL a len cap _ h hl).mono ?_
    rintro r w1 ⟨a1, c1, T, f, rfl, hT, nT, lT, hc1, B1⟩
    have p2 : (w1.alloc (.cells #[.int .i64 f.n, .int .i64 f.i, .int .i64 f.s, .bool f.g] 33)).heap[w1.heap.size]? = some (.cells #[.int .i64 f.n, .int .i64 f.i, .int .i64 f.s, .bool f.g] 33 (0, 0)) := heap_alloc_new _ _
    have b2 : Below w1.heap.size w1 (w1.alloc (.cells #[.int .i64 f.n, .int .i64 f.i, .int .i64 f.s, .bool f.g] 33)) := balloc _ (Below.refl _ _)
    go_wp2_with fail
    have B2 := btrans B1 b2
    replace hT := hT.below b2
    replace nT := nT.below b2
    clear b2
    generalize (w1.alloc (.cells #[.int .i64 f.n, .int .i64 f.i, .int .i64 f.s, .bool f.g] 33)) = w2 at *
    obtain ⟨bf, hbf⟩ : ∃ bf, w1.heap.size = bf := ⟨_, rfl⟩
    rw [hbf] at p2 ⊢
    clear hbf B1
    have d0 := cell_block (o := 0) (v := .int .i64 f.n) p2 rfl
    have d1 := cell_block (o := 1) (v := .int .i64 f.i) p2 rfl
    have d2 := cell_block (o := 2) (v := .int .i64 f.s) p2 rfl
    have d3 := cell_block (o := 3) (v := .bool f.g) p2 rfl
    clear p2
    obtain ⟨X, hX⟩ : ∃ X, Hid (pt T f = X) := ⟨_, rfl⟩
    have lX : X.length ≤ 8 := by rw [← hX.out]; exact pt_len
    obtain ⟨q, hq⟩ : ∃ q, Hid (pq T f = q) := ⟨_, rfl⟩
    obtain ⟨x, hx⟩ : ∃ x, Hid (txt T.length (gd T) = x) := ⟨_, rfl⟩
    obtain ⟨o, ho⟩ : ∃ o, Hid (okT T = o) := ⟨_, rfl⟩
    obtain ⟨v, hv⟩ : ∃ v, Hid (fok f = v) := ⟨_, rfl⟩
    have hno : Hid (¬ (o = true ∧ v = true) → q = false) := fun h1 => by rw [← hq.out]; exact (pt_no (by rw [ho.out, hv.out]; exact h1)).2
    have hj1 : o = true → v = true → okT X = true ∧ (∀ k, k < T.length → ∃ g, tof X.length (gd X) (gd T k).n = some g ∧ g.n = (gd T k).n ∧ fok (gd T k) = true ∧ fok g = true ∧ (g = gd T k ∨ ovr g (gd T k) = true)) ∧ (∃ g, tof X.length (gd X) f.n = some g ∧ g.n = f.n ∧ fok f = true ∧ fok g = true ∧ (g = f ∨ ovr g f = true)) ∧ (q = true → X ≠ T) ∧ (q = false → X = T) := fun h1 h2 => by
      rw [← ho.out] at h1
      rw [← hv.out] at h2
      exact more_law h1 h2 hX.out hq.out
    have hj : Hid _ := hj1
    clear hj1
    have e0 : (q != q) = false := by simp
    have e1 : (o != o) = false := by simp
    refine (lput a1 c1 T f X q _ hT lT hX.out hq.out).mono ?_
    rintro r w3 ⟨a3, c3, rfl, h3, b3⟩
    have B3 := btrans B2 b3
    replace hT := hT.below b3
    replace nT := nT.below b3
    replace d0 := keep_below b3 d0
    replace d1 := keep_below b3 d1
    replace d2 := keep_below b3 d2
    replace d3 := keep_below b3 d3
    clear b3
    go_wp2_with fail
    refine (lsput a1 c1 T f X q _ hT nT lT hc1 hX.out hq.out).mono ?_
    rintro r w4 ⟨a4, c4, rfl, h4, b4⟩
    have B4 := btrans B3 b4
    replace hT := hT.below b4
    replace nT := nT.below b4
    replace h3 := h3.below b4
    replace d0 := keep_below b4 d0
    replace d1 := keep_below b4 d1
    replace d2 := keep_below b4 d2
    replace d3 := keep_below b4 d3
    clear b4
    go_wp2_with fail
    refine (llh a3 c3 a4 c4 X _ h3 h4 lX).mono ?_
    rintro r w5 ⟨rfl, b5⟩
    have B5 := btrans B4 b5
    replace hT := hT.below b5
    replace nT := nT.below b5
    replace h3 := h3.below b5
    replace h4 := h4.below b5
    replace d0 := keep_below b5 d0
    replace d1 := keep_below b5 d1
    replace d2 := keep_below b5 d2
    replace d3 := keep_below b5 d3
    clear b5
    go_wp2_with fail
    refine (lok a1 c1 T o _ hT lT ho.out).mono ?_
    rintro r w6 ⟨rfl, b6⟩
    have B6 := btrans B5 b6
    replace hT := hT.below b6
    replace nT := nT.below b6
    replace h3 := h3.below b6
    replace h4 := h4.below b6
    replace d0 := keep_below b6 d0
    replace d1 := keep_below b6 d1
    replace d2 := keep_below b6 d2
    replace d3 := keep_below b6 d3
    clear b6
    go_wp2_with fail
    refine (lsok a1 c1 T o _ hT lT ho.out).mono ?_
    rintro r w7 ⟨rfl, b7⟩
    have B7 := btrans B6 b7
    replace hT := hT.below b7
    replace nT := nT.below b7
    replace h3 := h3.below b7
    replace h4 := h4.below b7
    replace d0 := keep_below b7 d0
    replace d1 := keep_below b7 d1
    replace d2 := keep_below b7 d2
    replace d3 := keep_below b7 d3
    clear b7
    go_wp2_with fail
    refine (ltext a1 c1 T x _ hT lT (ht.below B7) hx.out).mono ?_
    rintro r w8 ⟨rfl, b8⟩
    have B8 := btrans B7 b8
    replace hT := hT.below b8
    replace nT := nT.below b8
    replace h3 := h3.below b8
    replace h4 := h4.below b8
    replace d0 := keep_below b8 d0
    replace d1 := keep_below b8 d1
    replace d2 := keep_below b8 d2
    replace d3 := keep_below b8 d3
    clear b8
    go_wp2_with fail
    refine (lstext a1 c1 T x _ hT lT hx.out).mono ?_
    rintro r w9 ⟨rfl, b9⟩
    have B9 := btrans B8 b9
    replace hT := hT.below b9
    replace nT := nT.below b9
    replace h3 := h3.below b9
    replace h4 := h4.below b9
    replace d0 := keep_below b9 d0
    replace d1 := keep_below b9 d1
    replace d2 := keep_below b9 d2
    replace d3 := keep_below b9 d3
    clear b9
    clear h4
    cases o
    · obtain rfl : q = false := hno.out (by simp)
      go_wp2_with fail
      refine (lsok a1 c1 T false _ hT lT ho.out).mono ?_
      rintro r w10 ⟨rfl, b10⟩
      have B10 := btrans B9 b10
      replace hT := hT.below b10
      replace nT := nT.below b10
      replace h3 := h3.below b10
      replace d0 := keep_below b10 d0
      replace d1 := keep_below b10 d1
      replace d2 := keep_below b10 d2
      replace d3 := keep_below b10 d3
      clear b10
      go_wp2
      go_ret
      exact ⟨rfl, B10⟩
    · cases v
      · obtain rfl : q = false := hno.out (by simp)
        go_wp2_with fail
        refine (lsok a1 c1 T true _ hT lT ho.out).mono ?_
        rintro r w10 ⟨rfl, b10⟩
        have B10 := btrans B9 b10
        replace hT := hT.below b10
        replace nT := nT.below b10
        replace h3 := h3.below b10
        replace d0 := keep_below b10 d0
        replace d1 := keep_below b10 d1
        replace d2 := keep_below b10 d2
        replace d3 := keep_below b10 d3
        clear b10
        go_wp2_with fail
        refine (lsfok f false _ hv.out).mono ?_
        rintro r w11 ⟨rfl, b11⟩
        have B11 := btrans B10 b11
        replace hT := hT.below b11
        replace nT := nT.below b11
        replace h3 := h3.below b11
        replace d0 := keep_below b11 d0
        replace d1 := keep_below b11 d1
        replace d2 := keep_below b11 d2
        replace d3 := keep_below b11 d3
        clear b11
        go_wp2
        go_ret
        exact ⟨rfl, B11⟩
      · obtain ⟨hXo, hK1, hE1, hN1, hM1⟩ := hj.out rfl rfl
        have hXok : Hid _ := hXo
        have hK : Hid _ := hK1
        have hE : Hid _ := hE1
        have hN : Hid _ := hN1
        have hM : Hid _ := hM1
        clear hXo hK1 hE1 hN1 hM1 hj hno
        go_wp2_with fail
        refine (lsok a1 c1 T true _ hT lT ho.out).mono ?_
        rintro r w10 ⟨rfl, b10⟩
        have B10 := btrans B9 b10
        replace hT := hT.below b10
        replace nT := nT.below b10
        replace h3 := h3.below b10
        replace d0 := keep_below b10 d0
        replace d1 := keep_below b10 d1
        replace d2 := keep_below b10 d2
        replace d3 := keep_below b10 d3
        clear b10
        go_wp2_with fail
        refine (lsfok f true _ hv.out).mono ?_
        rintro r w11 ⟨rfl, b11⟩
        have B11 := btrans B10 b11
        replace hT := hT.below b11
        replace nT := nT.below b11
        replace h3 := h3.below b11
        replace d0 := keep_below b11 d0
        replace d1 := keep_below b11 d1
        replace d2 := keep_below b11 d2
        replace d3 := keep_below b11 d3
        clear b11
        go_wp2_with fail
        go_loopw [9] (fun i wr => ∃ k : Nat, k ≤ T.length ∧ i = .int .i64 k ∧ Below w11.heap.size w11 wr) (fun i _ => T.length - (intOf i).toNat)
        case atStart => exact ⟨0, Nat.zero_le _, rfl, Below.refl _ _⟩
        case round =>
          obtain ⟨k, hk, rfl, hb⟩ := hrel
          by_cases hlt : k < T.length
          · have i0 : (0 : Int) ≤ (k : Int) := by omega
            have i1 : (k : Int) < (T.length : Int) := by omega
            obtain ⟨b, off, rfl, hbl, hfi⟩ := hT (by omega)
            obtain ⟨c0, c1', c2', c3'⟩ := (hfi.below hb hbl) k hlt
            obtain ⟨⟨g0, g1, g2, g3⟩, e1', e2, hfk, hgk, e4⟩ := hK.out k hlt
            have hfi' := hfi k hlt
            generalize gd T k = t at *
            obtain ⟨f0, f1, f2, f3⟩ := t
            dsimp only at c0 c1' c2' c3' e1' e2 hfi'
            subst e2
            have hwf : (Lit.int .i64 g0).wf = true := fok_wf hgk
            have e1h : Hid _ := e1'
            clear e1' d0 d1 d2 d3
            go_wp2_with fail
            refine (of_litt a3 X.length c3 (gd X) g0 (some ⟨g0, g1, g2, g3⟩) _ (h3.below hb) (by omega) hwf e1h.out).mono ?_
            rintro r w70 ⟨rfl, b70⟩
            have B70 := btrans hb b70
            clear c0 c1' c2' c3' b70 hb
            have p8 : (w70.alloc (.cells #[.int .i64 g0, .int .i64 g1, .int .i64 g2, .bool g3] 33)).heap[w70.heap.size]? = some (.cells #[.int .i64 g0, .int .i64 g1, .int .i64 g2, .bool g3] 33 (0, 0)) := heap_alloc_new _ _
            have B8 := balloc (.cells #[.int .i64 g0, .int .i64 g1, .int .i64 g2, .bool g3] 33) B70
            simp only [Option.getD, Option.isSome, fval]
            go_wp2_with fail
            generalize (w70.alloc (.cells #[.int .i64 g0, .int .i64 g1, .int .i64 g2, .bool g3] 33)) = w8 at *
            obtain ⟨b6, hb6⟩ : ∃ b6, w70.heap.size = b6 := ⟨_, rfl⟩
            rw [hb6] at p8 ⊢
            clear hb6 B70
            have u0 := cell_block (o := 0) (v := .int .i64 g0) p8 rfl
            have u1 := cell_block (o := 1) (v := .int .i64 g1) p8 rfl
            have u2 := cell_block (o := 2) (v := .int .i64 g2) p8 rfl
            have u3 := cell_block (o := 3) (v := .bool g3) p8 rfl
            obtain ⟨c0, c1', c2', c3'⟩ := hfi'
            replace c0 := (B8.cell (p := ⟨b, _, none⟩) hbl).trans c0
            replace c1' := (B8.cell (p := ⟨b, _, none⟩) hbl).trans c1'
            replace c2' := (B8.cell (p := ⟨b, _, none⟩) hbl).trans c2'
            replace c3' := (B8.cell (p := ⟨b, _, none⟩) hbl).trans c3'
            clear p8
            by_cases he : g1 = f1 ∧ g2 = f2 ∧ g3 = f3
            · obtain ⟨rfl, rfl, rfl⟩ := he
              clear e4 hfk hgk e1h
              go_quiet (fail)
              have B9' : Below w11.heap.size w11 (w8.drewN nq) := QB B8
              clear c0 c1' c2' c3' u0 u1 u2 u3
              generalize w8.drewN nq = w9' at *
              go_wp2
              go_roundw
              case rel => exact ⟨k + 1, by omega, by go_num, B9'⟩
              case measure => simp [intOf]; omega
            · have ho' : ovr ⟨g0, g1, g2, g3⟩ ⟨g0, f1, f2, f3⟩ = true := by
                rcases e4 with e4 | e4
                · simp only [Fc.mk.injEq, true_and] at e4
                  exact absurd e4 he
                · exact e4
              have hov : Hid (overB g0 g1 g2 g3 g0 f1 f2 f3 = true) := over_of hgk hfk rfl ho'
              have he' := diff3 he
              clear he e4 ho' hfk hgk e1h
              rcases he' with ⟨z0, z1⟩ | ⟨rfl, z0, z1⟩ | ⟨rfl, rfl, z0, z1⟩
              · refine wp_region_held_drew (S := fun w' => w'.cell? ⟨b6, 0, none⟩ = some (.int .i64 g0) ∧ w'.cell? ⟨b6, 1, none⟩ = some (.int .i64 g1) ∧ w'.cell? ⟨b6, 2, none⟩ = some (.int .i64 g2) ∧ w'.cell? ⟨b6, 3, none⟩ = some (.bool g3) ∧ w'.cell? ⟨b, off + k * 4, none⟩ = some (.int .i64 g0) ∧ w'.cell? ⟨b, off + k * 4 + 1, none⟩ = some (.int .i64 f1) ∧ w'.cell? ⟨b, off + k * 4 + 2, none⟩ = some (.int .i64 f2) ∧ w'.cell? ⟨b, off + k * 4 + 3, none⟩ = some (.bool f3)) (by kernel_rfl) ?_ (fun hHeld => ?_)
                · (try dsimp only); (refine ⟨?_, ?_, ?_, ?_, ?_, ?_, ?_, ?_⟩ <;> (repeat (first | with_reducible assumption | with_reducible refine keep_drew ?_ | with_reducible refine keep_below (by assumption) ?_)))
                refine wpAnyH_take (i := 0) (oi := { dst := some 83, op := Go.Op.move (Go.Operand.tmp 11), type := 4, pos := "laws.go:301", after := #[], guard := none }) (v := ?_) rfl (by kernel_rfl) (by kernel_rfl) (by kernel_rfl) (fun _ _ _ h => h) (Or.inl ⟨by rfl, ?_⟩) (by assumption) ?_
                rotate_left 1
                · (intro w hSw; (try dsimp only at hSw); go_simp; try with_reducible rfl)
                (try simp only [Act.put, List.setIfInBounds_toArray, List.set_cons_zero, List.set_cons_succ])
                refine wpAnyH_take (i := 1) (oi := { dst := some 84, op := Go.Op.unOp Go.UnOp.not 4 (Go.Operand.tmp 83), type := 4, pos := "laws.go:301", after := #[{ on := 0, ground := Go.Ground.data }], guard := none }) (v := ?_) rfl (by kernel_rfl) (by kernel_rfl) (by kernel_rfl) (fun _ _ _ h => h) (Or.inl ⟨by rfl, ?_⟩) (by assumption) ?_
                rotate_left 1
                · (intro w hSw; (try dsimp only at hSw); go_simp; try with_reducible rfl)
                (try simp only [Act.put, List.setIfInBounds_toArray, List.set_cons_zero, List.set_cons_succ])
                refine wpAnyH_take (i := 2) (oi := { dst := some 85, op := Go.Op.move (Go.Operand.tmp 84), type := 4, pos := "laws.go:301", after := #[{ on := 1, ground := Go.Ground.data }], guard := none }) (v := ?_) rfl (by kernel_rfl) (by kernel_rfl) (by kernel_rfl) (fun _ _ _ h => h) (Or.inl ⟨by rfl, ?_⟩) (by assumption) ?_
                rotate_left 1
                · (intro w hSw; (try dsimp only at hSw); go_simp; try with_reducible rfl)
                (try simp only [Act.put, List.setIfInBounds_toArray, List.set_cons_zero, List.set_cons_succ])
                refine wpAnyH_take (i := 3) (oi := { dst := some 86, op := Go.Op.load 33 (Go.Operand.tmp 10), type := 33, pos := "laws.go:301", after := #[{ on := 2, ground := Go.Ground.guard }], guard := some (2, false) }) (v := ?_) rfl (by kernel_rfl) (by kernel_rfl) (by kernel_rfl) (fun _ _ _ h => h) (Or.inl ⟨by rfl, ?_⟩) (by assumption) ?_
                rotate_left 1
                · (intro w hSw; (try dsimp only at hSw); go_simp; try with_reducible rfl)
                (try simp only [Act.put, List.setIfInBounds_toArray, List.set_cons_zero, List.set_cons_succ])
                refine wpAnyH_take (i := 4) (oi := { dst := some 87, op := Go.Op.move (Go.Operand.tmp 3), type := 23, pos := "laws.go:301", after := #[{ on := 2, ground := Go.Ground.guard }], guard := some (2, false) }) (v := ?_) rfl (by kernel_rfl) (by kernel_rfl) (by kernel_rfl) (fun _ _ _ h => h) (Or.inl ⟨by rfl, ?_⟩) (by assumption) ?_
                rotate_left 1
                · (intro w hSw; (try dsimp only at hSw); go_simp; try with_reducible rfl)
                (try simp only [Act.put, List.setIfInBounds_toArray, List.set_cons_zero, List.set_cons_succ])
                refine wpAnyH_take (i := 5) (oi := { dst := some 88, op := Go.Op.move (Go.Operand.tmp 9), type := 3, pos := "laws.go:301", after := #[{ on := 2, ground := Go.Ground.guard }], guard := some (2, false) }) (v := ?_) rfl (by kernel_rfl) (by kernel_rfl) (by kernel_rfl) (fun _ _ _ h => h) (Or.inl ⟨by rfl, ?_⟩) (by assumption) ?_
                rotate_left 1
                · (intro w hSw; (try dsimp only at hSw); go_simp; try with_reducible rfl)
                (try simp only [Act.put, List.setIfInBounds_toArray, List.set_cons_zero, List.set_cons_succ])
                refine wpAnyH_take (i := 6) (oi := { dst := some 89, op := Go.Op.indexAddr 23 (Go.Operand.tmp 87) (Go.Operand.tmp 88), type := 0, pos := "laws.go:301", after := #[{ on := 4, ground := Go.Ground.data }, { on := 5, ground := Go.Ground.data }, { on := 2, ground := Go.Ground.guard }], guard := some (2, false) }) (v := ?_) rfl (by kernel_rfl) (by kernel_rfl) (by kernel_rfl) (fun _ _ _ h => h) (Or.inl ⟨by rfl, ?_⟩) (by assumption) ?_
                rotate_left 1
                · (intro w hSw; (try dsimp only at hSw); go_simp; try with_reducible rfl)
                (try simp only [Act.put, List.setIfInBounds_toArray, List.set_cons_zero, List.set_cons_succ])
                refine wpAnyH_take (i := 7) (oi := { dst := some 90, op := Go.Op.load 33 (Go.Operand.tmp 89), type := 33, pos := "laws.go:301", after := #[{ on := 6, ground := Go.Ground.data }, { on := 2, ground := Go.Ground.guard }], guard := some (2, false) }) (v := ?_) rfl (by kernel_rfl) (by kernel_rfl) (by kernel_rfl) (fun _ _ _ h => h) (Or.inl ⟨by rfl, ?_⟩) (by assumption) ?_
                rotate_left 1
                · (intro w hSw; (try dsimp only at hSw); go_simp; try with_reducible rfl)
                (try simp only [Act.put, List.setIfInBounds_toArray, List.set_cons_zero, List.set_cons_succ])
                refine wpAnyH_take (i := 8) (oi := { dst := some 91, op := Go.Op.binOp Go.BinOp.neq 33 (Go.Operand.tmp 86) (Go.Operand.tmp 90) 33, type := 4, pos := "laws.go:301", after := #[{ on := 3, ground := Go.Ground.data }, { on := 7, ground := Go.Ground.data }, { on := 2, ground := Go.Ground.guard }], guard := some (2, false) }) (v := ?_) rfl (by kernel_rfl) (by kernel_rfl) (by kernel_rfl) (fun _ _ _ h => h) (Or.inl ⟨by rfl, ?_⟩) (by assumption) ?_
                rotate_left 1
                · (intro w hSw; (try dsimp only at hSw); go_simp; try with_reducible rfl)
                (try simp only [Act.put, List.setIfInBounds_toArray, List.set_cons_zero, List.set_cons_succ])
                refine wpAnyH_take (i := 9) (oi := { dst := some 92, op := Go.Op.move (Go.Operand.tmp 91), type := 4, pos := "laws.go:301", after := #[{ on := 8, ground := Go.Ground.data }, { on := 2, ground := Go.Ground.chain }, { on := 2, ground := Go.Ground.guard }], guard := some (2, false) }) (v := ?_) rfl (by kernel_rfl) (by kernel_rfl) (by kernel_rfl) (fun _ _ _ h => h) (Or.inl ⟨by rfl, ?_⟩) (by assumption) ?_
                rotate_left 1
                · (intro w hSw; (try dsimp only at hSw); go_simp; try with_reducible rfl)
                (try simp only [Act.put, List.setIfInBounds_toArray, List.set_cons_zero, List.set_cons_succ])
                refine wpAnyH_take (i := 10) (oi := { dst := some 93, op := Go.Op.load 33 (Go.Operand.tmp 10), type := 33, pos := "laws.go:301", after := #[{ on := 9, ground := Go.Ground.guard }], guard := some (9, true) }) (v := ?_) rfl (by kernel_rfl) (by kernel_rfl) (by kernel_rfl) (fun _ _ _ h => h) (Or.inl ⟨by rfl, ?_⟩) (by assumption) ?_
                rotate_left 1
                · (intro w hSw; (try dsimp only at hSw); go_simp; try with_reducible rfl)
                (try simp only [Act.put, List.setIfInBounds_toArray, List.set_cons_zero, List.set_cons_succ])
                refine wpAnyH_take (i := 11) (oi := { dst := some 94, op := Go.Op.move (Go.Operand.tmp 3), type := 23, pos := "laws.go:301", after := #[{ on := 9, ground := Go.Ground.guard }], guard := some (9, true) }) (v := ?_) rfl (by kernel_rfl) (by kernel_rfl) (by kernel_rfl) (fun _ _ _ h => h) (Or.inl ⟨by rfl, ?_⟩) (by assumption) ?_
                rotate_left 1
                · (intro w hSw; (try dsimp only at hSw); go_simp; try with_reducible rfl)
                (try simp only [Act.put, List.setIfInBounds_toArray, List.set_cons_zero, List.set_cons_succ])
                refine wpAnyH_take (i := 12) (oi := { dst := some 95, op := Go.Op.move (Go.Operand.tmp 9), type := 3, pos := "laws.go:301", after := #[{ on := 9, ground := Go.Ground.guard }], guard := some (9, true) }) (v := ?_) rfl (by kernel_rfl) (by kernel_rfl) (by kernel_rfl) (fun _ _ _ h => h) (Or.inl ⟨by rfl, ?_⟩) (by assumption) ?_
                rotate_left 1
                · (intro w hSw; (try dsimp only at hSw); go_simp; try with_reducible rfl)
                (try simp only [Act.put, List.setIfInBounds_toArray, List.set_cons_zero, List.set_cons_succ])
                refine wpAnyH_take (i := 13) (oi := { dst := some 96, op := Go.Op.indexAddr 23 (Go.Operand.tmp 94) (Go.Operand.tmp 95), type := 0, pos := "laws.go:301", after := #[{ on := 11, ground := Go.Ground.data }, { on := 12, ground := Go.Ground.data }, { on := 9, ground := Go.Ground.guard }], guard := some (9, true) }) (v := ?_) rfl (by kernel_rfl) (by kernel_rfl) (by kernel_rfl) (fun _ _ _ h => h) (Or.inl ⟨by rfl, ?_⟩) (by assumption) ?_
                rotate_left 1
                · (intro w hSw; (try dsimp only at hSw); go_simp; try with_reducible rfl)
                (try simp only [Act.put, List.setIfInBounds_toArray, List.set_cons_zero, List.set_cons_succ])
                refine wpAnyH_take (i := 14) (oi := { dst := some 97, op := Go.Op.load 33 (Go.Operand.tmp 96), type := 33, pos := "laws.go:301", after := #[{ on := 13, ground := Go.Ground.data }, { on := 9, ground := Go.Ground.guard }], guard := some (9, true) }) (v := ?_) rfl (by kernel_rfl) (by kernel_rfl) (by kernel_rfl) (fun _ _ _ h => h) (Or.inl ⟨by rfl, ?_⟩) (by assumption) ?_
                rotate_left 1
                · (intro w hSw; (try dsimp only at hSw); go_simp; try with_reducible rfl)
                (try simp only [Act.put, List.setIfInBounds_toArray, List.set_cons_zero, List.set_cons_succ])
                refine wpAnyH_ready (rs := [15]) (by kernel_rfl) (by simp) ?_
                refine AllReadyH.cons (o := { dst := some 98, op := Go.Op.call { callee := Go.Callee.value (Go.Operand.func 22), args := #[Go.Operand.tmp 93, Go.Operand.tmp 97], argTypes := #[33, 33] }, type := 4, pos := "laws.go:301", after := #[{ on := 10, ground := Go.Ground.data }, { on := 14, ground := Go.Ground.data }, { on := 9, ground := Go.Ground.chain }, { on := 9, ground := Go.Ground.guard }], guard := some (9, true) }) rfl (fun K hK => ?_) AllReadyH.nil
                go_simp
                refine (fover_lit _ _ _ _ _ _ _ _ true hov.out _).mono ?_; rintro e w90 ⟨rfl, b90⟩
                go_wp2_with fail
                refine hK.out _ _ ?_ (fun hHeld => ?_)
                · (try dsimp only); (refine ⟨?_, ?_, ?_, ?_, ?_, ?_, ?_, ?_⟩ <;> (repeat (first | with_reducible assumption | with_reducible refine keep_drew ?_ | with_reducible refine keep_below (by assumption) ?_)))
                clear hK K
                (try simp only [Act.put, List.setIfInBounds_toArray, List.set_cons_zero, List.set_cons_succ])
                refine wpAnyH_take (i := 16) (oi := { dst := some 99, op := Go.Op.unOp Go.UnOp.not 4 (Go.Operand.tmp 98), type := 4, pos := "laws.go:301", after := #[{ on := 15, ground := Go.Ground.data }, { on := 9, ground := Go.Ground.guard }], guard := some (9, true) }) (v := ?_) rfl (by kernel_rfl) (by kernel_rfl) (by kernel_rfl) (fun _ _ _ h => h) (Or.inl ⟨by rfl, ?_⟩) (by assumption) ?_
                rotate_left 1
                · (intro w hSw; (try dsimp only at hSw); go_simp; try with_reducible rfl)
                (try simp only [Act.put, List.setIfInBounds_toArray, List.set_cons_zero, List.set_cons_succ])
                refine wpAnyH_take (i := 17) (oi := { dst := some 100, op := Go.Op.pick (Go.Operand.tmp 92) (Go.Operand.tmp 99) (Go.Operand.const (Go.Value.bool false)), type := 4, pos := "laws.go:301", after := #[{ on := 9, ground := Go.Ground.data }, { on := 16, ground := Go.Ground.data }, { on := 2, ground := Go.Ground.guard }], guard := some (2, false) }) (v := ?_) rfl (by kernel_rfl) (by kernel_rfl) (by kernel_rfl) (fun _ _ _ h => h) (Or.inl ⟨by rfl, ?_⟩) (by assumption) ?_
                rotate_left 1
                · (intro w hSw; (try dsimp only at hSw); go_simp; try with_reducible rfl)
                (try simp only [Act.put, List.setIfInBounds_toArray, List.set_cons_zero, List.set_cons_succ])
                refine wpAnyH_take (i := 18) (oi := { dst := some 101, op := Go.Op.pick (Go.Operand.tmp 85) (Go.Operand.const (Go.Value.bool true)) (Go.Operand.tmp 100), type := 4, pos := "laws.go:301", after := #[{ on := 2, ground := Go.Ground.data }, { on := 17, ground := Go.Ground.data }], guard := none }) (v := ?_) rfl (by kernel_rfl) (by kernel_rfl) (by kernel_rfl) (fun _ _ _ h => h) (Or.inl ⟨by rfl, ?_⟩) (by assumption) ?_
                rotate_left 1
                · (intro w hSw; (try dsimp only at hSw); go_simp; try with_reducible rfl)
                (try simp only [Act.put, List.setIfInBounds_toArray, List.set_cons_zero, List.set_cons_succ])
                refine wpAnyH_done (by kernel_rfl) ?_ _
                have B90 := btrans (qd B8) b90
                clear hHeld b90
                go_wp2
                go_roundw
                case rel => exact ⟨k + 1, by omega, by go_num, B90⟩
                case measure => simp [intOf]; omega
              · refine wp_region_held_drew (S := fun w' => w'.cell? ⟨b6, 0, none⟩ = some (.int .i64 g0) ∧ w'.cell? ⟨b6, 1, none⟩ = some (.int .i64 g1) ∧ w'.cell? ⟨b6, 2, none⟩ = some (.int .i64 g2) ∧ w'.cell? ⟨b6, 3, none⟩ = some (.bool g3) ∧ w'.cell? ⟨b, off + k * 4, none⟩ = some (.int .i64 g0) ∧ w'.cell? ⟨b, off + k * 4 + 1, none⟩ = some (.int .i64 g1) ∧ w'.cell? ⟨b, off + k * 4 + 2, none⟩ = some (.int .i64 f2) ∧ w'.cell? ⟨b, off + k * 4 + 3, none⟩ = some (.bool f3)) (by kernel_rfl) ?_ (fun hHeld => ?_)
                · (try dsimp only); (refine ⟨?_, ?_, ?_, ?_, ?_, ?_, ?_, ?_⟩ <;> (repeat (first | with_reducible assumption | with_reducible refine keep_drew ?_ | with_reducible refine keep_below (by assumption) ?_)))
                refine wpAnyH_take (i := 0) (oi := { dst := some 83, op := Go.Op.move (Go.Operand.tmp 11), type := 4, pos := "laws.go:301", after := #[], guard := none }) (v := ?_) rfl (by kernel_rfl) (by kernel_rfl) (by kernel_rfl) (fun _ _ _ h => h) (Or.inl ⟨by rfl, ?_⟩) (by assumption) ?_
                rotate_left 1
                · (intro w hSw; (try dsimp only at hSw); go_simp; try with_reducible rfl)
                (try simp only [Act.put, List.setIfInBounds_toArray, List.set_cons_zero, List.set_cons_succ])
                refine wpAnyH_take (i := 1) (oi := { dst := some 84, op := Go.Op.unOp Go.UnOp.not 4 (Go.Operand.tmp 83), type := 4, pos := "laws.go:301", after := #[{ on := 0, ground := Go.Ground.data }], guard := none }) (v := ?_) rfl (by kernel_rfl) (by kernel_rfl) (by kernel_rfl) (fun _ _ _ h => h) (Or.inl ⟨by rfl, ?_⟩) (by assumption) ?_
                rotate_left 1
                · (intro w hSw; (try dsimp only at hSw); go_simp; try with_reducible rfl)
                (try simp only [Act.put, List.setIfInBounds_toArray, List.set_cons_zero, List.set_cons_succ])
                refine wpAnyH_take (i := 2) (oi := { dst := some 85, op := Go.Op.move (Go.Operand.tmp 84), type := 4, pos := "laws.go:301", after := #[{ on := 1, ground := Go.Ground.data }], guard := none }) (v := ?_) rfl (by kernel_rfl) (by kernel_rfl) (by kernel_rfl) (fun _ _ _ h => h) (Or.inl ⟨by rfl, ?_⟩) (by assumption) ?_
                rotate_left 1
                · (intro w hSw; (try dsimp only at hSw); go_simp; try with_reducible rfl)
                (try simp only [Act.put, List.setIfInBounds_toArray, List.set_cons_zero, List.set_cons_succ])
                refine wpAnyH_take (i := 3) (oi := { dst := some 86, op := Go.Op.load 33 (Go.Operand.tmp 10), type := 33, pos := "laws.go:301", after := #[{ on := 2, ground := Go.Ground.guard }], guard := some (2, false) }) (v := ?_) rfl (by kernel_rfl) (by kernel_rfl) (by kernel_rfl) (fun _ _ _ h => h) (Or.inl ⟨by rfl, ?_⟩) (by assumption) ?_
                rotate_left 1
                · (intro w hSw; (try dsimp only at hSw); go_simp; try with_reducible rfl)
                (try simp only [Act.put, List.setIfInBounds_toArray, List.set_cons_zero, List.set_cons_succ])
                refine wpAnyH_take (i := 4) (oi := { dst := some 87, op := Go.Op.move (Go.Operand.tmp 3), type := 23, pos := "laws.go:301", after := #[{ on := 2, ground := Go.Ground.guard }], guard := some (2, false) }) (v := ?_) rfl (by kernel_rfl) (by kernel_rfl) (by kernel_rfl) (fun _ _ _ h => h) (Or.inl ⟨by rfl, ?_⟩) (by assumption) ?_
                rotate_left 1
                · (intro w hSw; (try dsimp only at hSw); go_simp; try with_reducible rfl)
                (try simp only [Act.put, List.setIfInBounds_toArray, List.set_cons_zero, List.set_cons_succ])
                refine wpAnyH_take (i := 5) (oi := { dst := some 88, op := Go.Op.move (Go.Operand.tmp 9), type := 3, pos := "laws.go:301", after := #[{ on := 2, ground := Go.Ground.guard }], guard := some (2, false) }) (v := ?_) rfl (by kernel_rfl) (by kernel_rfl) (by kernel_rfl) (fun _ _ _ h => h) (Or.inl ⟨by rfl, ?_⟩) (by assumption) ?_
                rotate_left 1
                · (intro w hSw; (try dsimp only at hSw); go_simp; try with_reducible rfl)
                (try simp only [Act.put, List.setIfInBounds_toArray, List.set_cons_zero, List.set_cons_succ])
                refine wpAnyH_take (i := 6) (oi := { dst := some 89, op := Go.Op.indexAddr 23 (Go.Operand.tmp 87) (Go.Operand.tmp 88), type := 0, pos := "laws.go:301", after := #[{ on := 4, ground := Go.Ground.data }, { on := 5, ground := Go.Ground.data }, { on := 2, ground := Go.Ground.guard }], guard := some (2, false) }) (v := ?_) rfl (by kernel_rfl) (by kernel_rfl) (by kernel_rfl) (fun _ _ _ h => h) (Or.inl ⟨by rfl, ?_⟩) (by assumption) ?_
                rotate_left 1
                · (intro w hSw; (try dsimp only at hSw); go_simp; try with_reducible rfl)
                (try simp only [Act.put, List.setIfInBounds_toArray, List.set_cons_zero, List.set_cons_succ])
                refine wpAnyH_take (i := 7) (oi := { dst := some 90, op := Go.Op.load 33 (Go.Operand.tmp 89), type := 33, pos := "laws.go:301", after := #[{ on := 6, ground := Go.Ground.data }, { on := 2, ground := Go.Ground.guard }], guard := some (2, false) }) (v := ?_) rfl (by kernel_rfl) (by kernel_rfl) (by kernel_rfl) (fun _ _ _ h => h) (Or.inl ⟨by rfl, ?_⟩) (by assumption) ?_
                rotate_left 1
                · (intro w hSw; (try dsimp only at hSw); go_simp; try with_reducible rfl)
                (try simp only [Act.put, List.setIfInBounds_toArray, List.set_cons_zero, List.set_cons_succ])
                refine wpAnyH_take (i := 8) (oi := { dst := some 91, op := Go.Op.binOp Go.BinOp.neq 33 (Go.Operand.tmp 86) (Go.Operand.tmp 90) 33, type := 4, pos := "laws.go:301", after := #[{ on := 3, ground := Go.Ground.data }, { on := 7, ground := Go.Ground.data }, { on := 2, ground := Go.Ground.guard }], guard := some (2, false) }) (v := ?_) rfl (by kernel_rfl) (by kernel_rfl) (by kernel_rfl) (fun _ _ _ h => h) (Or.inl ⟨by rfl, ?_⟩) (by assumption) ?_
                rotate_left 1
                · (intro w hSw; (try dsimp only at hSw); go_simp; try with_reducible rfl)
                (try simp only [Act.put, List.setIfInBounds_toArray, List.set_cons_zero, List.set_cons_succ])
                refine wpAnyH_take (i := 9) (oi := { dst := some 92, op := Go.Op.move (Go.Operand.tmp 91), type := 4, pos := "laws.go:301", after := #[{ on := 8, ground := Go.Ground.data }, { on := 2, ground := Go.Ground.chain }, { on := 2, ground := Go.Ground.guard }], guard := some (2, false) }) (v := ?_) rfl (by kernel_rfl) (by kernel_rfl) (by kernel_rfl) (fun _ _ _ h => h) (Or.inl ⟨by rfl, ?_⟩) (by assumption) ?_
                rotate_left 1
                · (intro w hSw; (try dsimp only at hSw); go_simp; try with_reducible rfl)
                (try simp only [Act.put, List.setIfInBounds_toArray, List.set_cons_zero, List.set_cons_succ])
                refine wpAnyH_take (i := 10) (oi := { dst := some 93, op := Go.Op.load 33 (Go.Operand.tmp 10), type := 33, pos := "laws.go:301", after := #[{ on := 9, ground := Go.Ground.guard }], guard := some (9, true) }) (v := ?_) rfl (by kernel_rfl) (by kernel_rfl) (by kernel_rfl) (fun _ _ _ h => h) (Or.inl ⟨by rfl, ?_⟩) (by assumption) ?_
                rotate_left 1
                · (intro w hSw; (try dsimp only at hSw); go_simp; try with_reducible rfl)
                (try simp only [Act.put, List.setIfInBounds_toArray, List.set_cons_zero, List.set_cons_succ])
                refine wpAnyH_take (i := 11) (oi := { dst := some 94, op := Go.Op.move (Go.Operand.tmp 3), type := 23, pos := "laws.go:301", after := #[{ on := 9, ground := Go.Ground.guard }], guard := some (9, true) }) (v := ?_) rfl (by kernel_rfl) (by kernel_rfl) (by kernel_rfl) (fun _ _ _ h => h) (Or.inl ⟨by rfl, ?_⟩) (by assumption) ?_
                rotate_left 1
                · (intro w hSw; (try dsimp only at hSw); go_simp; try with_reducible rfl)
                (try simp only [Act.put, List.setIfInBounds_toArray, List.set_cons_zero, List.set_cons_succ])
                refine wpAnyH_take (i := 12) (oi := { dst := some 95, op := Go.Op.move (Go.Operand.tmp 9), type := 3, pos := "laws.go:301", after := #[{ on := 9, ground := Go.Ground.guard }], guard := some (9, true) }) (v := ?_) rfl (by kernel_rfl) (by kernel_rfl) (by kernel_rfl) (fun _ _ _ h => h) (Or.inl ⟨by rfl, ?_⟩) (by assumption) ?_
                rotate_left 1
                · (intro w hSw; (try dsimp only at hSw); go_simp; try with_reducible rfl)
                (try simp only [Act.put, List.setIfInBounds_toArray, List.set_cons_zero, List.set_cons_succ])
                refine wpAnyH_take (i := 13) (oi := { dst := some 96, op := Go.Op.indexAddr 23 (Go.Operand.tmp 94) (Go.Operand.tmp 95), type := 0, pos := "laws.go:301", after := #[{ on := 11, ground := Go.Ground.data }, { on := 12, ground := Go.Ground.data }, { on := 9, ground := Go.Ground.guard }], guard := some (9, true) }) (v := ?_) rfl (by kernel_rfl) (by kernel_rfl) (by kernel_rfl) (fun _ _ _ h => h) (Or.inl ⟨by rfl, ?_⟩) (by assumption) ?_
                rotate_left 1
                · (intro w hSw; (try dsimp only at hSw); go_simp; try with_reducible rfl)
                (try simp only [Act.put, List.setIfInBounds_toArray, List.set_cons_zero, List.set_cons_succ])
                refine wpAnyH_take (i := 14) (oi := { dst := some 97, op := Go.Op.load 33 (Go.Operand.tmp 96), type := 33, pos := "laws.go:301", after := #[{ on := 13, ground := Go.Ground.data }, { on := 9, ground := Go.Ground.guard }], guard := some (9, true) }) (v := ?_) rfl (by kernel_rfl) (by kernel_rfl) (by kernel_rfl) (fun _ _ _ h => h) (Or.inl ⟨by rfl, ?_⟩) (by assumption) ?_
                rotate_left 1
                · (intro w hSw; (try dsimp only at hSw); go_simp; try with_reducible rfl)
                (try simp only [Act.put, List.setIfInBounds_toArray, List.set_cons_zero, List.set_cons_succ])
                refine wpAnyH_ready (rs := [15]) (by kernel_rfl) (by simp) ?_
                refine AllReadyH.cons (o := { dst := some 98, op := Go.Op.call { callee := Go.Callee.value (Go.Operand.func 22), args := #[Go.Operand.tmp 93, Go.Operand.tmp 97], argTypes := #[33, 33] }, type := 4, pos := "laws.go:301", after := #[{ on := 10, ground := Go.Ground.data }, { on := 14, ground := Go.Ground.data }, { on := 9, ground := Go.Ground.chain }, { on := 9, ground := Go.Ground.guard }], guard := some (9, true) }) rfl (fun K hK => ?_) AllReadyH.nil
                go_simp
                refine (fover_lit _ _ _ _ _ _ _ _ true hov.out _).mono ?_; rintro e w90 ⟨rfl, b90⟩
                go_wp2_with fail
                refine hK.out _ _ ?_ (fun hHeld => ?_)
                · (try dsimp only); (refine ⟨?_, ?_, ?_, ?_, ?_, ?_, ?_, ?_⟩ <;> (repeat (first | with_reducible assumption | with_reducible refine keep_drew ?_ | with_reducible refine keep_below (by assumption) ?_)))
                clear hK K
                (try simp only [Act.put, List.setIfInBounds_toArray, List.set_cons_zero, List.set_cons_succ])
                refine wpAnyH_take (i := 16) (oi := { dst := some 99, op := Go.Op.unOp Go.UnOp.not 4 (Go.Operand.tmp 98), type := 4, pos := "laws.go:301", after := #[{ on := 15, ground := Go.Ground.data }, { on := 9, ground := Go.Ground.guard }], guard := some (9, true) }) (v := ?_) rfl (by kernel_rfl) (by kernel_rfl) (by kernel_rfl) (fun _ _ _ h => h) (Or.inl ⟨by rfl, ?_⟩) (by assumption) ?_
                rotate_left 1
                · (intro w hSw; (try dsimp only at hSw); go_simp; try with_reducible rfl)
                (try simp only [Act.put, List.setIfInBounds_toArray, List.set_cons_zero, List.set_cons_succ])
                refine wpAnyH_take (i := 17) (oi := { dst := some 100, op := Go.Op.pick (Go.Operand.tmp 92) (Go.Operand.tmp 99) (Go.Operand.const (Go.Value.bool false)), type := 4, pos := "laws.go:301", after := #[{ on := 9, ground := Go.Ground.data }, { on := 16, ground := Go.Ground.data }, { on := 2, ground := Go.Ground.guard }], guard := some (2, false) }) (v := ?_) rfl (by kernel_rfl) (by kernel_rfl) (by kernel_rfl) (fun _ _ _ h => h) (Or.inl ⟨by rfl, ?_⟩) (by assumption) ?_
                rotate_left 1
                · (intro w hSw; (try dsimp only at hSw); go_simp; try with_reducible rfl)
                (try simp only [Act.put, List.setIfInBounds_toArray, List.set_cons_zero, List.set_cons_succ])
                refine wpAnyH_take (i := 18) (oi := { dst := some 101, op := Go.Op.pick (Go.Operand.tmp 85) (Go.Operand.const (Go.Value.bool true)) (Go.Operand.tmp 100), type := 4, pos := "laws.go:301", after := #[{ on := 2, ground := Go.Ground.data }, { on := 17, ground := Go.Ground.data }], guard := none }) (v := ?_) rfl (by kernel_rfl) (by kernel_rfl) (by kernel_rfl) (fun _ _ _ h => h) (Or.inl ⟨by rfl, ?_⟩) (by assumption) ?_
                rotate_left 1
                · (intro w hSw; (try dsimp only at hSw); go_simp; try with_reducible rfl)
                (try simp only [Act.put, List.setIfInBounds_toArray, List.set_cons_zero, List.set_cons_succ])
                refine wpAnyH_done (by kernel_rfl) ?_ _
                have B90 := btrans (qd B8) b90
                clear hHeld b90
                go_wp2
                go_roundw
                case rel => exact ⟨k + 1, by omega, by go_num, B90⟩
                case measure => simp [intOf]; omega
              · refine wp_region_held_drew (S := fun w' => w'.cell? ⟨b6, 0, none⟩ = some (.int .i64 g0) ∧ w'.cell? ⟨b6, 1, none⟩ = some (.int .i64 g1) ∧ w'.cell? ⟨b6, 2, none⟩ = some (.int .i64 g2) ∧ w'.cell? ⟨b6, 3, none⟩ = some (.bool g3) ∧ w'.cell? ⟨b, off + k * 4, none⟩ = some (.int .i64 g0) ∧ w'.cell? ⟨b, off + k * 4 + 1, none⟩ = some (.int .i64 g1) ∧ w'.cell? ⟨b, off + k * 4 + 2, none⟩ = some (.int .i64 g2) ∧ w'.cell? ⟨b, off + k * 4 + 3, none⟩ = some (.bool f3)) (by kernel_rfl) ?_ (fun hHeld => ?_)
                · (try dsimp only); (refine ⟨?_, ?_, ?_, ?_, ?_, ?_, ?_, ?_⟩ <;> (repeat (first | with_reducible assumption | with_reducible refine keep_drew ?_ | with_reducible refine keep_below (by assumption) ?_)))
                refine wpAnyH_take (i := 0) (oi := { dst := some 83, op := Go.Op.move (Go.Operand.tmp 11), type := 4, pos := "laws.go:301", after := #[], guard := none }) (v := ?_) rfl (by kernel_rfl) (by kernel_rfl) (by kernel_rfl) (fun _ _ _ h => h) (Or.inl ⟨by rfl, ?_⟩) (by assumption) ?_
                rotate_left 1
                · (intro w hSw; (try dsimp only at hSw); go_simp; try with_reducible rfl)
                (try simp only [Act.put, List.setIfInBounds_toArray, List.set_cons_zero, List.set_cons_succ])
                refine wpAnyH_take (i := 1) (oi := { dst := some 84, op := Go.Op.unOp Go.UnOp.not 4 (Go.Operand.tmp 83), type := 4, pos := "laws.go:301", after := #[{ on := 0, ground := Go.Ground.data }], guard := none }) (v := ?_) rfl (by kernel_rfl) (by kernel_rfl) (by kernel_rfl) (fun _ _ _ h => h) (Or.inl ⟨by rfl, ?_⟩) (by assumption) ?_
                rotate_left 1
                · (intro w hSw; (try dsimp only at hSw); go_simp; try with_reducible rfl)
                (try simp only [Act.put, List.setIfInBounds_toArray, List.set_cons_zero, List.set_cons_succ])
                refine wpAnyH_take (i := 2) (oi := { dst := some 85, op := Go.Op.move (Go.Operand.tmp 84), type := 4, pos := "laws.go:301", after := #[{ on := 1, ground := Go.Ground.data }], guard := none }) (v := ?_) rfl (by kernel_rfl) (by kernel_rfl) (by kernel_rfl) (fun _ _ _ h => h) (Or.inl ⟨by rfl, ?_⟩) (by assumption) ?_
                rotate_left 1
                · (intro w hSw; (try dsimp only at hSw); go_simp; try with_reducible rfl)
                (try simp only [Act.put, List.setIfInBounds_toArray, List.set_cons_zero, List.set_cons_succ])
                refine wpAnyH_take (i := 3) (oi := { dst := some 86, op := Go.Op.load 33 (Go.Operand.tmp 10), type := 33, pos := "laws.go:301", after := #[{ on := 2, ground := Go.Ground.guard }], guard := some (2, false) }) (v := ?_) rfl (by kernel_rfl) (by kernel_rfl) (by kernel_rfl) (fun _ _ _ h => h) (Or.inl ⟨by rfl, ?_⟩) (by assumption) ?_
                rotate_left 1
                · (intro w hSw; (try dsimp only at hSw); go_simp; try with_reducible rfl)
                (try simp only [Act.put, List.setIfInBounds_toArray, List.set_cons_zero, List.set_cons_succ])
                refine wpAnyH_take (i := 4) (oi := { dst := some 87, op := Go.Op.move (Go.Operand.tmp 3), type := 23, pos := "laws.go:301", after := #[{ on := 2, ground := Go.Ground.guard }], guard := some (2, false) }) (v := ?_) rfl (by kernel_rfl) (by kernel_rfl) (by kernel_rfl) (fun _ _ _ h => h) (Or.inl ⟨by rfl, ?_⟩) (by assumption) ?_
                rotate_left 1
                · (intro w hSw; (try dsimp only at hSw); go_simp; try with_reducible rfl)
                (try simp only [Act.put, List.setIfInBounds_toArray, List.set_cons_zero, List.set_cons_succ])
                refine wpAnyH_take (i := 5) (oi := { dst := some 88, op := Go.Op.move (Go.Operand.tmp 9), type := 3, pos := "laws.go:301", after := #[{ on := 2, ground := Go.Ground.guard }], guard := some (2, false) }) (v := ?_) rfl (by kernel_rfl) (by kernel_rfl) (by kernel_rfl) (fun _ _ _ h => h) (Or.inl ⟨by rfl, ?_⟩) (by assumption) ?_
                rotate_left 1
                · (intro w hSw; (try dsimp only at hSw); go_simp; try with_reducible rfl)
                (try simp only [Act.put, List.setIfInBounds_toArray, List.set_cons_zero, List.set_cons_succ])
                refine wpAnyH_take (i := 6) (oi := { dst := some 89, op := Go.Op.indexAddr 23 (Go.Operand.tmp 87) (Go.Operand.tmp 88), type := 0, pos := "laws.go:301", after := #[{ on := 4, ground := Go.Ground.data }, { on := 5, ground := Go.Ground.data }, { on := 2, ground := Go.Ground.guard }], guard := some (2, false) }) (v := ?_) rfl (by kernel_rfl) (by kernel_rfl) (by kernel_rfl) (fun _ _ _ h => h) (Or.inl ⟨by rfl, ?_⟩) (by assumption) ?_
                rotate_left 1
                · (intro w hSw; (try dsimp only at hSw); go_simp; try with_reducible rfl)
                (try simp only [Act.put, List.setIfInBounds_toArray, List.set_cons_zero, List.set_cons_succ])
                refine wpAnyH_take (i := 7) (oi := { dst := some 90, op := Go.Op.load 33 (Go.Operand.tmp 89), type := 33, pos := "laws.go:301", after := #[{ on := 6, ground := Go.Ground.data }, { on := 2, ground := Go.Ground.guard }], guard := some (2, false) }) (v := ?_) rfl (by kernel_rfl) (by kernel_rfl) (by kernel_rfl) (fun _ _ _ h => h) (Or.inl ⟨by rfl, ?_⟩) (by assumption) ?_
                rotate_left 1
                · (intro w hSw; (try dsimp only at hSw); go_simp; try with_reducible rfl)
                (try simp only [Act.put, List.setIfInBounds_toArray, List.set_cons_zero, List.set_cons_succ])
                refine wpAnyH_take (i := 8) (oi := { dst := some 91, op := Go.Op.binOp Go.BinOp.neq 33 (Go.Operand.tmp 86) (Go.Operand.tmp 90) 33, type := 4, pos := "laws.go:301", after := #[{ on := 3, ground := Go.Ground.data }, { on := 7, ground := Go.Ground.data }, { on := 2, ground := Go.Ground.guard }], guard := some (2, false) }) (v := ?_) rfl (by kernel_rfl) (by kernel_rfl) (by kernel_rfl) (fun _ _ _ h => h) (Or.inl ⟨by rfl, ?_⟩) (by assumption) ?_
                rotate_left 1
                · (intro w hSw; (try dsimp only at hSw); go_simp; try with_reducible rfl)
                (try simp only [Act.put, List.setIfInBounds_toArray, List.set_cons_zero, List.set_cons_succ])
                refine wpAnyH_take (i := 9) (oi := { dst := some 92, op := Go.Op.move (Go.Operand.tmp 91), type := 4, pos := "laws.go:301", after := #[{ on := 8, ground := Go.Ground.data }, { on := 2, ground := Go.Ground.chain }, { on := 2, ground := Go.Ground.guard }], guard := some (2, false) }) (v := ?_) rfl (by kernel_rfl) (by kernel_rfl) (by kernel_rfl) (fun _ _ _ h => h) (Or.inl ⟨by rfl, ?_⟩) (by assumption) ?_
                rotate_left 1
                · (intro w hSw; (try dsimp only at hSw); go_simp; try with_reducible rfl)
                (try simp only [Act.put, List.setIfInBounds_toArray, List.set_cons_zero, List.set_cons_succ])
                refine wpAnyH_take (i := 10) (oi := { dst := some 93, op := Go.Op.load 33 (Go.Operand.tmp 10), type := 33, pos := "laws.go:301", after := #[{ on := 9, ground := Go.Ground.guard }], guard := some (9, true) }) (v := ?_) rfl (by kernel_rfl) (by kernel_rfl) (by kernel_rfl) (fun _ _ _ h => h) (Or.inl ⟨by rfl, ?_⟩) (by assumption) ?_
                rotate_left 1
                · (intro w hSw; (try dsimp only at hSw); go_simp; try with_reducible rfl)
                (try simp only [Act.put, List.setIfInBounds_toArray, List.set_cons_zero, List.set_cons_succ])
                refine wpAnyH_take (i := 11) (oi := { dst := some 94, op := Go.Op.move (Go.Operand.tmp 3), type := 23, pos := "laws.go:301", after := #[{ on := 9, ground := Go.Ground.guard }], guard := some (9, true) }) (v := ?_) rfl (by kernel_rfl) (by kernel_rfl) (by kernel_rfl) (fun _ _ _ h => h) (Or.inl ⟨by rfl, ?_⟩) (by assumption) ?_
                rotate_left 1
                · (intro w hSw; (try dsimp only at hSw); go_simp; try with_reducible rfl)
                (try simp only [Act.put, List.setIfInBounds_toArray, List.set_cons_zero, List.set_cons_succ])
                refine wpAnyH_take (i := 12) (oi := { dst := some 95, op := Go.Op.move (Go.Operand.tmp 9), type := 3, pos := "laws.go:301", after := #[{ on := 9, ground := Go.Ground.guard }], guard := some (9, true) }) (v := ?_) rfl (by kernel_rfl) (by kernel_rfl) (by kernel_rfl) (fun _ _ _ h => h) (Or.inl ⟨by rfl, ?_⟩) (by assumption) ?_
                rotate_left 1
                · (intro w hSw; (try dsimp only at hSw); go_simp; try with_reducible rfl)
                (try simp only [Act.put, List.setIfInBounds_toArray, List.set_cons_zero, List.set_cons_succ])
                refine wpAnyH_take (i := 13) (oi := { dst := some 96, op := Go.Op.indexAddr 23 (Go.Operand.tmp 94) (Go.Operand.tmp 95), type := 0, pos := "laws.go:301", after := #[{ on := 11, ground := Go.Ground.data }, { on := 12, ground := Go.Ground.data }, { on := 9, ground := Go.Ground.guard }], guard := some (9, true) }) (v := ?_) rfl (by kernel_rfl) (by kernel_rfl) (by kernel_rfl) (fun _ _ _ h => h) (Or.inl ⟨by rfl, ?_⟩) (by assumption) ?_
                rotate_left 1
                · (intro w hSw; (try dsimp only at hSw); go_simp; try with_reducible rfl)
                (try simp only [Act.put, List.setIfInBounds_toArray, List.set_cons_zero, List.set_cons_succ])
                refine wpAnyH_take (i := 14) (oi := { dst := some 97, op := Go.Op.load 33 (Go.Operand.tmp 96), type := 33, pos := "laws.go:301", after := #[{ on := 13, ground := Go.Ground.data }, { on := 9, ground := Go.Ground.guard }], guard := some (9, true) }) (v := ?_) rfl (by kernel_rfl) (by kernel_rfl) (by kernel_rfl) (fun _ _ _ h => h) (Or.inl ⟨by rfl, ?_⟩) (by assumption) ?_
                rotate_left 1
                · (intro w hSw; (try dsimp only at hSw); go_simp; try with_reducible rfl)
                (try simp only [Act.put, List.setIfInBounds_toArray, List.set_cons_zero, List.set_cons_succ])
                refine wpAnyH_ready (rs := [15]) (by kernel_rfl) (by simp) ?_
                refine AllReadyH.cons (o := { dst := some 98, op := Go.Op.call { callee := Go.Callee.value (Go.Operand.func 22), args := #[Go.Operand.tmp 93, Go.Operand.tmp 97], argTypes := #[33, 33] }, type := 4, pos := "laws.go:301", after := #[{ on := 10, ground := Go.Ground.data }, { on := 14, ground := Go.Ground.data }, { on := 9, ground := Go.Ground.chain }, { on := 9, ground := Go.Ground.guard }], guard := some (9, true) }) rfl (fun K hK => ?_) AllReadyH.nil
                go_simp
                refine (fover_lit _ _ _ _ _ _ _ _ true hov.out _).mono ?_; rintro e w90 ⟨rfl, b90⟩
                go_wp2_with fail
                refine hK.out _ _ ?_ (fun hHeld => ?_)
                · (try dsimp only); (refine ⟨?_, ?_, ?_, ?_, ?_, ?_, ?_, ?_⟩ <;> (repeat (first | with_reducible assumption | with_reducible refine keep_drew ?_ | with_reducible refine keep_below (by assumption) ?_)))
                clear hK K
                (try simp only [Act.put, List.setIfInBounds_toArray, List.set_cons_zero, List.set_cons_succ])
                refine wpAnyH_take (i := 16) (oi := { dst := some 99, op := Go.Op.unOp Go.UnOp.not 4 (Go.Operand.tmp 98), type := 4, pos := "laws.go:301", after := #[{ on := 15, ground := Go.Ground.data }, { on := 9, ground := Go.Ground.guard }], guard := some (9, true) }) (v := ?_) rfl (by kernel_rfl) (by kernel_rfl) (by kernel_rfl) (fun _ _ _ h => h) (Or.inl ⟨by rfl, ?_⟩) (by assumption) ?_
                rotate_left 1
                · (intro w hSw; (try dsimp only at hSw); go_simp; try with_reducible rfl)
                (try simp only [Act.put, List.setIfInBounds_toArray, List.set_cons_zero, List.set_cons_succ])
                refine wpAnyH_take (i := 17) (oi := { dst := some 100, op := Go.Op.pick (Go.Operand.tmp 92) (Go.Operand.tmp 99) (Go.Operand.const (Go.Value.bool false)), type := 4, pos := "laws.go:301", after := #[{ on := 9, ground := Go.Ground.data }, { on := 16, ground := Go.Ground.data }, { on := 2, ground := Go.Ground.guard }], guard := some (2, false) }) (v := ?_) rfl (by kernel_rfl) (by kernel_rfl) (by kernel_rfl) (fun _ _ _ h => h) (Or.inl ⟨by rfl, ?_⟩) (by assumption) ?_
                rotate_left 1
                · (intro w hSw; (try dsimp only at hSw); go_simp; try with_reducible rfl)
                (try simp only [Act.put, List.setIfInBounds_toArray, List.set_cons_zero, List.set_cons_succ])
                refine wpAnyH_take (i := 18) (oi := { dst := some 101, op := Go.Op.pick (Go.Operand.tmp 85) (Go.Operand.const (Go.Value.bool true)) (Go.Operand.tmp 100), type := 4, pos := "laws.go:301", after := #[{ on := 2, ground := Go.Ground.data }, { on := 17, ground := Go.Ground.data }], guard := none }) (v := ?_) rfl (by kernel_rfl) (by kernel_rfl) (by kernel_rfl) (fun _ _ _ h => h) (Or.inl ⟨by rfl, ?_⟩) (by assumption) ?_
                rotate_left 1
                · (intro w hSw; (try dsimp only at hSw); go_simp; try with_reducible rfl)
                (try simp only [Act.put, List.setIfInBounds_toArray, List.set_cons_zero, List.set_cons_succ])
                refine wpAnyH_done (by kernel_rfl) ?_ _
                have B90 := btrans (qd B8) b90
                clear hHeld b90
                go_wp2
                go_roundw
                case rel => exact ⟨k + 1, by omega, by go_num, B90⟩
                case measure => simp [intOf]; omega
          · have Be := btrans B11 hb
            replace hT := hT.below hb
            replace h3 := h3.below hb
            replace d0 := keep_below hb d0
            replace d1 := keep_below hb d1
            replace d2 := keep_below hb d2
            replace d3 := keep_below hb d3
            have kx : ¬ (k : Int) < (T.length : Int) := by omega
            clear hb hK
            obtain ⟨⟨g0, g1, g2, g3⟩, e1', e2, hfk, hgk, e4⟩ := hE.out
            obtain ⟨f0, f1, f2, f3⟩ := f
            dsimp only at e1' e2 d0 d1 d2 d3
            subst e2
            have hwf : (Lit.int .i64 g0).wf = true := fok_wf hgk
            have e1h : Hid _ := e1'
            clear e1' hE
            go_wp2_with fail
            refine (of_litt a3 X.length c3 (gd X) g0 (some ⟨g0, g1, g2, g3⟩) _ h3 (by omega) hwf e1h.out).mono ?_
            rintro r w13 ⟨rfl, b13⟩
            have B13 := btrans Be b13
            replace hT := hT.below b13
            replace h3 := h3.below b13
            replace d0 := keep_below b13 d0
            replace d1 := keep_below b13 d1
            replace d2 := keep_below b13 d2
            replace d3 := keep_below b13 d3
            clear b13
            have p8 : (w13.alloc (.cells #[.int .i64 g0, .int .i64 g1, .int .i64 g2, .bool g3] 33)).heap[w13.heap.size]? = some (.cells #[.int .i64 g0, .int .i64 g1, .int .i64 g2, .bool g3] 33 (0, 0)) := heap_alloc_new _ _
            have bn : Below w13.heap.size w13 (w13.alloc (.cells #[.int .i64 g0, .int .i64 g1, .int .i64 g2, .bool g3] 33)) := balloc _ (Below.refl _ _)
            simp only [Option.getD, Option.isSome, fval]
            have he' := diff3' (g1 := g1) (g2 := g2) (g3 := g3) (f1 := f1) (f2 := f2) (f3 := f3)
            rcases he' with ⟨rfl, rfl, rfl⟩ | ⟨z0, z1⟩ | ⟨rfl, z0, z1⟩ | ⟨rfl, rfl, z0, z1⟩
            · have d0' := keep_below bn d0
              have d1' := keep_below bn d1
              have d2' := keep_below bn d2
              have d3' := keep_below bn d3
              have Bn := btrans B13 bn
              have hTn := hT.below bn
              have h3n := h3.below bn
              have u0 := cell_block (o := 0) (v := .int .i64 g0) p8 rfl
              have u1 := cell_block (o := 1) (v := .int .i64 g1) p8 rfl
              have u2 := cell_block (o := 2) (v := .int .i64 g2) p8 rfl
              have u3 := cell_block (o := 3) (v := .bool g3) p8 rfl
              clear e4 hfk hgk bn p8 hT h3 d0 d1 d2 d3 e1h
              go_wp2_with fail
              generalize (w13.alloc (.cells #[.int .i64 g0, .int .i64 g1, .int .i64 g2, .bool g3] 33)) = wn at *
              cases q
              · have eX := hM.out rfl
                subst eX
                refine (llh a3 c3 a1 c1 X _ h3n hTn lX).mono ?_
                rintro r w14 ⟨rfl, b14⟩
                have B14 := btrans Bn b14
                replace hTn := hTn.below b14
                replace h3n := h3n.below b14
                clear b14
                go_wp2_with fail
                refine (lok a3 c3 X true _ h3n lX hXok.out).mono ?_
                rintro r w15 ⟨rfl, b15⟩
                have B15 := btrans B14 b15
                replace hTn := hTn.below b15
                replace h3n := h3n.below b15
                clear b15
                go_wp2
                go_ret
                exact ⟨rfl, B15⟩
              · have hne : Hid (X ≠ T) := hN.out rfl
                clear hN hM
                refine (lhd a3 c3 X a1 c1 T _ h3n hTn lX hne.out).mono ?_
                rintro r w14 ⟨rfl, b14⟩
                have B14 := btrans Bn b14
                replace hTn := hTn.below b14
                replace h3n := h3n.below b14
                clear b14
                go_wp2_with fail
                refine (lok a3 c3 X true _ h3n lX hXok.out).mono ?_
                rintro r w15 ⟨rfl, b15⟩
                have B15 := btrans B14 b15
                replace hTn := hTn.below b15
                replace h3n := h3n.below b15
                clear b15
                go_wp2
                go_ret
                exact ⟨rfl, B15⟩
            · have ho' : Hid (overB g0 g1 g2 g3 g0 f1 f2 f3 = true) := over_of hgk hfk rfl (by
                rcases e4 with e4 | e4
                · simp only [Fc.mk.injEq, true_and] at e4
                  simp_all
                · exact e4)
              have d0' := keep_below bn d0
              have d1' := keep_below bn d1
              have d2' := keep_below bn d2
              have d3' := keep_below bn d3
              have Bn := btrans B13 bn
              have hTn := hT.below bn
              have h3n := h3.below bn
              have u0 := cell_block (o := 0) (v := .int .i64 g0) p8 rfl
              have u1 := cell_block (o := 1) (v := .int .i64 g1) p8 rfl
              have u2 := cell_block (o := 2) (v := .int .i64 g2) p8 rfl
              have u3 := cell_block (o := 3) (v := .bool g3) p8 rfl
              clear e4 hfk hgk bn p8 hT h3 d0 d1 d2 d3 e1h
              go_wp2_with fail
              generalize (w13.alloc (.cells #[.int .i64 g0, .int .i64 g1, .int .i64 g2, .bool g3] 33)) = wn at *
              refine (fover_lit _ _ _ _ _ _ _ _ true ho'.out _).mono ?_
              rintro r w14 ⟨rfl, b14⟩
              have B14 := btrans Bn b14
              replace hTn := hTn.below b14
              replace h3n := h3n.below b14
              clear b14
              cases q
              · have eX := hM.out rfl
                subst eX
                go_wp2_with fail
                refine (llh a3 c3 a1 c1 X _ h3n hTn lX).mono ?_
                rintro r w15 ⟨rfl, b15⟩
                have B15 := btrans B14 b15
                replace hTn := hTn.below b15
                replace h3n := h3n.below b15
                clear b15
                go_wp2_with fail
                refine (lok a3 c3 X true _ h3n lX hXok.out).mono ?_
                rintro r w16 ⟨rfl, b16⟩
                have B16 := btrans B15 b16
                replace hTn := hTn.below b16
                replace h3n := h3n.below b16
                clear b16
                go_wp2
                go_ret
                exact ⟨rfl, B16⟩
              · have hne : Hid (X ≠ T) := hN.out rfl
                clear hN hM
                go_wp2_with fail
                refine (lhd a3 c3 X a1 c1 T _ h3n hTn lX hne.out).mono ?_
                rintro r w15 ⟨rfl, b15⟩
                have B15 := btrans B14 b15
                replace hTn := hTn.below b15
                replace h3n := h3n.below b15
                clear b15
                go_wp2_with fail
                refine (lok a3 c3 X true _ h3n lX hXok.out).mono ?_
                rintro r w16 ⟨rfl, b16⟩
                have B16 := btrans B15 b16
                replace hTn := hTn.below b16
                replace h3n := h3n.below b16
                clear b16
                go_wp2
                go_ret
                exact ⟨rfl, B16⟩
            · have ho' : Hid (overB g0 g1 g2 g3 g0 g1 f2 f3 = true) := over_of hgk hfk rfl (by
                rcases e4 with e4 | e4
                · simp only [Fc.mk.injEq, true_and] at e4
                  simp_all
                · exact e4)
              have d0' := keep_below bn d0
              have d1' := keep_below bn d1
              have d2' := keep_below bn d2
              have d3' := keep_below bn d3
              have Bn := btrans B13 bn
              have hTn := hT.below bn
              have h3n := h3.below bn
              have u0 := cell_block (o := 0) (v := .int .i64 g0) p8 rfl
              have u1 := cell_block (o := 1) (v := .int .i64 g1) p8 rfl
              have u2 := cell_block (o := 2) (v := .int .i64 g2) p8 rfl
              have u3 := cell_block (o := 3) (v := .bool g3) p8 rfl
              clear e4 hfk hgk bn p8 hT h3 d0 d1 d2 d3 e1h
              go_wp2_with fail
              generalize (w13.alloc (.cells #[.int .i64 g0, .int .i64 g1, .int .i64 g2, .bool g3] 33)) = wn at *
              refine (fover_lit _ _ _ _ _ _ _ _ true ho'.out _).mono ?_
              rintro r w14 ⟨rfl, b14⟩
              have B14 := btrans Bn b14
              replace hTn := hTn.below b14
              replace h3n := h3n.below b14
              clear b14
              cases q
              · have eX := hM.out rfl
                subst eX
                go_wp2_with fail
                refine (llh a3 c3 a1 c1 X _ h3n hTn lX).mono ?_
                rintro r w15 ⟨rfl, b15⟩
                have B15 := btrans B14 b15
                replace hTn := hTn.below b15
                replace h3n := h3n.below b15
                clear b15
                go_wp2_with fail
                refine (lok a3 c3 X true _ h3n lX hXok.out).mono ?_
                rintro r w16 ⟨rfl, b16⟩
                have B16 := btrans B15 b16
                replace hTn := hTn.below b16
                replace h3n := h3n.below b16
                clear b16
                go_wp2
                go_ret
                exact ⟨rfl, B16⟩
              · have hne : Hid (X ≠ T) := hN.out rfl
                clear hN hM
                go_wp2_with fail
                refine (lhd a3 c3 X a1 c1 T _ h3n hTn lX hne.out).mono ?_
                rintro r w15 ⟨rfl, b15⟩
                have B15 := btrans B14 b15
                replace hTn := hTn.below b15
                replace h3n := h3n.below b15
                clear b15
                go_wp2_with fail
                refine (lok a3 c3 X true _ h3n lX hXok.out).mono ?_
                rintro r w16 ⟨rfl, b16⟩
                have B16 := btrans B15 b16
                replace hTn := hTn.below b16
                replace h3n := h3n.below b16
                clear b16
                go_wp2
                go_ret
                exact ⟨rfl, B16⟩
            · have ho' : Hid (overB g0 g1 g2 g3 g0 g1 g2 f3 = true) := over_of hgk hfk rfl (by
                rcases e4 with e4 | e4
                · simp only [Fc.mk.injEq, true_and] at e4
                  simp_all
                · exact e4)
              have d0' := keep_below bn d0
              have d1' := keep_below bn d1
              have d2' := keep_below bn d2
              have d3' := keep_below bn d3
              have Bn := btrans B13 bn
              have hTn := hT.below bn
              have h3n := h3.below bn
              have u0 := cell_block (o := 0) (v := .int .i64 g0) p8 rfl
              have u1 := cell_block (o := 1) (v := .int .i64 g1) p8 rfl
              have u2 := cell_block (o := 2) (v := .int .i64 g2) p8 rfl
              have u3 := cell_block (o := 3) (v := .bool g3) p8 rfl
              clear e4 hfk hgk bn p8 hT h3 d0 d1 d2 d3 e1h
              go_wp2_with fail
              generalize (w13.alloc (.cells #[.int .i64 g0, .int .i64 g1, .int .i64 g2, .bool g3] 33)) = wn at *
              refine (fover_lit _ _ _ _ _ _ _ _ true ho'.out _).mono ?_
              rintro r w14 ⟨rfl, b14⟩
              have B14 := btrans Bn b14
              replace hTn := hTn.below b14
              replace h3n := h3n.below b14
              clear b14
              cases q
              · have eX := hM.out rfl
                subst eX
                go_wp2_with fail
                refine (llh a3 c3 a1 c1 X _ h3n hTn lX).mono ?_
                rintro r w15 ⟨rfl, b15⟩
                have B15 := btrans B14 b15
                replace hTn := hTn.below b15
                replace h3n := h3n.below b15
                clear b15
                go_wp2_with fail
                refine (lok a3 c3 X true _ h3n lX hXok.out).mono ?_
                rintro r w16 ⟨rfl, b16⟩
                have B16 := btrans B15 b16
                replace hTn := hTn.below b16
                replace h3n := h3n.below b16
                clear b16
                go_wp2
                go_ret
                exact ⟨rfl, B16⟩
              · have hne : Hid (X ≠ T) := hN.out rfl
                clear hN hM
                go_wp2_with fail
                refine (lhd a3 c3 X a1 c1 T _ h3n hTn lX hne.out).mono ?_
                rintro r w15 ⟨rfl, b15⟩
                have B15 := btrans B14 b15
                replace hTn := hTn.below b15
                replace h3n := h3n.below b15
                clear b15
                go_wp2_with fail
                refine (lok a3 c3 X true _ h3n lX hXok.out).mono ?_
                rintro r w16 ⟨rfl, b16⟩
                have B16 := btrans B15 b16
                replace hTn := hTn.below b16
                replace h3n := h3n.below b16
                clear b16
                go_wp2
                go_ret
                exact ⟨rfl, B16⟩
  · have j0 : (1048576 : Int) < (len : Int) := by omega
    go_enter Tryz.func6, Tryz.ntmps6
    go_wp2
    go_ret
    exact ⟨rfl, Below.refl _ _⟩
end Go.Proofs.YtogoehaagdldnaaGreatDoor
