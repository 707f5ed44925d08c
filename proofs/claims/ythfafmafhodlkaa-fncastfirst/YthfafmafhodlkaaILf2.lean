/- What was told least is told first: the law's walk. -/
import Derived.Test.YthfafmafhodlkaaILf
namespace Go.Proofs.Ythfafmafhodlkaa.I
open Go.ChangeShapes Go.WideShapes Go.ChangeAt Go.RowKit
attribute [local go_sem ↓] Go.wp_at_zero Go.wp_at_succ
theorem cok_lit (a : Option Addr) (len cap : Nat) (F : Nat → It) (q : Bool) (w : World) (h : TSl w a len F) (hl : len ≤ 1048576) (hq : cokB len F = q) :
    Calls Try.prog 11 #[.slice a len cap] w fun e w' => e = .returned (.bool q) ∧ Below w.heap.size w w' := hq ▸ cok_any a len cap F w h hl
set_option maxRecDepth 20000 in
set_option maxHeartbeats 8000000 in
theorem first_walk (a : Option Addr) (len cap : Nat) (w : World) (h : Bytes w.heap.size w a len) (hl : len ≤ cap) :
    Calls Try.prog 4 #[.slice a len cap] w fun r w' => r = .returned (.bool true) ∧ Below w.heap.size w w' := by
  by_cases hlen : len ≤ 1048576
  · have j0 : ¬ (1048576 : Int) < (len : Int) := by omega
    go_enter Try.func4, Try.ntmps4
    go_wp2_with fail
    refine (drawCT_any a len cap _ h hl).mono ?_
    rintro r w1 ⟨a1, c1, L, most, rfl, oL, hL7, hm0, hm1, B1⟩
    obtain ⟨_, _, q, -, -, iL⟩ := own_facts oL
    cases q
    have hlF := takF_len L most
    have hlL := takL_len L most
    have hlF2 : (takF L most).length ≤ L.length := by
      unfold takF
      split
      · exact gF_len _ _
      · simp
    have hmost := tak_most L most
    have hlaw : Hid (cokB L.length (fun k => L.getD k It.zero) = true → ∀ x y, x ∈ L → y ∈ L → itF x ∈ takF L most → ¬ itF y ∈ takF L most → ¬ x.l < y.l) := fun hc x y hx hy h1 h2 => first_law hc hx hy h1 h2
    obtain ⟨ck, hck⟩ : ∃ ck, Hid (cokB L.length (fun k => L.getD k It.zero) = ck) := ⟨_, rfl⟩
    rw [hck.out] at hlaw
    have hC := ctake_any a1 c1 L most w1 iL (by omega)
    have hS := sctake_any a1 c1 L most
    have hSH : Hid _ := hS
    clear hS
    generalize takF L most = TF at *
    generalize takL L most = TL at *
    clear oL
    go_wp2_with fail
    refine hC.mono ?_
    rintro r w2 ⟨v1, v2, rfl, o1, o2, b2⟩
    have B2 := btrans B1 b2
    obtain ⟨e1, k1, rfl, -, -, -⟩ := Ythfafmafhodlkaa.own_facts o1
    obtain ⟨e2, k2, rfl, -, -, -⟩ := own_facts o2
    replace iL := iL.below b2
    clear b2 hC
    go_wp2_with fail
    refine (hSH.out w2 iL (by omega)).mono ?_
    rintro r w3 ⟨v3, v4, rfl, o3, o4, b3⟩
    have B3 := btrans B2 b3
    obtain ⟨e3, k3, rfl, -, -, i3⟩ := Ythfafmafhodlkaa.own_facts o3
    obtain ⟨e4, k4, rfl, -, -, i4⟩ := own_facts o4
    replace iL := iL.below b3
    replace o1 := own_below o1 b3
    replace o2 := own_below o2 b3
    obtain ⟨_, _, q, -, -, i1⟩ := Ythfafmafhodlkaa.own_facts o1
    cases q
    obtain ⟨_, _, q, -, -, i2⟩ := own_facts o2
    cases q
    clear b3 o3 o4 o1 o2
    go_wp2_with fail
    refine (lhF_same _ _ _ _ _ _ _ i1 i3 (by omega)).mono ?_
    rintro r w4 ⟨rfl, b4⟩
    have B4 := btrans B3 b4
    replace iL := iL.below b4
    replace i1 := i1.below b4
    replace i2 := i2.below b4
    replace i4 := i4.below b4
    clear b4 i3
    go_wp2_with fail
    refine (lhI_same _ _ _ _ _ _ _ i2 i4 (by omega)).mono ?_
    rintro r w5 ⟨rfl, b5⟩
    have B5 := btrans B4 b5
    replace iL := iL.below b5
    replace i1 := i1.below b5
    clear b5 i2 i4
    go_wp2_with fail
    refine (cok_lit a1 L.length c1 _ ck _ iL (by omega) hck.out).mono ?_
    rintro r w6 ⟨rfl, b6⟩
    have B6 := btrans B5 b6
    replace iL := iL.below b6
    replace i1 := i1.below b6
    clear b6
    have ecc : (ck != ck) = false := by simp
    have l1 : ¬ (L.length : Int) < (TF.length : Int) := by omega
    go_wp2_with fail
    refine (scok_lit a1 L.length c1 _ ck _ iL (by omega) hck.out).mono ?_
    rintro r w7 ⟨rfl, b7⟩
    have B7 := btrans B6 b7
    replace iL := iL.below b7
    replace i1 := i1.below b7
    clear b7
    have loops : Hid (¬ (most < (TF.length : Int) ∧ 0 < (TF.length : Int))) := by
      unfold Hid
      omega
    by_cases g1 : most < (TF.length : Int)
    · have g2 : ¬ (0 : Int) < (TF.length : Int) := fun h => loops.out ⟨g1, h⟩
      have d1 : decide (L.length < TF.length) = false := decide_eq_false (by omega)
      have d2 : decide (most < (TF.length : Int)) = true := by simpa using g1
      have d3 : decide (0 < TF.length) = false := decide_eq_false (by omega)
      clear loops hmost
      cases ck
      · go_wp2_with fail
        go_loopw [9] (fun i wr => ∃ k : Nat, k ≤ L.length ∧ i = .int .i64 k ∧ Below w7.heap.size w7 wr) (fun i _ => L.length - (intOf i).toNat)
        case atStart => exact ⟨0, Nat.zero_le _, rfl, Below.refl _ _⟩
        case round =>
          obtain ⟨k, hk, rfl, hb⟩ := hrel
          by_cases hlt : k < L.length
          · have i0 : (0 : Int) ≤ (k : Int) := by omega
            have q1 : (k : Int) < (L.length : Int) := by omega
            obtain ⟨bg, og, rfl, hbg, hfg⟩ := iL (by omega)
            obtain ⟨x, hx⟩ : ∃ x, Hid (L[k]? = some x) := ⟨_, List.getElem?_eq_getElem hlt⟩
            have hxg : L.getD k It.zero = x := by simp [List.getD, hx.out]
            go_wp2_with fail
            go_loopw [10] (fun i wr => ∃ m : Nat, m ≤ L.length ∧ i = .int .i64 m ∧ Below w7.heap.size w7 wr) (fun i _ => L.length - (intOf i).toNat)
            case atStart => exact ⟨0, Nat.zero_le _, rfl, hb⟩
            case round =>
              clear hb
              obtain ⟨m, hm, rfl, hb1⟩ := hrel
              by_cases hmlt : m < L.length
              · have m0 : (0 : Int) ≤ (m : Int) := by omega
                have m1 : (m : Int) < (L.length : Int) := by omega
                go_wp2_with fail
                refine (scok_lit _ L.length c1 _ false _ (iL.below hb1) (by omega) hck.out).mono ?_
                rintro r w8 ⟨rfl, b8⟩
                have hb2 := btrans hb1 b8
                clear b8 hb1
                go_wp2
                go_roundw
                case rel => exact ⟨k + 1, by omega, by go_num, hb2⟩
                case measure => simp [intOf]; omega
              · go_wp2
                go_roundw
                case rel => exact ⟨k + 1, by omega, by go_num, hb1⟩
                case measure => simp [intOf]; omega
          · go_wp2
            go_ret
            exact ⟨rfl, btrans B7 hb⟩
      · go_wp2_with fail
        go_loopw [9] (fun i wr => ∃ k : Nat, k ≤ L.length ∧ i = .int .i64 k ∧ Below w7.heap.size w7 wr) (fun i _ => L.length - (intOf i).toNat)
        case atStart => exact ⟨0, Nat.zero_le _, rfl, Below.refl _ _⟩
        case round =>
          obtain ⟨k, hk, rfl, hb⟩ := hrel
          by_cases hlt : k < L.length
          · have i0 : (0 : Int) ≤ (k : Int) := by omega
            have q1 : (k : Int) < (L.length : Int) := by omega
            obtain ⟨bg, og, rfl, hbg, hfg⟩ := iL (by omega)
            obtain ⟨x, hx⟩ : ∃ x, Hid (L[k]? = some x) := ⟨_, List.getElem?_eq_getElem hlt⟩
            have hxg : L.getD k It.zero = x := by simp [List.getD, hx.out]
            go_wp2_with fail
            go_loopw [10] (fun i wr => ∃ m : Nat, m ≤ L.length ∧ i = .int .i64 m ∧ Below w7.heap.size w7 wr) (fun i _ => L.length - (intOf i).toNat)
            case atStart => exact ⟨0, Nat.zero_le _, rfl, hb⟩
            case round =>
              clear hb
              obtain ⟨m, hm, rfl, hb1⟩ := hrel
              by_cases hmlt : m < L.length
              · have m0 : (0 : Int) ≤ (m : Int) := by omega
                have m1 : (m : Int) < (L.length : Int) := by omega
                go_wp2_with fail
                refine (scok_lit _ L.length c1 _ true _ (iL.below hb1) (by omega) hck.out).mono ?_
                rintro r w8 ⟨rfl, b8⟩
                have hb2 := btrans hb1 b8
                clear b8 hb1
                have hbi := hb2
                obtain ⟨y, hy⟩ : ∃ y, Hid (L[m]? = some y) := ⟨_, List.getElem?_eq_getElem hmlt⟩
                have hyg : L.getD m It.zero = y := by simp [List.getD, hy.out]
                have hlw : Hid (itF x ∈ TF → ¬ itF y ∈ TF → ¬ x.l < y.l) := fun z1 z2 => by have := hlaw.out (by trivial) x y (List.mem_of_getElem? hx.out) (List.mem_of_getElem? hy.out) z1 z2; omega
                go_wp2_with fail
                go_loopw [11, 12, 13] (fun bi bo i wr => ∃ j : Nat, j ≤ TF.length ∧ i = .int .i64 j ∧ bi = .bool (hasF TF j x) ∧ bo = .bool (!hasF TF j y) ∧ Below w7.heap.size w7 wr) (fun _ _ i _ => TF.length - (intOf i).toNat)
                case atStart => exact ⟨0, Nat.zero_le _, rfl, rfl, rfl, hb2⟩
                case round =>
                  clear hb2 hbi
                  obtain ⟨j, hj, rfl, rfl, rfl, hb3⟩ := hrel
                  obtain ⟨d0, d1, d2, d3, d4⟩ := (hfg.below hb3 hbg) k hlt
                  obtain ⟨f0, f1, f2, f3, f4⟩ := (hfg.below hb3 hbg) m hmlt
                  dsimp only at d0 d1 d2 d3 d4 f0 f1 f2 f3 f4
                  rw [hxg] at d0 d1 d2 d3 d4
                  rw [hyg] at f0 f1 f2 f3 f4
                  by_cases hjlt : j < TF.length
                  · exact absurd hjlt (by omega)
                  · obtain rfl : j = TF.length := by omega
                    have hlw2 : hasF TF TF.length x = true → hasF TF TF.length y = false → ¬ x.l < y.l := fun q1 q2 => by have := hlw.out (hasF_mem.1 q1) (fun q3 => by rw [hasF_mem.2 q3] at q2; cases q2); omega
                    have hlwH : Hid (hasF TF TF.length x = true → hasF TF TF.length y = false → ¬ x.l < y.l) := hlw2
                    clear hlw2
                    generalize hasF TF TF.length x = u at *
                    generalize hasF TF TF.length y = v at *
                    cases u
                    · go_upto_region 21 with fail
                      go_quiet (fail)
                      have C1 : Below w7.heap.size w7 (wr.drewN nq) := QB hb3
                      generalize wr.drewN nq = wq at *
                      go_wp2
                      go_roundw
                      case rel => exact ⟨m + 1, by omega, by go_num, C1⟩
                      case measure => simp [intOf]; omega
                    · cases v
                      · have hno : ¬ x.l < y.l := by have := hlwH.out (by trivial) (by trivial); omega
                        go_upto_region 21 with fail
                        go_quiet (fail)
                        have C1 : Below w7.heap.size w7 (wr.drewN nq) := QB hb3
                        generalize wr.drewN nq = wq at *
                        go_wp2
                        go_roundw
                        case rel => exact ⟨m + 1, by omega, by go_num, C1⟩
                        case measure => simp [intOf]; omega
                      · go_upto_region 21 with fail
                        go_quiet (fail)
                        have C1 : Below w7.heap.size w7 (wr.drewN nq) := QB hb3
                        generalize wr.drewN nq = wq at *
                        go_wp2
                        go_roundw
                        case rel => exact ⟨m + 1, by omega, by go_num, C1⟩
                        case measure => simp [intOf]; omega
              · go_wp2
                go_roundw
                case rel => exact ⟨k + 1, by omega, by go_num, hb1⟩
                case measure => simp [intOf]; omega
          · go_wp2
            go_ret
            exact ⟨rfl, btrans B7 hb⟩
    · have d1 : decide (L.length < TF.length) = false := decide_eq_false (by omega)
      have d2 : decide (most < (TF.length : Int)) = false := by simpa using g1
      clear loops hmost
      cases ck
      · go_wp2_with fail
        go_loopw [9] (fun i wr => ∃ k : Nat, k ≤ L.length ∧ i = .int .i64 k ∧ Below w7.heap.size w7 wr) (fun i _ => L.length - (intOf i).toNat)
        case atStart => exact ⟨0, Nat.zero_le _, rfl, Below.refl _ _⟩
        case round =>
          obtain ⟨k, hk, rfl, hb⟩ := hrel
          by_cases hlt : k < L.length
          · have i0 : (0 : Int) ≤ (k : Int) := by omega
            have q1 : (k : Int) < (L.length : Int) := by omega
            obtain ⟨bg, og, rfl, hbg, hfg⟩ := iL (by omega)
            obtain ⟨x, hx⟩ : ∃ x, Hid (L[k]? = some x) := ⟨_, List.getElem?_eq_getElem hlt⟩
            have hxg : L.getD k It.zero = x := by simp [List.getD, hx.out]
            go_wp2_with fail
            go_loopw [10] (fun i wr => ∃ m : Nat, m ≤ L.length ∧ i = .int .i64 m ∧ Below w7.heap.size w7 wr) (fun i _ => L.length - (intOf i).toNat)
            case atStart => exact ⟨0, Nat.zero_le _, rfl, hb⟩
            case round =>
              clear hb
              obtain ⟨m, hm, rfl, hb1⟩ := hrel
              by_cases hmlt : m < L.length
              · have m0 : (0 : Int) ≤ (m : Int) := by omega
                have m1 : (m : Int) < (L.length : Int) := by omega
                go_wp2_with fail
                refine (scok_lit _ L.length c1 _ false _ (iL.below hb1) (by omega) hck.out).mono ?_
                rintro r w8 ⟨rfl, b8⟩
                have hb2 := btrans hb1 b8
                clear b8 hb1
                go_wp2
                go_roundw
                case rel => exact ⟨k + 1, by omega, by go_num, hb2⟩
                case measure => simp [intOf]; omega
              · go_wp2
                go_roundw
                case rel => exact ⟨k + 1, by omega, by go_num, hb1⟩
                case measure => simp [intOf]; omega
          · go_wp2
            go_ret
            exact ⟨rfl, btrans B7 hb⟩
      · go_wp2_with fail
        go_loopw [9] (fun i wr => ∃ k : Nat, k ≤ L.length ∧ i = .int .i64 k ∧ Below w7.heap.size w7 wr) (fun i _ => L.length - (intOf i).toNat)
        case atStart => exact ⟨0, Nat.zero_le _, rfl, Below.refl _ _⟩
        case round =>
          obtain ⟨k, hk, rfl, hb⟩ := hrel
          by_cases hlt : k < L.length
          · have i0 : (0 : Int) ≤ (k : Int) := by omega
            have q1 : (k : Int) < (L.length : Int) := by omega
            obtain ⟨bg, og, rfl, hbg, hfg⟩ := iL (by omega)
            obtain ⟨x, hx⟩ : ∃ x, Hid (L[k]? = some x) := ⟨_, List.getElem?_eq_getElem hlt⟩
            have hxg : L.getD k It.zero = x := by simp [List.getD, hx.out]
            go_wp2_with fail
            go_loopw [10] (fun i wr => ∃ m : Nat, m ≤ L.length ∧ i = .int .i64 m ∧ Below w7.heap.size w7 wr) (fun i _ => L.length - (intOf i).toNat)
            case atStart => exact ⟨0, Nat.zero_le _, rfl, hb⟩
            case round =>
              clear hb
              obtain ⟨m, hm, rfl, hb1⟩ := hrel
              by_cases hmlt : m < L.length
              · have m0 : (0 : Int) ≤ (m : Int) := by omega
                have m1 : (m : Int) < (L.length : Int) := by omega
                go_wp2_with fail
                refine (scok_lit _ L.length c1 _ true _ (iL.below hb1) (by omega) hck.out).mono ?_
                rintro r w8 ⟨rfl, b8⟩
                have hb2 := btrans hb1 b8
                clear b8 hb1
                have hbi := hb2
                obtain ⟨y, hy⟩ : ∃ y, Hid (L[m]? = some y) := ⟨_, List.getElem?_eq_getElem hmlt⟩
                have hyg : L.getD m It.zero = y := by simp [List.getD, hy.out]
                have hlw : Hid (itF x ∈ TF → ¬ itF y ∈ TF → ¬ x.l < y.l) := fun z1 z2 => by have := hlaw.out (by trivial) x y (List.mem_of_getElem? hx.out) (List.mem_of_getElem? hy.out) z1 z2; omega
                go_wp2_with fail
                go_loopw [11, 12, 13] (fun bi bo i wr => ∃ j : Nat, j ≤ TF.length ∧ i = .int .i64 j ∧ bi = .bool (hasF TF j x) ∧ bo = .bool (!hasF TF j y) ∧ Below w7.heap.size w7 wr) (fun _ _ i _ => TF.length - (intOf i).toNat)
                case atStart => exact ⟨0, Nat.zero_le _, rfl, rfl, rfl, hb2⟩
                case round =>
                  clear hb2 hbi
                  obtain ⟨j, hj, rfl, rfl, rfl, hb3⟩ := hrel
                  obtain ⟨d0, d1, d2, d3, d4⟩ := (hfg.below hb3 hbg) k hlt
                  obtain ⟨f0, f1, f2, f3, f4⟩ := (hfg.below hb3 hbg) m hmlt
                  dsimp only at d0 d1 d2 d3 d4 f0 f1 f2 f3 f4
                  rw [hxg] at d0 d1 d2 d3 d4
                  rw [hyg] at f0 f1 f2 f3 f4
                  by_cases hjlt : j < TF.length
                  · have n0 : (0 : Int) ≤ (j : Int) := by omega
                    have n1 : (j : Int) < (TF.length : Int) := by omega
                    obtain ⟨b1, o1, he1, hb1, hf1⟩ := i1 (by omega)
                    subst he1
                    obtain ⟨t0, t1, t2, t3⟩ := (hf1.below hb3 hb1) j hjlt
                    dsimp only at t0 t1 t2 t3
                    obtain ⟨g, hg⟩ : ∃ g, Hid (TF[j]? = some g) := ⟨_, List.getElem?_eq_getElem hjlt⟩
                    have hgg : TF.getD j Fc.zero = g := by simp [List.getD, hg.out]
                    rw [hgg] at t0 t1 t2 t3
                    have s1 : Hid (hasF TF (j + 1) x = (hasF TF j x || decide (g.n = x.n ∧ g.i = x.i ∧ g.s = x.s ∧ g.g = x.g))) := hasF_succ hg.out
                    have s2 : Hid (hasF TF (j + 1) y = (hasF TF j y || decide (g.n = y.n ∧ g.i = y.i ∧ g.s = y.s ∧ g.g = y.g))) := hasF_succ hg.out
                    have er := eq_run g.n g.i g.s g.g x.n x.i x.s x.g
                    have nr := ne_run g.n g.i g.s g.g y.n y.i y.s y.g
                    obtain ⟨p, hp⟩ : ∃ p, Hid (decide (g.n = x.n ∧ g.i = x.i ∧ g.s = x.s ∧ g.g = x.g) = p) := ⟨_, rfl⟩
                    obtain ⟨r, hr⟩ : ∃ r, Hid (decide (g.n = y.n ∧ g.i = y.i ∧ g.s = y.s ∧ g.g = y.g) = r) := ⟨_, rfl⟩
                    rw [hp.out] at er s1
                    rw [hr.out] at nr s2
                    generalize hasF TF j x = u at *
                    generalize hasF TF j y = v at *
                    clear hgg hp hr
                    cases u
                    · cases v
                      · go_upto_region 19 with fail
                        go_quiet (fail)
                        have C1 : Below w7.heap.size w7 (wr.drewN nq) := QB hb3
                        replace t0 : (wr.drewN nq).cell? _ = _ := t0
                        replace t1 : (wr.drewN nq).cell? _ = _ := t1
                        replace t2 : (wr.drewN nq).cell? _ = _ := t2
                        replace t3 : (wr.drewN nq).cell? _ = _ := t3
                        replace f0 : (wr.drewN nq).cell? _ = _ := f0
                        replace f1 : (wr.drewN nq).cell? _ = _ := f1
                        replace f2 : (wr.drewN nq).cell? _ = _ := f2
                        replace f3 : (wr.drewN nq).cell? _ = _ := f3
                        clear d0 d1 d2 d3 d4 f4
                        generalize wr.drewN nq = wq at *
                        go_upto_region 20 with fail
                        go_quiet (fail)
                        have C2 : Below w7.heap.size w7 (wq.drewN nq) := QB C1
                        clear t0 t1 t2 t3 f0 f1 f2 f3
                        generalize wq.drewN nq = wq2 at *
                        go_wp2
                        go_roundw
                        case rel => exact ⟨j + 1, by omega, by go_num, by rw [s1.out]; cases p <;> rfl, by rw [s2.out]; cases r <;> rfl, C2⟩
                        case measure => simp [intOf]; omega
                      · simp only [Bool.not_true]
                        go_upto_region 19 with fail
                        go_quiet (fail)
                        have C1 : Below w7.heap.size w7 (wr.drewN nq) := QB hb3
                        replace t0 : (wr.drewN nq).cell? _ = _ := t0
                        replace t1 : (wr.drewN nq).cell? _ = _ := t1
                        replace t2 : (wr.drewN nq).cell? _ = _ := t2
                        replace t3 : (wr.drewN nq).cell? _ = _ := t3
                        replace f0 : (wr.drewN nq).cell? _ = _ := f0
                        replace f1 : (wr.drewN nq).cell? _ = _ := f1
                        replace f2 : (wr.drewN nq).cell? _ = _ := f2
                        replace f3 : (wr.drewN nq).cell? _ = _ := f3
                        clear d0 d1 d2 d3 d4 f4
                        generalize wr.drewN nq = wq at *
                        go_upto_region 20 with fail
                        go_quiet (fail)
                        have C2 : Below w7.heap.size w7 (wq.drewN nq) := QB C1
                        clear t0 t1 t2 t3 f0 f1 f2 f3
                        generalize wq.drewN nq = wq2 at *
                        go_wp2
                        go_roundw
                        case rel => exact ⟨j + 1, by omega, by go_num, by rw [s1.out]; cases p <;> rfl, by rw [s2.out]; cases r <;> rfl, C2⟩
                        case measure => simp [intOf]; omega
                    · cases v
                      · go_upto_region 19 with fail
                        go_quiet (fail)
                        have C1 : Below w7.heap.size w7 (wr.drewN nq) := QB hb3
                        replace t0 : (wr.drewN nq).cell? _ = _ := t0
                        replace t1 : (wr.drewN nq).cell? _ = _ := t1
                        replace t2 : (wr.drewN nq).cell? _ = _ := t2
                        replace t3 : (wr.drewN nq).cell? _ = _ := t3
                        replace f0 : (wr.drewN nq).cell? _ = _ := f0
                        replace f1 : (wr.drewN nq).cell? _ = _ := f1
                        replace f2 : (wr.drewN nq).cell? _ = _ := f2
                        replace f3 : (wr.drewN nq).cell? _ = _ := f3
                        clear d0 d1 d2 d3 d4 f4
                        generalize wr.drewN nq = wq at *
                        go_upto_region 20 with fail
                        go_quiet (fail)
                        have C2 : Below w7.heap.size w7 (wq.drewN nq) := QB C1
                        clear t0 t1 t2 t3 f0 f1 f2 f3
                        generalize wq.drewN nq = wq2 at *
                        go_wp2
                        go_roundw
                        case rel => exact ⟨j + 1, by omega, by go_num, by rw [s1.out]; cases p <;> rfl, by rw [s2.out]; cases r <;> rfl, C2⟩
                        case measure => simp [intOf]; omega
                      · simp only [Bool.not_true]
                        go_upto_region 19 with fail
                        go_quiet (fail)
                        have C1 : Below w7.heap.size w7 (wr.drewN nq) := QB hb3
                        replace t0 : (wr.drewN nq).cell? _ = _ := t0
                        replace t1 : (wr.drewN nq).cell? _ = _ := t1
                        replace t2 : (wr.drewN nq).cell? _ = _ := t2
                        replace t3 : (wr.drewN nq).cell? _ = _ := t3
                        replace f0 : (wr.drewN nq).cell? _ = _ := f0
                        replace f1 : (wr.drewN nq).cell? _ = _ := f1
                        replace f2 : (wr.drewN nq).cell? _ = _ := f2
                        replace f3 : (wr.drewN nq).cell? _ = _ := f3
                        clear d0 d1 d2 d3 d4 f4
                        generalize wr.drewN nq = wq at *
                        go_upto_region 20 with fail
                        go_quiet (fail)
                        have C2 : Below w7.heap.size w7 (wq.drewN nq) := QB C1
                        clear t0 t1 t2 t3 f0 f1 f2 f3
                        generalize wq.drewN nq = wq2 at *
                        go_wp2
                        go_roundw
                        case rel => exact ⟨j + 1, by omega, by go_num, by rw [s1.out]; cases p <;> rfl, by rw [s2.out]; cases r <;> rfl, C2⟩
                        case measure => simp [intOf]; omega
                  · obtain rfl : j = TF.length := by omega
                    have hlw2 : hasF TF TF.length x = true → hasF TF TF.length y = false → ¬ x.l < y.l := fun q1 q2 => by have := hlw.out (hasF_mem.1 q1) (fun q3 => by rw [hasF_mem.2 q3] at q2; cases q2); omega
                    have hlwH : Hid (hasF TF TF.length x = true → hasF TF TF.length y = false → ¬ x.l < y.l) := hlw2
                    clear hlw2
                    generalize hasF TF TF.length x = u at *
                    generalize hasF TF TF.length y = v at *
                    cases u
                    · go_upto_region 21 with fail
                      go_quiet (fail)
                      have C1 : Below w7.heap.size w7 (wr.drewN nq) := QB hb3
                      generalize wr.drewN nq = wq at *
                      go_wp2
                      go_roundw
                      case rel => exact ⟨m + 1, by omega, by go_num, C1⟩
                      case measure => simp [intOf]; omega
                    · cases v
                      · have hno : ¬ x.l < y.l := by have := hlwH.out (by trivial) (by trivial); omega
                        go_upto_region 21 with fail
                        go_quiet (fail)
                        have C1 : Below w7.heap.size w7 (wr.drewN nq) := QB hb3
                        generalize wr.drewN nq = wq at *
                        go_wp2
                        go_roundw
                        case rel => exact ⟨m + 1, by omega, by go_num, C1⟩
                        case measure => simp [intOf]; omega
                      · go_upto_region 21 with fail
                        go_quiet (fail)
                        have C1 : Below w7.heap.size w7 (wr.drewN nq) := QB hb3
                        generalize wr.drewN nq = wq at *
                        go_wp2
                        go_roundw
                        case rel => exact ⟨m + 1, by omega, by go_num, C1⟩
                        case measure => simp [intOf]; omega
              · go_wp2
                go_roundw
                case rel => exact ⟨k + 1, by omega, by go_num, hb1⟩
                case measure => simp [intOf]; omega
          · go_wp2
            go_ret
            exact ⟨rfl, btrans B7 hb⟩
  · have j0 : (1048576 : Int) < (len : Int) := by omega
    go_enter Try.func4, Try.ntmps4
    go_wp2
    go_ret
    exact ⟨rfl, Below.refl _ _⟩
end Go.Proofs.Ythfafmafhodlkaa.I
