/- Gateways are the least of those that may be and live: the law, walked. -/
import Derived.Test.YtogoehaagdldnaaDoorTg
namespace Go.Proofs.YtogoehaagdldnaaDoor
open Go.ChangeShapes Go.WideShapes Go.ChangeAt Go.RowKit
attribute [local go_sem ↓] Go.wp_at_zero Go.wp_at_succ
set_option maxRecDepth 20000 in
set_option maxHeartbeats 8000000 in
theorem gatesL_walk (a : Option Addr) (len cap : Nat) (w : World) (h : Bytes w.heap.size w a len) (hl : len ≤ cap) (ht : Tabs w) :
    Calls Tryd.prog 3 #[.slice a len cap] w fun r w' => r = .returned (.bool true) ∧ Below w.heap.size w w' := by
  by_cases hlen : len ≤ 1048576
  · have j0 : ¬ (1048576 : Int) < (len : Int) := by omega
    go_enter Tryd.func3, Tryd.ntmps3
    go_wp2_with fail
    refine (drawTG_any a len cap _ h hl).mono ?_
    rintro r w1 ⟨a1, n, c1, F, x, rfl, hT, ln, B1⟩
    have hLn := gT_le n F x
    have hfew : Hid (0 < (gT n F x).length → ((gT n F x).length : Int) ≤ x) := by
      unfold Hid gT
      split
      · exact gsel_few F x n
      · simp
    obtain ⟨L, hL⟩ : ∃ L, Hid (gT n F x = L) := ⟨_, rfl⟩
    obtain ⟨y, hy⟩ : ∃ y, Hid (txt n F = y) := ⟨_, rfl⟩
    obtain ⟨q, hq⟩ : ∃ q, Hid (tokB n F = q) := ⟨_, rfl⟩
    rw [hL.out] at hLn hfew
    go_wp2_with fail
    refine (gates_any a1 n c1 F x _ hT (by omega)).mono ?_
    rintro r w2 ⟨v2, rfl, o2, b2⟩
    rw [hL.out] at o2
    obtain ⟨al, cl, rfl, _, l2⟩ := own_list o2
    have B2 := btrans B1 b2
    replace hT := hT.below b2
    clear b2 o2
    go_wp2_with fail
    refine (sgates_any a1 n c1 F x _ hT (by omega)).mono ?_
    rintro r w3 ⟨v3, rfl, o3, b3⟩
    rw [hL.out] at o3
    obtain ⟨aw, cs, rfl, _, l3⟩ := own_list o3
    have B3 := btrans B2 b3
    replace hT := hT.below b3
    replace l2 := l2.below b3
    clear b3 o3
    go_wp2_with fail
    refine (lhi_same _ _ L.length cl cs _ _ l2 l3 (by omega)).mono ?_
    rintro r w4 ⟨rfl, b4⟩
    have B4 := btrans B3 b4
    replace hT := hT.below b4
    replace l2 := l2.below b4
    clear b4 l3
    go_wp2_with fail
    refine (text_lit a1 n c1 F y _ hT (by omega) (ht.below B4) hy.out).mono ?_
    rintro r w5 ⟨rfl, b5⟩
    have B5 := btrans B4 b5
    replace hT := hT.below b5
    replace l2 := l2.below b5
    clear b5
    go_wp2_with fail
    refine (stext_lit a1 n c1 F y _ hT (by omega) hy.out).mono ?_
    rintro r w6 ⟨rfl, b6⟩
    have B6 := btrans B5 b6
    replace hT := hT.below b6
    replace l2 := l2.below b6
    clear b6
    obtain ⟨w7, hw7⟩ : ∃ w7, w7 = w6 := ⟨_, rfl⟩
    rw [← hw7] at hT l2 B6 ⊢
    have B7 := B6
    clear hw7 B6
    by_cases hx : x < (L.length : Int)
    · have hL0 : ¬ (0 : Int) < (L.length : Int) := fun e => by have := hfew.out (by omega); omega
      obtain rfl : L = [] := List.eq_nil_of_length_eq_zero (by omega)
      clear hfew hL0
      simp only [List.length_nil] at hx hLn ⊢
      go_wp2_with fail
      have x0 : ¬ (0 : Int) < x := by omega
      cases q
      · go_loopw [6, 7] (fun kk i wr => i = .int .i64 0 ∧ kk = .int .i64 0 ∧ Below w7.heap.size w7 wr) (fun _ _ _ => 0)
        case atStart => exact ⟨rfl, rfl, Below.refl _ _⟩
        case round =>
          obtain ⟨rfl, rfl, hb⟩ := hrel
          by_cases hn0 : n = 0
          · have i0 : ¬ (0 : Int) < (n : Int) := by omega
            have Bz := btrans B7 hb
            clear hb hn0
            go_wp2
            go_ret
            exact ⟨rfl, Bz⟩
          · have i0 : (0 : Int) < (n : Int) := by omega
            go_wp2_with fail
            refine (stok_litt a1 n c1 F false _ (hT.below hb) (by omega) hq.out).mono ?_
            rintro r wq ⟨rfl, bq⟩
            have Bz := btrans (btrans B7 hb) bq
            clear bq hb
            go_wp2
            go_ret
            exact ⟨rfl, Bz⟩
      · go_loopw [6, 7] (fun kk ii wr => ∃ i : Nat, i ≤ n ∧ ii = .int .i64 i ∧ kk = .int .i64 0 ∧ Below w7.heap.size w7 wr) (fun _ ii _ => n - (intOf ii).toNat)
        case atStart => exact ⟨0, Nat.zero_le _, rfl, rfl, Below.refl _ _⟩
        case round =>
          obtain ⟨i, hi, rfl, rfl, hb⟩ := hrel
          by_cases hlt : i < n
          · have i0 : (0 : Int) ≤ (i : Int) := by omega
            have i1 : (i : Int) < (n : Int) := by omega
            have hTr := hT.below hb
            go_wp2_with fail
            refine (stok_litt a1 n c1 F true _ hTr (by omega) hq.out).mono ?_
            rintro r wq ⟨rfl, bq⟩
            have Bq := btrans hb bq
            replace hTr := hTr.below bq
            clear bq hb
            obtain ⟨b, off, rfl, hbl, hfi⟩ := hTr (by omega)
            obtain ⟨c0, c1', c2', c3'⟩ := hfi i hlt
            generalize F i = f at *
            obtain ⟨f0, f1, f2, f3⟩ := f
            dsimp only at c0 c1' c2' c3'
            cases f3
            · skip
              go_wp2_with fail
              go_quiet (fail)
              have Br : Below w7.heap.size w7 (wq.drewN nq) := QB Bq
              clear c0 c1' c2' c3'
              generalize wq.drewN nq = wr2 at *
              go_wp2
              go_roundw
              case rel => exact ⟨i + 1, by omega, by go_num, rfl, Br⟩
              case measure => simp [intOf]; omega
            · by_cases z : f2 = 1
              · subst z
                go_wp2_with fail
                go_quiet (fail)
                have Br : Below w7.heap.size w7 (wq.drewN nq) := QB Bq
                clear c0 c1' c2' c3'
                generalize wq.drewN nq = wr2 at *
                go_wp2
                go_roundw
                case rel => exact ⟨i + 1, by omega, by go_num, rfl, Br⟩
                case measure => simp [intOf]; omega
              · have z2 : (f2 == 1) = false := by simpa using z
                go_wp2_with fail
                go_quiet (fail)
                have Br : Below w7.heap.size w7 (wq.drewN nq) := QB Bq
                clear c0 c1' c2' c3'
                generalize wq.drewN nq = wr2 at *
                go_wp2
                go_roundw
                case rel => exact ⟨i + 1, by omega, by go_num, rfl, Br⟩
                case measure => simp [intOf]; omega
          · have kx : ¬ (i : Int) < (n : Int) := by omega
            have Bz := btrans B7 hb
            clear hb
            go_wp2
            go_ret
            exact ⟨rfl, Bz⟩
    · clear hfew
      go_wp2_with fail
      cases q
      · have eL : L.length = 0 := by rw [← hL.out]; unfold gT; rw [hq.out]; rfl
        have eL2 : ((L.length : Int) == 0) = true := by simp [eL]
        go_loopw [6, 7] (fun kk i wr => i = .int .i64 0 ∧ kk = .int .i64 0 ∧ Below w7.heap.size w7 wr) (fun _ _ _ => 0)
        case atStart => exact ⟨rfl, rfl, Below.refl _ _⟩
        case round =>
          obtain ⟨rfl, rfl, hb⟩ := hrel
          by_cases hn0 : n = 0
          · have i0 : ¬ (0 : Int) < (n : Int) := by omega
            have Bz := btrans B7 hb
            clear hb hn0
            go_wp2
            go_ret
            exact ⟨ret_bool (by simp), Bz⟩
          · have i0 : (0 : Int) < (n : Int) := by omega
            go_wp2_with fail
            refine (stok_litt a1 n c1 F false _ (hT.below hb) (by omega) hq.out).mono ?_
            rintro r wq ⟨rfl, bq⟩
            have Bz := btrans (btrans B7 hb) bq
            clear bq hb
            go_wp2
            go_ret
            exact ⟨ret_bool (by simp), Bz⟩
      · have eL : gsel F x n = L := by rw [← hL.out]; unfold gT; rw [hq.out]; rfl
        have hstep0 : Hid (∀ i, i < n → ∀ g, (gsel F x i).length = g → _) := fun i hi g hg => gsel_step hi (tok_all hq.out).2 g hg L eL
        have hLk : Hid ((gsel F x n).length = L.length) := by unfold Hid; rw [eL]
        clear eL
        go_loopw [6, 7] (fun kk ii wr => ∃ i k : Nat, i ≤ n ∧ ii = .int .i64 i ∧ kk = .int .i64 k ∧ Hid ((gsel F x i).length = k) ∧ Below w7.heap.size w7 wr) (fun _ ii _ => n - (intOf ii).toNat)
        case atStart => exact ⟨0, 0, Nat.zero_le _, rfl, rfl, rfl, Below.refl _ _⟩
        case round =>
          obtain ⟨i, k, hi, rfl, rfl, hki, hb⟩ := hrel
          by_cases hlt : i < n
          · have i0 : (0 : Int) ≤ (i : Int) := by omega
            have i1 : (i : Int) < (n : Int) := by omega
            have k0 : (0 : Int) ≤ (k : Int) := by omega
            have hTr := hT.below hb
            go_wp2_with fail
            refine (stok_litt a1 n c1 F true _ hTr (by omega) hq.out).mono ?_
            rintro r wq ⟨rfl, bq⟩
            have Bq := btrans hb bq
            replace hTr := hTr.below bq
            have l2r := l2.below Bq
            clear bq hb
            obtain ⟨b, off, rfl, hbl, hfi⟩ := hTr (by omega)
            obtain ⟨c0, c1', c2', c3'⟩ := hfi i hlt
            have hst := hstep0.out i hlt k hki.out
            clear hki
            generalize F i = f at *
            obtain ⟨f0, f1, f2, f3⟩ := f
            dsimp only at c0 c1' c2' c3' hst
            rcases hst with ⟨s1, s2, rfl, rfl, s5⟩ | ⟨s1, s2, s5⟩
            · have hstep : Hid _ := s5
              have k1 : (k : Int) < (L.length : Int) := by omega
              obtain ⟨bl, ol, rfl, hbll, hil⟩ := l2r (by omega)
              have d0 := hil k s1
              dsimp only at d0
              rw [s2] at d0
              clear s2 s5 s1 hil
              go_wp2_with fail
              go_quiet (fail)
              have Br : Below w7.heap.size w7 (wq.drewN nq) := QB Bq
              clear c0 c1' c2' c3' d0
              generalize wq.drewN nq = wr2 at *
              go_wp2
              go_roundw
              case rel => exact ⟨i + 1, k + 1, by omega, by go_num, by go_num, hstep, Br⟩
              case measure => simp [intOf]; omega
            · have hstep : Hid _ := s5
              clear s5
              by_cases hkl : k < L.length
              · have k1 : (k : Int) < (L.length : Int) := by omega
                obtain ⟨bl, ol, rfl, hbll, hil⟩ := l2r (by omega)
                have d0 := hil k hkl
                dsimp only at d0
                have s1' : L.getD k 0 ≠ f0 := by
                  rcases s1 with s1 | s1
                  · exact absurd hkl s1
                  · exact s1
                clear s1 hil
                generalize L.getD k 0 = y at *
                have y1 : (y == f0) = false := by simpa using s1'
                have y2 : ¬ y = f0 := s1'
                clear s1'
                cases f3
                · clear s2
                  go_wp2_with fail
                  go_quiet (fail)
                  have Br : Below w7.heap.size w7 (wq.drewN nq) := QB Bq
                  clear c0 c1' c2' c3' d0
                  generalize wq.drewN nq = wr2 at *
                  go_wp2
                  go_roundw
                  case rel => exact ⟨i + 1, k, by omega, by go_num, rfl, hstep, Br⟩
                  case measure => simp [intOf]; omega
                · by_cases z : f2 = 1
                  · subst z
                    have z3 : ¬ (L.length : Int) < x := fun e => s2 ⟨rfl, rfl, e⟩
                    clear s2
                    go_wp2_with fail
                    go_quiet (fail)
                    have Br : Below w7.heap.size w7 (wq.drewN nq) := QB Bq
                    clear c0 c1' c2' c3' d0
                    generalize wq.drewN nq = wr2 at *
                    go_wp2
                    go_roundw
                    case rel => exact ⟨i + 1, k, by omega, by go_num, rfl, hstep, Br⟩
                    case measure => simp [intOf]; omega
                  · have z2 : (f2 == 1) = false := by simpa using z
                    clear s2
                    go_wp2_with fail
                    go_quiet (fail)
                    have Br : Below w7.heap.size w7 (wq.drewN nq) := QB Bq
                    clear c0 c1' c2' c3' d0
                    generalize wq.drewN nq = wr2 at *
                    go_wp2
                    go_roundw
                    case rel => exact ⟨i + 1, k, by omega, by go_num, rfl, hstep, Br⟩
                    case measure => simp [intOf]; omega
              · have k1 : ¬ (k : Int) < (L.length : Int) := by omega
                clear s1
                cases f3
                · clear s2
                  go_wp2_with fail
                  go_quiet (fail)
                  have Br : Below w7.heap.size w7 (wq.drewN nq) := QB Bq
                  clear c0 c1' c2' c3'
                  generalize wq.drewN nq = wr2 at *
                  go_wp2
                  go_roundw
                  case rel => exact ⟨i + 1, k, by omega, by go_num, rfl, hstep, Br⟩
                  case measure => simp [intOf]; omega
                · by_cases z : f2 = 1
                  · subst z
                    have z3 : ¬ (L.length : Int) < x := fun e => s2 ⟨rfl, rfl, e⟩
                    clear s2
                    go_wp2_with fail
                    go_quiet (fail)
                    have Br : Below w7.heap.size w7 (wq.drewN nq) := QB Bq
                    clear c0 c1' c2' c3'
                    generalize wq.drewN nq = wr2 at *
                    go_wp2
                    go_roundw
                    case rel => exact ⟨i + 1, k, by omega, by go_num, rfl, hstep, Br⟩
                    case measure => simp [intOf]; omega
                  · have z2 : (f2 == 1) = false := by simpa using z
                    clear s2
                    go_wp2_with fail
                    go_quiet (fail)
                    have Br : Below w7.heap.size w7 (wq.drewN nq) := QB Bq
                    clear c0 c1' c2' c3'
                    generalize wq.drewN nq = wr2 at *
                    go_wp2
                    go_roundw
                    case rel => exact ⟨i + 1, k, by omega, by go_num, rfl, hstep, Br⟩
                    case measure => simp [intOf]; omega
          · obtain rfl : i = n := by omega
            have ek : L.length = k := hLk.out.symm.trans hki.out
            subst ek
            have Bz := btrans B7 hb
            clear hb hki hLk
            go_wp2
            go_ret
            exact ⟨rfl, Bz⟩
  · have j0 : (1048576 : Int) < (len : Int) := by omega
    go_enter Tryd.func3, Tryd.ntmps3
    go_wp2
    go_ret
    exact ⟨rfl, Below.refl _ _⟩
end Go.Proofs.YtogoehaagdldnaaDoor
