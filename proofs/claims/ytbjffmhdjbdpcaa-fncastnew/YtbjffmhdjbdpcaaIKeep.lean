/- What was to be told is kept: the law, walked. -/
import Derived.Test.YtbjffmhdjbdpcaaIDrawCP
namespace Go.Proofs.Ytbjffmhdjbdpcaa.I
open Go.ChangeShapes Go.WideShapes Go.ChangeAt Go.RowKit
attribute [local go_sem ↓] Go.wp_at_zero Go.wp_at_succ
theorem seqF_getD_self (T : List It) : seqF (fun k => T.getD k It.zero) T.length = T := by
  refine List.ext_getElem? fun i => ?_
  by_cases h : i < T.length
  · simp [seqF, h, List.getD]
  · rw [List.getElem?_eq_none (by rw [seqF_len]; omega), List.getElem?_eq_none (by omega)]
theorem tput_keep {x g : It} : ∀ {T : List It}, g ∈ T → g.n ≠ x.n → g ∈ tput T x
  | [], h, _ => by simp at h
  | y :: r, h, hn => by
    unfold tput
    rcases List.mem_cons.1 h with rfl | h
    · split
      · simp
      · simp
    · split
      · exact List.mem_cons_of_mem _ (tput_keep h hn)
      · split
        · split
          · exact List.mem_cons_of_mem _ h
          · exact List.mem_cons_of_mem _ h
        · exact List.mem_cons_of_mem _ (List.mem_cons_of_mem _ h)
theorem cpT_len' (len : Nat) (F : Nat → It) (f : Fc) : (cpT len F f).length ≤ 9 := by
  unfold cpT
  split
  · rename_i h
    rw [Bool.and_eq_true] at h
    have := tput_len_le (seqF F len) (tIt f)
    have := tok_len h.1
    rw [seqF_len] at *
    omega
  · simp
theorem mem_at {T : List It} {g : It} (h : g ∈ T) : ∃ k, k < T.length ∧ T.getD k It.zero = g := by
  obtain ⟨k, hk, e⟩ := List.getElem_of_mem h
  exact ⟨k, hk, by simp [List.getD, hk, e]⟩
theorem keep_law (n : Nat) (F : Nat → It) (f : Fc) : cokB n F = true → fokB f.n f.i f.s = true →
    ∀ i, i < n → (F i).n ≠ f.n → ∃ k, k < (cpT n F f).length ∧ (cpT n F f).getD k It.zero = F i := by
  intro h1 h2 i hi hn
  have e1 : cpT n F f = tput (seqF F n) (tIt f) := by unfold cpT; rw [h1, h2]; rfl
  rw [e1]
  exact mem_at (tput_keep (List.mem_map.2 ⟨i, by simpa using hi, rfl⟩) (by simpa [tIt] using hn))
set_option maxRecDepth 20000 in
set_option maxHeartbeats 8000000 in
theorem keep_walk (a : Option Addr) (len cap : Nat) (w : World) (h : Bytes w.heap.size w a len) (hl : len ≤ cap) :
    Calls Try.prog 4 #[.slice a len cap] w fun r w' => r = .returned (.bool true) ∧ Below w.heap.size w w' := by
  by_cases hlen : len ≤ 1048576
  · have j0 : ¬ (1048576 : Int) < (len : Int) := by omega
    go_enter Try.func4, Try.ntmps4
    go_wp2_with fail
    refine (drawCP_any a len cap _ h hl).mono ?_
    rintro r w1 ⟨a1, c1, T, f, rfl, hn, o1, hT, B1⟩
    rcases own_sliceF o1 with ⟨e, _⟩ | ⟨g, cc, e, hg1, hg2, hg3⟩
    · exact absurd e hn
    simp only [Value.slice.injEq, true_and] at e
    obtain ⟨rfl, rfl⟩ := e
    obtain ⟨a0, c0, e0, _, _, hF⟩ := own_facts o1
    simp only [Value.slice.injEq, true_and] at e0
    obtain ⟨rfl, rfl⟩ := e0
    have hTl := cpT_len' T.length (fun k => T.getD k It.zero) f
    obtain ⟨x, hx⟩ : ∃ x, Hid (cpT T.length (fun k => T.getD k It.zero) f = x) := ⟨_, rfl⟩
    rw [hx.out] at hTl
    generalize (fun k => T.getD k It.zero) = F at *
    generalize T.length = n at *
    have hlaw := keep_law n F f
    rw [hx.out] at hlaw
    clear o1 hn
    have p2 : (w1.alloc (.cells #[.int .i64 f.n, .int .i64 f.i, .int .i64 f.s, .bool f.g] 25)).heap[w1.heap.size]? = some (.cells #[.int .i64 f.n, .int .i64 f.i, .int .i64 f.s, .bool f.g] 25 (0, 0)) := heap_alloc_new _ _
    have b2 : Below w1.heap.size w1 (w1.alloc (.cells #[.int .i64 f.n, .int .i64 f.i, .int .i64 f.s, .bool f.g] 25)) := balloc _ (Below.refl _ _)
    go_wp2_with fail
    generalize (w1.alloc (.cells #[.int .i64 f.n, .int .i64 f.i, .int .i64 f.s, .bool f.g] 25)) = w2 at *
    have B2 := btrans B1 b2
    have hF2 := hF.below b2
    refine (cput_any _ n c1 F f _ hF2 (by omega)).mono ?_
    rintro r w3 ⟨v3, rfl, o3, b3⟩
    rw [hx.out] at o3
    obtain ⟨a3, c3, rfl, _, hxl, i3⟩ := own_facts o3
    have B3 := btrans B2 b3
    have p3 := blk_below b3 p2
    have d0 : w3.cell? ⟨w1.heap.size, 0, none⟩ = some (.int .i64 f.n) := cell_block (o := 0) p3 rfl
    have d1 : w3.cell? ⟨w1.heap.size, 1, none⟩ = some (.int .i64 f.i) := cell_block (o := 1) p3 rfl
    have d2 : w3.cell? ⟨w1.heap.size, 2, none⟩ = some (.int .i64 f.s) := cell_block (o := 2) p3 rfl
    have d3 : w3.cell? ⟨w1.heap.size, 3, none⟩ = some (.bool f.g) := cell_block (o := 3) p3 rfl
    have hF3 := hF2.below b3
    clear b3 p2 hF2 b2
    go_wp2_with fail
    refine (scput_any _ n c1 F f _ hF3 (by omega) hg3).mono ?_
    rintro r w4 ⟨v4, rfl, o4, b4⟩
    rw [hx.out] at o4
    obtain ⟨a4, c4, rfl, _, _, i4⟩ := own_facts o4
    have B4 := btrans B3 b4
    have p4 := blk_below b4 p3
    have hF4 := hF3.below b4
    replace i3 := i3.below b4
    clear b4 p3 hF3 o3 o4 d0 d1 d2 d3
    clear hx
    replace hlaw : cokB n F = true → fokB f.n f.i f.s = true → ∀ i, i < n → (F i).n ≠ f.n → ∃ k, k < x.length ∧ (fun k => x.getD k It.zero) k = F i := hlaw
    generalize (fun k => x.getD k It.zero) = X at *
    generalize x.length = m at *
    go_wp2_with fail
    refine (lhI_same _ _ m c3 c4 X _ i3 i4 (by omega)).mono ?_
    rintro r w5 ⟨rfl, b5⟩
    have B5 := btrans B4 b5
    have p5 := blk_below b5 p4
    have hF5 := hF4.below b5
    replace i3 := i3.below b5
    clear b5 p4 hF4 i4
    obtain ⟨okc, hokc⟩ : ∃ q, Hid (cokB n F = q) := ⟨_, rfl⟩
    have q0 : (okc != okc) = false := by simp
    go_wp2_with fail
    refine (cok_lit _ n c1 F okc _ hF5 (by omega) hokc.out).mono ?_
    rintro r w6 ⟨rfl, b6⟩
    have B6 := btrans B5 b6
    have p6 := blk_below b6 p5
    have hF6 := hF5.below b6
    replace i3 := i3.below b6
    clear b6 p5 hF5
    go_wp2_with fail
    refine (scok_lit _ n c1 F okc _ hF6 (by omega) hokc.out).mono ?_
    rintro r w7 ⟨rfl, b7⟩
    have B7 := btrans B6 b7
    have p7 := blk_below b7 p6
    have hF7 := hF6.below b7
    replace i3 := i3.below b7
    clear b7 p6 hF6
    obtain ⟨okf, hokf⟩ : ∃ q, Hid (fokB f.n f.i f.s = q) := ⟨_, rfl⟩
    go_wp2_with fail
    cases okc
    · clear hlaw i3
      refine wp_loop_rounds 1 ?_
      rw [rounds_succ]
      by_cases hn0 : n = 0
      · have i0 : ¬ (0 : Int) < (n : Int) := by omega
        clear hn0
        go_wp2
        go_ret
        exact ⟨rfl, B7⟩
      · have i0 : (0 : Int) < (n : Int) := by omega
        go_wp2_with fail
        refine (scok_lit _ n c1 F false _ hF7 (by omega) hokc.out).mono ?_
        rintro r w8 ⟨rfl, b8⟩
        have B8 := btrans B7 b8
        clear b8 p7 hF7
        go_wp2
        go_ret
        exact ⟨rfl, B8⟩
    · cases okf
      · clear hlaw i3
        refine wp_loop_rounds 1 ?_
        rw [rounds_succ]
        by_cases hn0 : n = 0
        · have i0 : ¬ (0 : Int) < (n : Int) := by omega
          clear hn0
          go_wp2
          go_ret
          exact ⟨rfl, B7⟩
        · have i0 : (0 : Int) < (n : Int) := by omega
          go_wp2_with fail
          refine (scok_lit _ n c1 F true _ hF7 (by omega) hokc.out).mono ?_
          rintro r w8 ⟨rfl, b8⟩
          have B8 := btrans B7 b8
          have p8 := blk_below b8 p7
          have d0 : w8.cell? ⟨w1.heap.size, 0, none⟩ = some (.int .i64 f.n) := cell_block (o := 0) p8 rfl
          have d1 : w8.cell? ⟨w1.heap.size, 1, none⟩ = some (.int .i64 f.i) := cell_block (o := 1) p8 rfl
          have d2 : w8.cell? ⟨w1.heap.size, 2, none⟩ = some (.int .i64 f.s) := cell_block (o := 2) p8 rfl
          have d3 : w8.cell? ⟨w1.heap.size, 3, none⟩ = some (.bool f.g) := cell_block (o := 3) p8 rfl
          clear b8 p7 hF7
          go_wp2_with fail
          refine (sfok_lit _ _ _ _ false hokf.out _).mono ?_
          rintro r w9 ⟨rfl, b9⟩
          have B9 := btrans B8 b9
          clear b9 p8 d0 d1 d2 d3
          go_wp2
          go_ret
          exact ⟨rfl, B9⟩
      · have hkeep := hlaw hokc.out hokf.out
        clear hlaw
        go_loopw [6] (fun i wr => ∃ k : Nat, k ≤ n ∧ i = .int .i64 k ∧ Below w7.heap.size w7 wr) (fun i _ => n - (intOf i).toNat)
        case atStart => exact ⟨0, Nat.zero_le _, rfl, Below.refl _ _⟩
        case round =>
          obtain ⟨k, hk, rfl, hb⟩ := hrel
          have HF := hF7.below hb
          have Hp := blk_below hb p7
          have HX := i3.below hb
          by_cases hlt : k < n
          · have i0 : (0 : Int) ≤ (k : Int) := by omega
            have i1 : (k : Int) < (n : Int) := by omega
            go_wp2_with fail
            refine (scok_lit _ n c1 F true _ HF (by omega) hokc.out).mono ?_
            rintro r w8 ⟨rfl, b8⟩
            have hb8 := btrans hb b8
            have p8 := blk_below b8 Hp
            have d0 : w8.cell? ⟨w1.heap.size, 0, none⟩ = some (.int .i64 f.n) := cell_block (o := 0) p8 rfl
            have d1 : w8.cell? ⟨w1.heap.size, 1, none⟩ = some (.int .i64 f.i) := cell_block (o := 1) p8 rfl
            have d2 : w8.cell? ⟨w1.heap.size, 2, none⟩ = some (.int .i64 f.s) := cell_block (o := 2) p8 rfl
            have d3 : w8.cell? ⟨w1.heap.size, 3, none⟩ = some (.bool f.g) := cell_block (o := 3) p8 rfl
            have HF8 := HF.below b8
            have HX8 := HX.below b8
            clear b8 Hp HF HX hb
            go_wp2_with fail
            refine (sfok_lit _ _ _ _ true hokf.out _).mono ?_
            rintro r w9 ⟨rfl, b9⟩
            have hb9 := btrans hb8 b9
            have p9 := blk_below b9 p8
            have HF9 := HF8.below b9
            have HX9 := HX8.below b9
            clear b9 p8 HF8 HX8 hb8 d0 d1 d2 d3
            have d0 : w9.cell? ⟨w1.heap.size, 0, none⟩ = some (.int .i64 f.n) := cell_block (o := 0) p9 rfl
            have d1 : w9.cell? ⟨w1.heap.size, 1, none⟩ = some (.int .i64 f.i) := cell_block (o := 1) p9 rfl
            have d2 : w9.cell? ⟨w1.heap.size, 2, none⟩ = some (.int .i64 f.s) := cell_block (o := 2) p9 rfl
            have d3 : w9.cell? ⟨w1.heap.size, 3, none⟩ = some (.bool f.g) := cell_block (o := 3) p9 rfl
            obtain ⟨b, off, eb, hbl, hf⟩ := HF9 (by omega)
            obtain ⟨rfl, rfl⟩ : b = g ∧ off = 0 := by simpa using eb.symm
            clear eb
            obtain ⟨c0, c1', c2, c3', c4'⟩ := hf k hlt
            simp only [Nat.zero_add] at c0 c1' c2 c3' c4'
            have hkk := hkeep k hlt
            clear hf HF9
            generalize F k = G at *
            go_wp2_with fail
            go_quiet (fail)
            go_wp2_with fail
            go_loopw [7, 8] (fun v j wr2 => ∃ (kk : Nat) (fd : Bool), kk ≤ m ∧ j = .int .i64 kk ∧ v = .bool fd ∧ Below w7.heap.size w7 wr2 ∧ Below w9.heap.size w9 wr2 ∧ Hid (fd = false → G.n ≠ f.n ∧ ∀ k', k' < kk → X k' ≠ G)) (fun _ j _ => m - (intOf j).toNat)
            case atStart => exact ⟨0, _, Nat.zero_le _, rfl, rfl, QB hb9, QB (Below.refl _ _), (fun e => ⟨by simpa using e, fun k' hk' => by omega⟩ : _ → _)⟩
            case round =>
              obtain ⟨kk, fd, hkm, rfl, rfl, hbb, hb2, hI⟩ := hrel
              clear d0 d1 d2 d3
              by_cases hlm : kk < m
              · have m0 : (0 : Int) ≤ (kk : Int) := by omega
                have m1 : (kk : Int) < (m : Int) := by omega
                cases fd
                · obtain ⟨bx, ox, rfl, hbx, hfx⟩ := HX9 (by omega)
                  obtain ⟨x0, x1, x2, x3, x4⟩ := (hfx.below hb2 hbx) kk hlm
                  have g0 := (hb2.cell (p := ⟨b, _, none⟩) hbl).trans c0
                  have g1 := (hb2.cell (p := ⟨b, _, none⟩) hbl).trans c1'
                  have g2 := (hb2.cell (p := ⟨b, _, none⟩) hbl).trans c2
                  have g3 := (hb2.cell (p := ⟨b, _, none⟩) hbl).trans c3'
                  have g4 := (hb2.cell (p := ⟨b, _, none⟩) hbl).trans c4'
                  by_cases he : X kk = G
                  · rw [he] at x0 x1 x2 x3 x4
                    clear he c0 c1' c2 c3' c4' hfx HX9
                    have hT1 : Hid (true = false → G.n ≠ f.n ∧ ∀ k', k' < kk + 1 → X k' ≠ G) := fun e => nomatch e
                    go_wp2_with fail
                    go_quiet (fail)
                    go_wp2
                    go_roundw
                    case rel => exact ⟨kk + 1, true, by omega, by go_num, rfl, QB hbb, QB hb2, hT1⟩
                    case measure => simp [intOf]; omega
                  · have hT2 : Hid (G.n ≠ f.n ∧ ∀ k', k' < kk + 1 → X k' ≠ G) := ⟨(hI.out rfl).1, fun k' hk' => by
                      by_cases e2 : k' = kk
                      · subst e2; exact he
                      · exact (hI.out rfl).2 k' (by omega)⟩
                    by_cases h0 : (X kk).n = G.n
                    · rw [h0] at x0
                      by_cases h1 : (X kk).i = G.i
                      · rw [h1] at x1
                        by_cases h2 : (X kk).s = G.s
                        · rw [h2] at x2
                          by_cases h3 : (X kk).g = G.g
                          · rw [h3] at x3
                            by_cases h4 : (X kk).l = G.l
                            · exact absurd ((iteq _ _).2 ⟨h0, h1, h2, h3, h4⟩) he
                            · have q1 : ((X kk).l == G.l) = false := by simp [h4]
                              have q2 : ¬ (X kk).l = G.l := h4
                              clear c0 c1' c2 c3' c4' hfx HX9 he
                              go_wp2_with fail
                              go_quiet (fail)
                              go_wp2
                              go_roundw
                              case rel => exact ⟨kk + 1, false, by omega, by go_num, rfl, QB hbb, QB hb2, fun _ => hT2.out⟩
                              case measure => simp [intOf]; omega
                          · have q1 : ((X kk).g == G.g) = false := by simp [h3]
                            have q2 : ¬ (X kk).g = G.g := h3
                            clear c0 c1' c2 c3' c4' hfx HX9 he
                            go_wp2_with fail
                            go_quiet (fail)
                            go_wp2
                            go_roundw
                            case rel => exact ⟨kk + 1, false, by omega, by go_num, rfl, QB hbb, QB hb2, fun _ => hT2.out⟩
                            case measure => simp [intOf]; omega
                        · have q1 : ((X kk).s == G.s) = false := by simp [h2]
                          have q2 : ¬ (X kk).s = G.s := h2
                          clear c0 c1' c2 c3' c4' hfx HX9 he
                          go_wp2_with fail
                          go_quiet (fail)
                          go_wp2
                          go_roundw
                          case rel => exact ⟨kk + 1, false, by omega, by go_num, rfl, QB hbb, QB hb2, fun _ => hT2.out⟩
                          case measure => simp [intOf]; omega
                      · have q1 : ((X kk).i == G.i) = false := by simp [h1]
                        have q2 : ¬ (X kk).i = G.i := h1
                        clear c0 c1' c2 c3' c4' hfx HX9 he
                        go_wp2_with fail
                        go_quiet (fail)
                        go_wp2
                        go_roundw
                        case rel => exact ⟨kk + 1, false, by omega, by go_num, rfl, QB hbb, QB hb2, fun _ => hT2.out⟩
                        case measure => simp [intOf]; omega
                    · have q1 : ((X kk).n == G.n) = false := by simp [h0]
                      have q2 : ¬ (X kk).n = G.n := h0
                      clear c0 c1' c2 c3' c4' hfx HX9 he
                      go_wp2_with fail
                      go_quiet (fail)
                      go_wp2
                      go_roundw
                      case rel => exact ⟨kk + 1, false, by omega, by go_num, rfl, QB hbb, QB hb2, fun _ => hT2.out⟩
                      case measure => simp [intOf]; omega
                · have hT1 : Hid (true = false → G.n ≠ f.n ∧ ∀ k', k' < kk + 1 → X k' ≠ G) := fun e => nomatch e
                  go_wp2_with fail
                  go_quiet (fail)
                  go_wp2
                  go_roundw
                  case rel => exact ⟨kk + 1, true, by omega, by go_num, rfl, QB hbb, QB hb2, hT1⟩
                  case measure => simp [intOf]; omega
              · have hfd : fd = true := by
                  cases fd
                  · obtain ⟨q1, q2⟩ := hI.out rfl
                    obtain ⟨k', hk', e⟩ := hkk q1
                    exact absurd e (q2 k' (by omega))
                  · rfl
                subst hfd
                go_wp2
                go_roundw
                case rel => exact ⟨k + 1, by omega, by go_num, hbb⟩
                case measure => simp [intOf]; omega
          · go_wp2
            go_ret
            exact ⟨rfl, btrans B7 hb⟩
  · have j0 : (1048576 : Int) < (len : Int) := by omega
    go_enter Try.func4, Try.ntmps4
    go_wp2
    go_ret
    exact ⟨rfl, Below.refl _ _⟩
end Go.Proofs.Ytbjffmhdjbdpcaa.I
