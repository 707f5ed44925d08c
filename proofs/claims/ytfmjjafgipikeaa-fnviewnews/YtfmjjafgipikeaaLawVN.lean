/- What is new is told once, with what it was: the law, walked. -/
import Derived.Test.YtfmjjafgipikeaaDrawVN
import Derived.Test.YtfmjjafgipikeaaDrawTP
import Derived.Test.YtfmjjafgipikeaaVnMath
import Derived.Test.YtfmjjafgipikeaaView
namespace Go.Proofs.Ytfmjjafgipikeaa
open Go.ChangeShapes Go.WideShapes Go.ChangeAt Go.RowKit
attribute [local go_sem ↓] Go.wp_at_zero Go.wp_at_succ
theorem of_lit (a : Option Addr) (len cap : Nat) (F : Nat → Fc) (x : Int) (z : Option Fc) (w : World) (h : FSl w a len F) (hl : len ≤ 1048576) (hx : (Lit.int .i64 x).wf = true) (hz : tof len F x = z) :
    Calls Try.prog 10 #[.slice a len cap, .int .i64 x] w fun e w' => e = .returned (.tuple #[fval (z.getD Fc.zero), .bool z.isSome]) ∧ Below w.heap.size w w' := hz ▸ of_any a len cap F x w h hl hx
theorem item_at {w : World} {b off n k : Nat} {L : List W.It} {x0 x1 x2 : Int} {x3 : Bool} {x4 : Int} (h : W.ItemsIn w b off n (fun k => L.getD k W.It.zero)) (hk : k < n) (hx : Hid (L.getD k W.It.zero = ⟨x0, x1, x2, x3, x4⟩)) :
    w.cell? ⟨b, off + k * 5, none⟩ = some (.int .i64 x0) ∧ w.cell? ⟨b, off + k * 5 + 1, none⟩ = some (.int .i64 x1) ∧ w.cell? ⟨b, off + k * 5 + 2, none⟩ = some (.int .i64 x2) ∧ w.cell? ⟨b, off + k * 5 + 3, none⟩ = some (.bool x3) ∧ w.cell? ⟨b, off + k * 5 + 4, none⟩ = some (.int .i64 x4) := by
  have := h k hk
  dsimp only at this
  rw [hx.out] at this
  exact this
set_option maxRecDepth 20000 in
set_option maxHeartbeats 8000000 in
theorem lawVN_walk (a : Option Addr) (len cap : Nat) (w : World) (h : Bytes w.heap.size w a len) (hl : len ≤ cap) :
    Calls Try.prog 3 #[.slice a len cap] w fun r w' => r = .returned (.bool true) ∧ Below w.heap.size w w' := by
  by_cases hlen : len ≤ 1048576
  · have j0 : ¬ (1048576 : Int) < (len : Int) := by omega
    go_enter Try.func3, Try.ntmps3
    go_wp2_with fail
    refine (drawVN_any a len cap _ h hl).mono ?_
    rintro r w1 ⟨a1, n, c1, F, a2, m, c2, G, rfl, hF, hG, hn, hm, B1⟩
    have hself := W.nv_self n F
    have hround : ∀ k, k < (W.nv n F m G).length → ∀ x, (W.nv n F m G).getD k W.It.zero = x → _ := fun k hk x hx => W.vn_round hk hx
    have hend := fun h1 h2 => W.vn_end (n := n) (F := F) (m := m) (G := G) h1 h2
    have hxl := W.xl_len (n := n) (F := F) (m := m) (G := G) hn
    have hnl : (W.nv n F m G).length ≤ 8 := by
      unfold W.nv
      split
      · have := W.newsL_len (seqF F n) (seqF G m)
        rw [seqF_len] at *
        omega
      · simp
    have hX0 := W.xl_zero n F m G
    obtain ⟨L, hL⟩ : ∃ L, Hid (W.nv n F m G = L) := ⟨_, rfl⟩
    obtain ⟨X, hX⟩ : ∃ X, Hid (W.xl n F m G = X) := ⟨_, rfl⟩
    obtain ⟨q, hq⟩ : ∃ q, Hid (tokB n F = q) := ⟨_, rfl⟩
    obtain ⟨q2, hq2⟩ : ∃ q, Hid (tokB m G = q) := ⟨_, rfl⟩
    rw [hL.out, hX.out] at hround hend hxl
    rw [hL.out] at hnl
    rw [hX.out] at hX0
    rw [hq.out, hq2.out] at hend
    have hround' : Hid _ := hround
    have hend' : Hid _ := hend
    have hself' : Hid _ := hself
    have hX0' : Hid _ := hX0
    clear hround hend hself hX0
    have q0 : (q != q) = false := by simp
    have L0 : ¬ ((L.length : Int) ≠ (L.length : Int)) := by simp
    go_wp2_with fail
    refine (W.view_any _ n c1 F _ m c2 G _ hF hG (by omega) (by omega)).mono ?_
    rintro r w2 ⟨v2, rfl, o2, b2⟩
    rw [hL.out] at o2
    have B2 := btrans B1 b2
    obtain ⟨al, cl, rfl, _, _, l2⟩ := W.own_facts o2
    replace hF := hF.below b2
    replace hG := hG.below b2
    clear b2 o2
    go_wp2_with fail
    refine (W.sview_any _ n c1 F _ m c2 G _ hF hG (by omega) (by omega)).mono ?_
    rintro r w3 ⟨v3, rfl, o3, b3⟩
    rw [hL.out] at o3
    have B3 := btrans B2 b3
    obtain ⟨aw, cw, rfl, _, _, l3⟩ := W.own_facts o3
    replace hF := hF.below b3
    replace hG := hG.below b3
    replace l2 := l2.below b3
    clear b3 o3
    go_wp2_with fail
    refine (tok_lit _ n c1 F q _ hF (by omega) hq.out).mono ?_
    rintro r w4 ⟨rfl, b4⟩
    have B4 := btrans B3 b4
    replace hF := hF.below b4
    replace hG := hG.below b4
    replace l2 := l2.below b4
    replace l3 := l3.below b4
    clear b4
    go_wp2_with fail
    refine (stok_lit _ n c1 F q _ hF (by omega) hq.out).mono ?_
    rintro r w5 ⟨rfl, b5⟩
    have B5 := btrans B4 b5
    replace hF := hF.below b5
    replace hG := hG.below b5
    replace l2 := l2.below b5
    replace l3 := l3.below b5
    clear b5
    go_wp2_with fail
    refine (W.view_any _ n c1 F _ n c1 F _ hF hF (by omega) (by omega)).mono ?_
    rintro r w6 ⟨v6, rfl, o6, b6⟩
    rw [hself'.out] at o6
    obtain ⟨a6, c6, rfl, _, _, _⟩ := W.own_facts o6
    have B6 := btrans B5 b6
    replace hF := hF.below b6
    replace hG := hG.below b6
    replace l2 := l2.below b6
    replace l3 := l3.below b6
    clear b6 o6
    go_wp2_with fail
    have hS : FSl w6 a1 (X 0).length (fun j => (X 0).getD j Fc.zero) := by rw [hX0'.out]; exact W.fsl_get hF
    have hSl : (X 0).length = n := by rw [hX0'.out, seqF_len]
    clear hX0' hself' hX
    go_loopw [7, 8] (fun x i wr => ∃ (k : Nat) (ax : Option Addr) (nx cx : Nat), i = .int .i64 k ∧ k ≤ L.length ∧ x = .slice ax nx cx ∧ Hid ((X k).length = nx) ∧ FSl wr ax nx (fun j => (X k).getD j Fc.zero) ∧ Below w6.heap.size w6 wr) (fun _ i _ => L.length - (intOf i).toNat)
    case atStart => exact ⟨0, a1, n, c1, rfl, Nat.zero_le _, rfl, hSl, hSl ▸ hS, Below.refl _ _⟩
    case round =>
      obtain ⟨k, ax, nx, cx, rfl, hk, rfl, hnx, hfx, hb⟩ := hrel
      clear hS hSl
      by_cases hlt : k < L.length
      · have i0 : (0 : Int) ≤ (k : Int) := by omega
        have i1 : (k : Int) < (L.length : Int) := by omega
        obtain ⟨bl, ol, rfl, hbl, hil⟩ := l2 (by omega)
        obtain ⟨bw, ow, rfl, hbw, hiw⟩ := l3 (by omega)
        obtain ⟨⟨x0, x1, x2, x3, x4⟩, hx⟩ : ∃ x, Hid (L.getD k W.It.zero = x) := ⟨_, rfl⟩
        obtain ⟨c0, c1', c2', c3, c4⟩ := item_at (hil.below hb hbl) hlt hx
        obtain ⟨d0, d1, d2, d3, d4⟩ := item_at (hiw.below hb hbw) hlt hx
        obtain ⟨hwf, hx8, htp, hcs⟩ := hround'.out k hlt _ hx.out
        rw [hnx.out] at htp hx8
        generalize (fun j => (X k).getD j Fc.zero) = Y at *
        dsimp only [W.fc] at hwf htp hcs
        go_wp2_with fail
        go_quiet (fail)
        have hb7 : Below w6.heap.size w6 (wr.drewN nq) := QB hb
        have r7 : Below wr.heap.size wr (wr.drewN nq) := QB (Below.refl _ _)
        have F7 := hF.below hb7
        have X7 := hfx.below r7
        have I7 := hil.below hb7 hbl
        clear c0 c1' c2' c3 c4 d0 d1 d2 d3 d4 r7 hfx hb hiw
        generalize wr.drewN nq = w7 at *
        rcases hcs with ⟨hno, rfl⟩ | ⟨f, hso, rfl, rfl, hne⟩
        · obtain ⟨c0, c1', c2', c3, c4⟩ := item_at I7 hlt hx
          go_wp2_with fail
          refine (of_lit _ n c1 F x0 none _ F7 (by omega) hwf hno).mono ?_
          rintro r w8 ⟨rfl, b8⟩
          have hb8 := btrans hb7 b8
          have X8 := X7.below b8
          have b9 : Below w8.heap.size w8 (w8.alloc (.cells #[.int .i64 0, .int .i64 0, .int .i64 0, .bool false] 30)) := balloc _ (Below.refl _ _)
          have I9 := (hil.below hb8 hbl)
          clear b8 hb7 X7 F7 I7 c0 c1' c2' c3 c4
          obtain ⟨c0, c1', c2', c3, c4⟩ := item_at I9 hlt hx
          simp only [Option.getD, Fc.zero, Option.isSome, fval]
          go_wp2_with fail
          have p9 : (w8.alloc (.cells #[.int .i64 0, .int .i64 0, .int .i64 0, .bool false] 30)).heap[w8.heap.size]? = some (.cells #[.int .i64 0, .int .i64 0, .int .i64 0, .bool false] 30 (0, 0)) := heap_alloc_new _ _
          have hb9 := btrans hb8 b9
          have X9 := X8.below b9
          have I10 := hil.below hb9 hbl
          clear c0 c1' c2' c3 c4 hb8 b9 I9 X8
          generalize (w8.alloc (.cells #[.int .i64 0, .int .i64 0, .int .i64 0, .bool false] 30)) = w9 at *
          generalize w8.heap.size = b9 at *
          obtain ⟨c0, c1', c2', c3, c4⟩ := item_at I10 hlt hx
          have e0 := cell_block (o := 0) p9 rfl
          have e1 := cell_block (o := 1) p9 rfl
          have e2 := cell_block (o := 2) p9 rfl
          have e3 := cell_block (o := 3) p9 rfl
          go_quiet (fail)
          have hb10 : Below w6.heap.size w6 (w9.drewN nq) := QB hb9
          have r10 : Below w9.heap.size w9 (w9.drewN nq) := QB (Below.refl _ _)
          have X10 := X9.below r10
          have I11 := hil.below hb10 hbl
          clear c0 c1' c2' c3 c4 e0 e1 e2 e3 p9 hb9 X9 I10 r10
          generalize w9.drewN nq = w10 at *
          obtain ⟨c0, c1', c2', c3, c4⟩ := item_at I11 hlt hx
          obtain ⟨z, hz⟩ : ∃ z, Hid (tpQ nx Y ⟨x0, x1, x2, x3⟩ = z) := ⟨_, rfl⟩
          go_wp2_with fail
          refine (fput_any ax nx cx Y ⟨x0, x1, x2, x3⟩ _ X10 (by omega)).mono ?_
          rintro r w11 ⟨v, rfl, o11, b11⟩
          rw [htp] at o11
          rw [hz.out]
          obtain ⟨a11, c11, rfl, _, _, y11⟩ := own_facts o11
          have hb11 := btrans hb10 b11
          clear o11 b11 X10 hb10 c0 c1' c2' c3 c4 I11
          go_wp2
          go_roundw
          case rel => exact ⟨k + 1, a11, _, c11, by go_num, by omega, rfl, rfl, y11, hb11⟩
          case measure => simp [intOf]; omega
        · obtain ⟨f0, f1, f2, f3⟩ := f
          dsimp only at hso hne hwf htp hx
          obtain ⟨c0, c1', c2', c3, c4⟩ := item_at I7 hlt hx
          go_wp2_with fail
          refine (of_lit _ n c1 F f0 (some ⟨f0, f1, f2, f3⟩) _ F7 (by omega) hwf hso).mono ?_
          rintro r w8 ⟨rfl, b8⟩
          have hb8 := btrans hb7 b8
          have X8 := X7.below b8
          have b9 : Below w8.heap.size w8 (w8.alloc (.cells #[.int .i64 f0, .int .i64 f1, .int .i64 f2, .bool f3] 30)) := balloc _ (Below.refl _ _)
          have I9 := (hil.below hb8 hbl)
          clear b8 hb7 X7 F7 I7 c0 c1' c2' c3 c4
          obtain ⟨c0, c1', c2', c3, c4⟩ := item_at I9 hlt hx
          simp only [Option.getD, Option.isSome, fval]
          go_wp2_with fail
          have p9 : (w8.alloc (.cells #[.int .i64 f0, .int .i64 f1, .int .i64 f2, .bool f3] 30)).heap[w8.heap.size]? = some (.cells #[.int .i64 f0, .int .i64 f1, .int .i64 f2, .bool f3] 30 (0, 0)) := heap_alloc_new _ _
          have hb9 := btrans hb8 b9
          have X9 := X8.below b9
          have I10 := hil.below hb9 hbl
          clear c0 c1' c2' c3 c4 hb8 b9 I9 X8
          generalize (w8.alloc (.cells #[.int .i64 f0, .int .i64 f1, .int .i64 f2, .bool f3] 30)) = w9 at *
          generalize w8.heap.size = b9 at *
          obtain ⟨c0, c1', c2', c3, c4⟩ := item_at I10 hlt hx
          have e0 := cell_block (o := 0) p9 rfl
          have e1 := cell_block (o := 1) p9 rfl
          have e2 := cell_block (o := 2) p9 rfl
          have e3 := cell_block (o := 3) p9 rfl
          have he' : ((f1 == x1) = false ∧ ¬ f1 = x1) ∨ (f1 = x1 ∧ ((f2 == x2) = false ∧ ¬ f2 = x2)) ∨ (f1 = x1 ∧ f2 = x2 ∧ ((f3 == x3) = false ∧ ¬ f3 = x3)) := by
            by_cases z1 : f1 = x1
            · by_cases z2 : f2 = x2
              · exact .inr (.inr ⟨z1, z2, by simpa using fun e => hne ⟨z1, z2, e⟩, fun e => hne ⟨z1, z2, e⟩⟩)
              · exact .inr (.inl ⟨z1, by simpa using z2, z2⟩)
            · exact .inl ⟨by simpa using z1, z1⟩
          clear hne hso
          rcases he' with ⟨z0, z1⟩ | ⟨rfl, z0, z1⟩ | ⟨rfl, rfl, z0, z1⟩
          · go_quiet (fail)
            have hb10 : Below w6.heap.size w6 (w9.drewN nq) := QB hb9
            have r10 : Below w9.heap.size w9 (w9.drewN nq) := QB (Below.refl _ _)
            have X10 := X9.below r10
            have I11 := hil.below hb10 hbl
            clear c0 c1' c2' c3 c4 e0 e1 e2 e3 p9 hb9 X9 I10 r10
            generalize w9.drewN nq = w10 at *
            obtain ⟨c0, c1', c2', c3, c4⟩ := item_at I11 hlt hx
            obtain ⟨z, hz⟩ : ∃ z, Hid (tpQ nx Y ⟨f0, x1, x2, x3⟩ = z) := ⟨_, rfl⟩
            go_wp2_with fail
            refine (fput_any ax nx cx Y ⟨f0, x1, x2, x3⟩ _ X10 (by omega)).mono ?_
            rintro r w11 ⟨v, rfl, o11, b11⟩
            rw [htp] at o11
            rw [hz.out]
            obtain ⟨a11, c11, rfl, _, _, y11⟩ := own_facts o11
            have hb11 := btrans hb10 b11
            clear o11 b11 X10 hb10 c0 c1' c2' c3 c4 I11
            go_wp2
            go_roundw
            case rel => exact ⟨k + 1, a11, _, c11, by go_num, by omega, rfl, rfl, y11, hb11⟩
            case measure => simp [intOf]; omega
          · go_quiet (fail)
            have hb10 : Below w6.heap.size w6 (w9.drewN nq) := QB hb9
            have r10 : Below w9.heap.size w9 (w9.drewN nq) := QB (Below.refl _ _)
            have X10 := X9.below r10
            have I11 := hil.below hb10 hbl
            clear c0 c1' c2' c3 c4 e0 e1 e2 e3 p9 hb9 X9 I10 r10
            generalize w9.drewN nq = w10 at *
            obtain ⟨c0, c1', c2', c3, c4⟩ := item_at I11 hlt hx
            obtain ⟨z, hz⟩ : ∃ z, Hid (tpQ nx Y ⟨f0, f1, x2, x3⟩ = z) := ⟨_, rfl⟩
            go_wp2_with fail
            refine (fput_any ax nx cx Y ⟨f0, f1, x2, x3⟩ _ X10 (by omega)).mono ?_
            rintro r w11 ⟨v, rfl, o11, b11⟩
            rw [htp] at o11
            rw [hz.out]
            obtain ⟨a11, c11, rfl, _, _, y11⟩ := own_facts o11
            have hb11 := btrans hb10 b11
            clear o11 b11 X10 hb10 c0 c1' c2' c3 c4 I11
            go_wp2
            go_roundw
            case rel => exact ⟨k + 1, a11, _, c11, by go_num, by omega, rfl, rfl, y11, hb11⟩
            case measure => simp [intOf]; omega
          · go_quiet (fail)
            have hb10 : Below w6.heap.size w6 (w9.drewN nq) := QB hb9
            have r10 : Below w9.heap.size w9 (w9.drewN nq) := QB (Below.refl _ _)
            have X10 := X9.below r10
            have I11 := hil.below hb10 hbl
            clear c0 c1' c2' c3 c4 e0 e1 e2 e3 p9 hb9 X9 I10 r10
            generalize w9.drewN nq = w10 at *
            obtain ⟨c0, c1', c2', c3, c4⟩ := item_at I11 hlt hx
            obtain ⟨z, hz⟩ : ∃ z, Hid (tpQ nx Y ⟨f0, f1, f2, x3⟩ = z) := ⟨_, rfl⟩
            go_wp2_with fail
            refine (fput_any ax nx cx Y ⟨f0, f1, f2, x3⟩ _ X10 (by omega)).mono ?_
            rintro r w11 ⟨v, rfl, o11, b11⟩
            rw [htp] at o11
            rw [hz.out]
            obtain ⟨a11, c11, rfl, _, _, y11⟩ := own_facts o11
            have hb11 := btrans hb10 b11
            clear o11 b11 X10 hb10 c0 c1' c2' c3 c4 I11
            go_wp2
            go_roundw
            case rel => exact ⟨k + 1, a11, _, c11, by go_num, by omega, rfl, rfl, y11, hb11⟩
            case measure => simp [intOf]; omega
      · obtain rfl : k = L.length := by omega
        have hFe := hF.below hb
        have hGe := hG.below hb
        have Be := btrans B6 hb
        clear l2 l3 hF hG hround'
        cases q
        · go_wp2_with fail
          refine (stok_lit _ n c1 F false _ hFe (by omega) hq.out).mono ?_
          rintro r w8 ⟨rfl, b8⟩
          have B8 := btrans Be b8
          go_wp2
          go_ret
          exact ⟨rfl, B8⟩
        · cases q2
          · go_wp2_with fail
            refine (stok_lit _ n c1 F true _ hFe (by omega) hq.out).mono ?_
            rintro r w8 ⟨rfl, b8⟩
            have B8 := btrans Be b8
            replace hGe := hGe.below b8
            clear b8
            go_wp2_with fail
            refine (stok_lit _ m c2 G false _ hGe (by omega) hq2.out).mono ?_
            rintro r w9 ⟨rfl, b9⟩
            have B9 := btrans B8 b9
            go_wp2
            go_ret
            exact ⟨rfl, B9⟩
          · have hE := hend'.out rfl rfl
            obtain ⟨J, hJ⟩ : ∃ J, Hid (tj n F m G = J) := ⟨_, rfl⟩
            rw [hJ.out] at hE
            rw [hE] at hfx hnx hxl
            have hnJ := hnx.out
            subst hnJ
            clear hE hend' hnx
            go_wp2_with fail
            refine (stok_lit _ n c1 F true _ hFe (by omega) hq.out).mono ?_
            rintro r w8 ⟨rfl, b8⟩
            have B8 := btrans Be b8
            replace hGe := hGe.below b8
            replace hFe := hFe.below b8
            replace hfx := hfx.below b8
            clear b8
            go_wp2_with fail
            refine (stok_lit _ m c2 G true _ hGe (by omega) hq2.out).mono ?_
            rintro r w9 ⟨rfl, b9⟩
            have B9 := btrans B8 b9
            replace hGe := hGe.below b9
            replace hFe := hFe.below b9
            replace hfx := hfx.below b9
            clear b9
            go_wp2_with fail
            refine (fjoin_any _ n c1 F _ m c2 G _ hFe hGe (by omega) (by omega)).mono ?_
            rintro r wa ⟨v, rfl, oa, ba⟩
            rw [hJ.out] at oa
            obtain ⟨aa, ca, rfl, _, _, ya⟩ := own_facts oa
            have Ba := btrans B9 ba
            replace hfx := hfx.below ba
            clear ba oa
            go_wp2_with fail
            refine (lh_same _ _ _ _ _ _ _ hfx ya (by omega)).mono ?_
            rintro r wb ⟨rfl, bb⟩
            have Bb := btrans Ba bb
            go_wp2
            go_ret
            exact ⟨rfl, Bb⟩
  · have j0 : (1048576 : Int) < (len : Int) := by omega
    go_enter Try.func3, Try.ntmps3
    go_wp2
    go_ret
    exact ⟨rfl, Below.refl _ _⟩
end Go.Proofs.Ytfmjjafgipikeaa
