/- One fact is told as a table of one: the law, walked. -/
import Derived.Test.YtogoehaagdldnaaGreatDoorLp
namespace Go.Proofs.YtogoehaagdldnaaGreatDoor
open Go.ChangeShapes Go.WideShapes Go.ChangeAt Go.RowKit
attribute [local go_sem ↓] Go.wp_at_zero Go.wp_at_succ
set_option maxRecDepth 20000 in
set_option maxHeartbeats 8000000 in
theorem one_walk (a : Option Addr) (len cap : Nat) (w : World) (h : Bytes w.heap.size w a len) (hl : len ≤ cap) (ht : Tabs w) :
    Calls Tryz.prog 8 #[.slice a len cap] w fun r w' => r = .returned (.bool true) ∧ Below w.heap.size w w' := by
  by_cases hlen : len ≤ 1048576
  · have j0 : ¬ (1048576 : Int) < (len : Int) := by omega
    go_enter Tryz.func8, Tryz.ntmps8
    go_wp2_with fail
    refine (drawTPL a len cap _ h hl).mono ?_
    rintro r w1 ⟨a1, c1, T, f, rfl, hT, nT, lT, hc1, B1⟩
    have p2 : (w1.alloc (.cells #[.int .i64 f.n, .int .i64 f.i, .int .i64 f.s, .bool f.g] 33)).heap[w1.heap.size]? = some (.cells #[.int .i64 f.n, .int .i64 f.i, .int .i64 f.s, .bool f.g] 33 (0, 0)) := heap_alloc_new _ _
    have b2 : Below w1.heap.size w1 (w1.alloc (.cells #[.int .i64 f.n, .int .i64 f.i, .int .i64 f.s, .bool f.g] 33)) := balloc _ (Below.refl _ _)
    go_wp2_with fail
    have B2 := btrans B1 b2
    replace hT := hT.below b2
    replace nT := nT.below b2
    clear b2
    generalize (w1.alloc (.cells #[.int .i64 f.n, .int .i64 f.i, .int .i64 f.s, .bool f.g] 33)) = w2 at *
    obtain ⟨bf, hbf⟩ : ∃ bf, w1.heap.size = bf := ⟨_, rfl⟩
    rw [hbf] at p2 ⊢
    clear hbf B1
    have d0 := cell_block (o := 0) (v := .int .i64 f.n) p2 rfl
    have d1 := cell_block (o := 1) (v := .int .i64 f.i) p2 rfl
    have d2 := cell_block (o := 2) (v := .int .i64 f.s) p2 rfl
    have d3 := cell_block (o := 3) (v := .bool f.g) p2 rfl
    clear p2
    obtain ⟨X, hX⟩ : ∃ X, Hid (pt T f = X) := ⟨_, rfl⟩
    have lX : X.length ≤ 8 := by rw [← hX.out]; exact pt_len
    obtain ⟨q, hq⟩ : ∃ q, Hid (pq T f = q) := ⟨_, rfl⟩
    obtain ⟨x, hx⟩ : ∃ x, Hid (txt T.length (gd T) = x) := ⟨_, rfl⟩
    obtain ⟨o, ho⟩ : ∃ o, Hid (okT T = o) := ⟨_, rfl⟩
    obtain ⟨v, hv⟩ : ∃ v, Hid (fok f = v) := ⟨_, rfl⟩
    have hj1 : o = true → v = true → jn T [f] = X := fun h1 h2 => by rw [← hX.out]; exact pt_jn (ho.out.trans h1) (hv.out.trans h2)
    have hj : Hid _ := hj1
    clear hj1
    have e0 : (q == q) = true := by simp
    refine (lput a1 c1 T f X q _ hT lT hX.out hq.out).mono ?_
    rintro r w3 ⟨a3, c3, rfl, h3, b3⟩
    have B3 := btrans B2 b3
    replace hT := hT.below b3
    replace nT := nT.below b3
    replace d0 := keep_below b3 d0
    replace d1 := keep_below b3 d1
    replace d2 := keep_below b3 d2
    replace d3 := keep_below b3 d3
    clear b3
    go_wp2_with fail
    refine (lsput a1 c1 T f X q _ hT nT lT hc1 hX.out hq.out).mono ?_
    rintro r w4 ⟨a4, c4, rfl, h4, b4⟩
    have B4 := btrans B3 b4
    replace hT := hT.below b4
    replace nT := nT.below b4
    replace h3 := h3.below b4
    replace d0 := keep_below b4 d0
    replace d1 := keep_below b4 d1
    replace d2 := keep_below b4 d2
    replace d3 := keep_below b4 d3
    clear b4
    go_wp2_with fail
    refine (llh a3 c3 a4 c4 X _ h3 h4 lX).mono ?_
    rintro r w5 ⟨rfl, b5⟩
    have B5 := btrans B4 b5
    replace hT := hT.below b5
    replace nT := nT.below b5
    replace h3 := h3.below b5
    replace h4 := h4.below b5
    replace d0 := keep_below b5 d0
    replace d1 := keep_below b5 d1
    replace d2 := keep_below b5 d2
    replace d3 := keep_below b5 d3
    clear b5
    go_wp2_with fail
    refine (ltext a1 c1 T x _ hT lT (ht.below B5) hx.out).mono ?_
    rintro r w6 ⟨rfl, b6⟩
    have B6 := btrans B5 b6
    replace hT := hT.below b6
    replace nT := nT.below b6
    replace h3 := h3.below b6
    replace h4 := h4.below b6
    replace d0 := keep_below b6 d0
    replace d1 := keep_below b6 d1
    replace d2 := keep_below b6 d2
    replace d3 := keep_below b6 d3
    clear b6
    go_wp2_with fail
    refine (lstext a1 c1 T x _ hT lT hx.out).mono ?_
    rintro r w7 ⟨rfl, b7⟩
    have B7 := btrans B6 b7
    replace hT := hT.below b7
    replace nT := nT.below b7
    replace h3 := h3.below b7
    replace h4 := h4.below b7
    replace d0 := keep_below b7 d0
    replace d1 := keep_below b7 d1
    replace d2 := keep_below b7 d2
    replace d3 := keep_below b7 d3
    clear b7
    cases o
    · go_wp2_with fail
      refine (lsok a1 c1 T false _ hT lT ho.out).mono ?_
      rintro r w8 ⟨rfl, b8⟩
      have B8 := btrans B7 b8
      replace hT := hT.below b8
      replace nT := nT.below b8
      replace h3 := h3.below b8
      replace h4 := h4.below b8
      replace d0 := keep_below b8 d0
      replace d1 := keep_below b8 d1
      replace d2 := keep_below b8 d2
      replace d3 := keep_below b8 d3
      clear b8
      go_wp2
      go_ret
      exact ⟨rfl, B8⟩
    · cases v
      · go_wp2_with fail
        refine (lsok a1 c1 T true _ hT lT ho.out).mono ?_
        rintro r w8 ⟨rfl, b8⟩
        have B8 := btrans B7 b8
        replace hT := hT.below b8
        replace nT := nT.below b8
        replace h3 := h3.below b8
        replace h4 := h4.below b8
        replace d0 := keep_below b8 d0
        replace d1 := keep_below b8 d1
        replace d2 := keep_below b8 d2
        replace d3 := keep_below b8 d3
        clear b8
        go_wp2_with fail
        refine (lsfok f false _ hv.out).mono ?_
        rintro r w9 ⟨rfl, b9⟩
        have B9 := btrans B8 b9
        replace hT := hT.below b9
        replace nT := nT.below b9
        replace h3 := h3.below b9
        replace h4 := h4.below b9
        replace d0 := keep_below b9 d0
        replace d1 := keep_below b9 d1
        replace d2 := keep_below b9 d2
        replace d3 := keep_below b9 d3
        clear b9
        go_wp2
        go_ret
        exact ⟨rfl, B9⟩
      · have hj2 : Hid _ := hj.out rfl rfl
        clear hj
        go_wp2_with fail
        refine (lsok a1 c1 T true _ hT lT ho.out).mono ?_
        rintro r w8 ⟨rfl, b8⟩
        have B8 := btrans B7 b8
        replace hT := hT.below b8
        replace nT := nT.below b8
        replace h3 := h3.below b8
        replace h4 := h4.below b8
        replace d0 := keep_below b8 d0
        replace d1 := keep_below b8 d1
        replace d2 := keep_below b8 d2
        replace d3 := keep_below b8 d3
        clear b8
        go_wp2_with fail
        refine (lsfok f true _ hv.out).mono ?_
        rintro r w9 ⟨rfl, b9⟩
        have B9 := btrans B8 b9
        replace hT := hT.below b9
        replace nT := nT.below b9
        replace h3 := h3.below b9
        replace h4 := h4.below b9
        replace d0 := keep_below b9 d0
        replace d1 := keep_below b9 d1
        replace d2 := keep_below b9 d2
        replace d3 := keep_below b9 d3
        clear b9
        have pn : (w9.alloc (.cells #[.int .i64 f.n, .int .i64 f.i, .int .i64 f.s, .bool f.g] 33)).heap[w9.heap.size]? = some (.cells #[.int .i64 f.n, .int .i64 f.i, .int .i64 f.s, .bool f.g] 33 (0, 0)) := heap_alloc_new _ _
        have bn : Below w9.heap.size w9 (w9.alloc (.cells #[.int .i64 f.n, .int .i64 f.i, .int .i64 f.s, .bool f.g] 33)) := balloc _ (Below.refl _ _)
        go_wp2_with fail
        have Bn := btrans B9 bn
        replace hT := hT.below bn
        replace nT := nT.below bn
        replace h3 := h3.below bn
        replace h4 := h4.below bn
        clear bn d0 d1 d2 d3
        generalize (w9.alloc (.cells #[.int .i64 f.n, .int .i64 f.i, .int .i64 f.s, .bool f.g] 33)) = wn at *
        have hF := fs_one pn
        refine (ljoin a1 c1 T (some ⟨w9.heap.size, 0, none⟩) 1 [f] X _ hT hF lT (by simp) hj2.out).mono ?_
        rintro r w10 ⟨a5, c5, rfl, h5, b10⟩
        have B10 := btrans Bn b10
        replace hT := hT.below b10
        replace nT := nT.below b10
        replace h3 := h3.below b10
        replace h4 := h4.below b10
        replace hF := hF.below b10
        clear b10
        go_wp2_with fail
        refine (llh a3 c3 a5 c5 X _ h3 h5 lX).mono ?_
        rintro r w11 ⟨rfl, b11⟩
        have B11 := btrans B10 b11
        replace hT := hT.below b11
        replace nT := nT.below b11
        replace h3 := h3.below b11
        replace h4 := h4.below b11
        replace hF := hF.below b11
        replace h5 := h5.below b11
        clear b11
        go_wp2
        go_ret
        exact ⟨rfl, B11⟩
  · have j0 : (1048576 : Int) < (len : Int) := by omega
    go_enter Tryz.func8, Tryz.ntmps8
    go_wp2
    go_ret
    exact ⟨rfl, Below.refl _ _⟩
end Go.Proofs.YtogoehaagdldnaaGreatDoor
