/- A new world: the program's way. -/
import Derived.Test.YtlabilijnpkmgaaGreatDoorWn5
namespace Go.Proofs.YtlabilijnpkmgaaGreatDoor
open Go.ChangeShapes Go.WideShapes Go.ChangeAt Go.RowKit
attribute [local go_sem ↓] Go.wp_at_zero Go.wp_at_succ
def s15_1 : List Stp := [⟨some 3, .move (.tmp 0), 46, none, 0⟩, ⟨some 4, .nilCheck (.tmp 3), 0, none, 0⟩, ⟨some 5, .fieldAddr 50 (.tmp 4) 0, 0, none, 0⟩, ⟨some 6, .load 22 (.tmp 5), 22, none, 0⟩, ⟨some 7, .move (.tmp 0), 46, none, 0⟩, ⟨some 8, .nilCheck (.tmp 7), 0, none, 0⟩, ⟨some 9, .fieldAddr 50 (.tmp 8) 1, 0, none, 0⟩, ⟨some 10, .load 47 (.tmp 9), 47, none, 0⟩, ⟨some 12, .move (.tmp 0), 46, none, 0⟩, ⟨some 13, .nilCheck (.tmp 12), 0, none, 0⟩, ⟨some 14, .fieldAddr 50 (.tmp 13) 2, 0, none, 0⟩, ⟨some 15, .load 24 (.tmp 14), 24, none, 0⟩, ⟨some 16, .move (.tmp 0), 46, none, 0⟩, ⟨some 17, .nilCheck (.tmp 16), 0, none, 0⟩, ⟨some 18, .fieldAddr 50 (.tmp 17) 3, 0, none, 0⟩, ⟨some 19, .load 25 (.tmp 18), 25, none, 0⟩, ⟨some 11, .call { callee := .value (.func 38), args := #[.tmp 10], argTypes := #[47] }, 23, none, 1⟩, ⟨some 20, .build 27 #[(0, .tmp 6), (1, .tmp 11), (2, .tmp 15), (3, .tmp 19)], 27, none, 0⟩, ⟨none, .store 27 (.tmp 2) (.tmp 20), 0, none, 1⟩]
def t15_1 : List (Nat × Nat) := [(0, 0), (1, 0), (2, 0), (3, 0), (4, 0), (5, 0), (6, 0), (7, 0), (9, 0), (10, 0), (11, 0), (12, 0), (13, 0), (14, 0), (15, 0), (16, 0), (8, 1), (17, 0), (18, 1)]
set_option maxRecDepth 20000 in
set_option maxHeartbeats 4000000 in
theorem world_any (sc nb sb rb : Nat) (ba : Option Addr) (bl bc : Nat) (w : World) (hs : w.heap[sc]? = some (.cells #[.slice (some ⟨nb, 0, none⟩) 8 8, .pointer (some ⟨rb, 0, none⟩), .slice (some ⟨sb, 0, none⟩) 8 8, .slice ba bl bc] 50 (0, 0))) (hR : Rad w rb) :
    Calls Tryz.prog 15 #[.pointer (some ⟨sc, 0, none⟩)] w fun r w' => r = .returned (.agg #[.slice (some ⟨nb, 0, none⟩) 8 8, .slice none 0 0, .slice (some ⟨sb, 0, none⟩) 8 8, .slice ba bl bc]) ∧ Below w.heap.size w w' := by
  have b0 := balloc (.cells #[.slice none 0 0, .slice none 0 0, .slice none 0 0, .slice none 0 0] 27) (Below.refl w.heap.size w)
  have X := Ws.box (w := w) #[.slice none 0 0, .slice none 0 0, .slice none 0 0, .slice none 0 0] 27
  have hs0 : (w.alloc (.cells #[.slice none 0 0, .slice none 0 0, .slice none 0 0, .slice none 0 0] 27)).heap[sc]? = _ := (b0.block sc (lt_of_block hs)).trans hs
  have hR0 := hR.below b0
  have hsl := lt_of_block hs
  clear hs hR
  go_enter Tryz.func15, Tryz.ntmps15
  go_upto_region 1 with fail
  generalize w.alloc (.cells #[.slice none 0 0, .slice none 0 0, .slice none 0 0, .slice none 0 0] 27) = u at *
  obtain ⟨KR, hKR⟩ : ∃ K, Hid (w.heap.size = K) := ⟨_, rfl⟩
  have gR : sc ≠ KR := by have := hKR.out; omega
  have g1 : w.heap.size ≤ KR := by rw [← hKR.out]; exact Nat.le_refl _
  rw [hKR.out] at X ⊢
  have c0 := (Ws.new hs0).c 0 (.slice (some ⟨nb, 0, none⟩) 8 8) rfl
  have c1 := (Ws.new hs0).c 1 (.pointer (some ⟨rb, 0, none⟩)) rfl
  have c2 := (Ws.new hs0).c 2 (.slice (some ⟨sb, 0, none⟩) 8 8) rfl
  have c3 := (Ws.new hs0).c 3 (.slice ba bl bc) rfl
  have hR' : Rad u.drew rb := hR0
  have x0 := X.c 0 (.slice none 0 0) rfl
  have x1 := X.c 1 (.slice none 0 0) rfl
  have x2 := X.c 2 (.slice none 0 0) rfl
  have x3 := X.c 3 (.slice none 0 0) rfl
  have z0 := X.z 0
  have z1 := X.z 1
  have z2 := X.z 2
  have z3 := X.z 3
  have Y0 := (((X.set 0 (by simp) (.slice (some ⟨nb, 0, none⟩) 8 8)).set 1 (by simp) (.slice none 0 0)).set 2 (by simp) (.slice (some ⟨sb, 0, none⟩) 8 8)).set 3 (by simp) (.slice ba bl bc)
  have Y : Ws ((((u.setCell ⟨KR, 0, none⟩ (.slice (some ⟨nb, 0, none⟩) 8 8)).setCell ⟨KR, 1, none⟩ (.slice none 0 0)).setCell ⟨KR, 2, none⟩ (.slice (some ⟨sb, 0, none⟩) 8 8)).setCell ⟨KR, 3, none⟩ (.slice ba bl bc)).drew KR #[.slice (some ⟨nb, 0, none⟩) 8 8, .slice none 0 0, .slice (some ⟨sb, 0, none⟩) 8 8, .slice ba bl bc].toList := ⟨Y0.lt, Y0.c, Y0.z⟩
  have mEE : Mw (fun x => x = KR) u ((((u.setCell ⟨KR, 0, none⟩ (.slice (some ⟨nb, 0, none⟩) 8 8)).setCell ⟨KR, 1, none⟩ (.slice none 0 0)).setCell ⟨KR, 2, none⟩ (.slice (some ⟨sb, 0, none⟩) 8 8)).setCell ⟨KR, 3, none⟩ (.slice ba bl bc)).drew := (((((Mw.refl (fun x => x = KR) u).set rfl).set rfl).set rfl).set rfl).drew
  have b9 : Below w.heap.size w ((((u.setCell ⟨KR, 0, none⟩ (.slice (some ⟨nb, 0, none⟩) 8 8)).setCell ⟨KR, 1, none⟩ (.slice none 0 0)).setCell ⟨KR, 2, none⟩ (.slice (some ⟨sb, 0, none⟩) 8 8)).setCell ⟨KR, 3, none⟩ (.slice ba bl bc)).drew := mEE.below b0 (fun i e => by omega)
  clear X Y0 b0 hR0 hs0
  refine wp_region_w (fun x => x = KR) s15_1 t15_1 (fun hbq => ?_)
  refine mY ?_
  refine mY ?_
  refine mY ?_
  refine mL ?_
  refine mY ?_
  refine mY ?_
  refine mY ?_
  refine mL ?_
  refine mY ?_
  refine mY ?_
  refine mY ?_
  refine mL ?_
  refine mY ?_
  refine mY ?_
  refine mY ?_
  refine mL ?_
  refine mC (fun K hK => ?_)
  go_simp
  refine (list_any rb _ hR').mono ?_
  rintro r w2 ⟨rfl, rfl⟩
  go_wp2_with fail
  refine hK.out _ _ hbq (.inl ?_)
  clear hK K
  try simp only [putQ]
  refine mY ?_
  refine mC (fun K hK => ?_)
  go_simp
  refine hK.out _ _ mEE (.inl ?_)
  clear hK K
  try simp only [putQ]
  refine mE ?_
  clear x0 x1 x2 x3 z0 z1 z2 z3 c0 c1 c2 c3 mEE hbq hR'
  have y0 := Y.c 0 (.slice (some ⟨nb, 0, none⟩) 8 8) rfl
  have y1 := Y.c 1 (.slice none 0 0) rfl
  have y2 := Y.c 2 (.slice (some ⟨sb, 0, none⟩) 8 8) rfl
  have y3 := Y.c 3 (.slice ba bl bc) rfl
  clear Y
  generalize ((((u.setCell ⟨KR, 0, none⟩ (.slice (some ⟨nb, 0, none⟩) 8 8)).setCell ⟨KR, 1, none⟩ (.slice none 0 0)).setCell ⟨KR, 2, none⟩ (.slice (some ⟨sb, 0, none⟩) 8 8)).setCell ⟨KR, 3, none⟩ (.slice ba bl bc)).drew = W4 at *
  go_wp2
  refine bodyPost_ret (v := .agg #[.slice (some ⟨nb, 0, none⟩) 8 8, .slice none 0 0, .slice (some ⟨sb, 0, none⟩) 8 8, .slice ba bl bc]) ?_ rfl ⟨rfl, b9⟩
  simp [results, Tryz.results15, go_sem, y0, y1, y2, y3]
theorem NwI.mw1 {w w' : World} {base sc nb sb rb x0 : Nat} {tb : Nat → Nat} {vb : Value} {k : Nat} {c : Array Value} (h : NwI w base sc nb sb rb tb vb k) (m : Mw (fun b => b = x0) w w') (hx : x0 < base) (ht : w.heap[x0]? = some (.cells c 27 (0, 0))) : NwI w' base sc nb sb rb tb vb k := by
  have q : ∀ x, base ≤ x → ¬ x = x0 := fun x hx' => by omega
  refine ⟨(m.block sc (lt_of_block h.s) (q sc h.c)).trans h.s, own_mw h.n m (fun x e => q x (h.n.lt x e).1), own_mw h.d m (fun x e => q x (h.d.lt x e).1), h.r.mw m (fun x ty c' hx' hty e => ?_), own_mw h.b m (fun x e => q x (h.b.lt x e).1), fun i hi => ⟨(h.t i hi).1.block (m.block (tb i) (h.t i hi).1.lt (q _ (h.t i hi).2.1)), (h.t i hi).2⟩, h.e, h.c⟩
  subst e
  rw [ht] at hx'
  injection hx' with hx'
  injection hx' with _ hx' _
  rcases hty with rfl | rfl <;> exact absurd hx' (by decide)
theorem inb_k {k : Nat} (h : k < 8) : inb (k : Int) 0 7 = true := by
  unfold inb
  simp
  omega
theorem own_heap {w : World} {base g e size n : Nat} {cs : Array Value} (h : w.heap[g]? = some (.cells cs e (0, 0))) (hb : base ≤ g) (hm : n ≤ maxLen) (hs : cs.size = n * size) : w.ownsRow base e size (.slice (some ⟨g, 0, none⟩) n n) n cs.toList :=
  ⟨by simpa using hs, .inr ⟨g, n, cs, rfl, hb, h, Nat.le_refl _, hm, hs, List.take_of_length_le (by rw [Array.length_toList, hs]; exact Nat.le_refl _)⟩⟩
theorem nw_start {W : World} {base sc nb sb rb : Nat} (h1 : W.heap[nb]? = some (.cells z168 41 (0, 0))) (h2 : W.heap[sb]? = some (.cells #[.int .i64 0, .int .i64 0, .int .i64 0, .int .i64 0, .int .i64 0, .int .i64 0, .int .i64 0, .int .i64 0] 3 (0, 0))) (hR : Rad W rb) (q1 : base ≤ nb) (q2 : base ≤ sb) (q3 : base ≤ W.heap.size) (hsc : W.heap.size = sc) : NwI (W.alloc (.cells #[.slice (some ⟨nb, 0, none⟩) 8 8, .pointer (some ⟨rb, 0, none⟩), .slice (some ⟨sb, 0, none⟩) 8 8, .slice none 0 0] 50)) base sc nb sb rb (fun _ => 0) (.slice none 0 0) 0 := by
  subst hsc
  have b := balloc (.cells #[.slice (some ⟨nb, 0, none⟩) 8 8, .pointer (some ⟨rb, 0, none⟩), .slice (some ⟨sb, 0, none⟩) 8 8, .slice none 0 0] 50) (Below.refl W.heap.size W)
  have r1 := own_heap (base := base) (size := 21) (n := 8) h1 q1 (by unfold maxLen; omega) (by kernel_rfl)
  rw [← nF_zero (fun _ => 0)] at r1
  exact ⟨heap_alloc_new _ _, own_below r1 b, own_below (own_heap (size := 1) (n := 8) h2 q2 (by unfold maxLen; omega) rfl) b, hR.below b, World.ownsRow_nil _ _ _ _, fun i hi => by omega, fun i j _ hj => by omega, q3⟩
set_option maxRecDepth 20000 in
set_option maxHeartbeats 4000000 in
theorem wnewI_any (w : World) : Calls Tryz.prog 5 #[] w fun r w' => (∃ sc nb sb rb tb ba bc, r = .returned (.agg #[.slice (some ⟨nb, 0, none⟩) 8 8, .slice none 0 0, .slice (some ⟨sb, 0, none⟩) 8 8, .slice ba 8 bc]) ∧ NwI w' (w.heap.size + 1) sc nb sb rb tb (.slice ba 8 bc) 8) ∧ Below w.heap.size w w' := by
  have h22 := mk22
  have h24 := mk24
  have b0 := balloc (.cells #[.slice none 0 0, .slice none 0 0, .slice none 0 0, .slice none 0 0] 27) (Below.refl w.heap.size w)
  have hbox := heap_alloc_new w (.cells #[.slice none 0 0, .slice none 0 0, .slice none 0 0, .slice none 0 0] 27)
  have hsz : (w.alloc (.cells #[.slice none 0 0, .slice none 0 0, .slice none 0 0, .slice none 0 0] 27)).heap.size = w.heap.size + 1 := by simp [go_sem]
  go_enter Tryz.func5, Tryz.ntmps5
  go_upto_region 1 with fail
  rename_i K hK
  generalize w.alloc (.cells #[.slice none 0 0, .slice none 0 0, .slice none 0 0, .slice none 0 0] 27) = u0 at *
  have rest : ∀ u sc nb sb rb, NwI u (w.heap.size + 1) sc nb sb rb (fun _ => 0) (.slice none 0 0) 0 → Below (w.heap.size + 1) u0 u → K ⟨#[.pointer (some ⟨w.heap.size, 0, none⟩), .pointer (some ⟨sc, 0, none⟩), undef, .pointer (some ⟨rb, 0, none⟩), .slice (some ⟨sb, 0, none⟩) 8 8, .slice (some ⟨nb, 0, none⟩) 8 8, .agg #[.slice (some ⟨nb, 0, none⟩) 8 8, .pointer (some ⟨rb, 0, none⟩), .slice (some ⟨sb, 0, none⟩) 8 8, .slice none 0 0], .pointer (some ⟨sc, 0, none⟩), undef, undef, undef, undef, undef, undef, undef, undef, undef, undef, undef, undef, undef, undef, undef, undef, undef], []⟩ u := by
    intro u sc nb sb rb hN hb
    apply hK
    have c0 := (Ws.new hN.s).c 0 (.slice (some ⟨nb, 0, none⟩) 8 8) rfl
    clear hK h22 h24
    go_wp2_with fail
    go_loopw [2, 13] (fun _ i wr => ∃ (k : Nat) (tb : Nat → Nat) (vb : Value), k ≤ 8 ∧ i = .int .i64 k ∧ NwI wr (w.heap.size + 1) sc nb sb rb tb vb k ∧ Below (w.heap.size + 1) u0 wr) (fun _ i _ => 8 - (intOf i).toNat)
    case atStart => exact ⟨0, _, _, by omega, rfl, hN, hb⟩
    case round =>
      obtain ⟨k, tb, vb, hk, rfl, hN1, hb1⟩ := hrel
      by_cases hlt : k < 8
      · have i1 : (k : Int) < 8 := by omega
        go_wp2_with fail
        refine (gateI_any k _).mono ?_
        rintro r w1 ⟨rfl, rfl⟩
        go_wp2_with fail
        refine (fnew_ok (k : Int) (gtB k) _ (inb_k hlt)).mono ?_
        rintro r w2 ⟨t, rfl, hr, hge, kb⟩
        have hN2 := hN1.below kb
        have hbs : w.heap.size + 1 ≤ w1.heap.size := by have := hb1.size; omega
        have hcall := becomes_any (w.heap.size + 1) sc nb t k _ _ vb _ (bF k) (gtB k) w2 hN2.s hN2.n hlt (nF_tab tb k) hr hN2.b (by have := kb.size; omega) (by rw [bF_len]; omega) (fun j hj => bF_lt k j hj)
        go_wp2_with fail
        refine Calls.mono hcall ?_
        rintro r w3 ⟨rfl, vb', g1, g2, g3, m, g5⟩
        have hN3 := NwI.next (H := w1.heap.size) hN2 hr hge hbs (lt_of_block hN1.s) (hN1.n.lt nb rfl).2 (hN1.d.lt sb rfl).2 (fun x e => (hN1.b.lt x e).2) (fun i hi => (hN1.t i hi).1.lt) g1 g2 g3 m g5
        have hb3 : Below (w.heap.size + 1) u0 w3 := (hb1.trans (kb.mono hbs)).trans ⟨m.os, m.tape, m.output, m.size, fun x hx => m.block x (by have := kb.size; omega) (fun q => by
          rcases q with q | q | q
          · have := hN1.c; omega
          · have := (hN1.n.lt nb rfl).1; omega
          · have := (hN1.b.lt x q).1; omega)⟩
        clear hcall g1 g2 g3 m g5 hN2 hN1 hr kb hge hb1
        go_wp2
        go_roundw
        case rel => exact ⟨k + 1, _, vb', by omega, by go_num, hN3, hb3⟩
        case measure => simp [intOf]; omega
      · obtain rfl : k = 8 := by omega
        have hb8 := hN1.b
        rw [bF_len] at hb8
        obtain ⟨ba, bc, rfl, _⟩ := own_slice hb8
        have hcall := world_any sc nb sb rb ba 8 bc wr hN1.s hN1.r
        go_wp2_with fail
        refine Calls.mono hcall ?_
        rintro r w2 ⟨rfl, k2⟩
        have hbs : w.heap.size + 1 ≤ wr.heap.size := by have := hb1.size; omega
        have hb2 := hb1.trans (k2.mono hbs)
        have hx2 : w2.heap[w.heap.size]? = some (.cells #[.slice none 0 0, .slice none 0 0, .slice none 0 0, .slice none 0 0] 27 (0, 0)) := (hb2.block w.heap.size (by omega)).trans hbox
        have hN2 := hN1.below k2
        have X := Ws.new hx2
        have x0 := X.c 0 (.slice none 0 0) rfl
        have x1 := X.c 1 (.slice none 0 0) rfl
        have x2 := X.c 2 (.slice none 0 0) rfl
        have x3 := X.c 3 (.slice none 0 0) rfl
        have z0 := X.z 0
        have z1 := X.z 1
        have z2 := X.z 2
        have z3 := X.z 3
        have Y := (((X.set 0 (by simp) (.slice (some ⟨nb, 0, none⟩) 8 8)).set 1 (by simp) (.slice none 0 0)).set 2 (by simp) (.slice (some ⟨sb, 0, none⟩) 8 8)).set 3 (by simp) (.slice ba 8 bc)
        have mE4 : Mw (fun x => x = w.heap.size) w2 ((((w2.setCell ⟨w.heap.size, 0, none⟩ (.slice (some ⟨nb, 0, none⟩) 8 8)).setCell ⟨w.heap.size, 1, none⟩ (.slice none 0 0)).setCell ⟨w.heap.size, 2, none⟩ (.slice (some ⟨sb, 0, none⟩) 8 8)).setCell ⟨w.heap.size, 3, none⟩ (.slice ba 8 bc)) := ((((Mw.refl (fun x => x = w.heap.size) w2).set rfl).set rfl).set rfl).set rfl
        have hN4 := hN2.mw1 mE4 (by omega) hx2
        have b4 := mE4.below (btrans b0 (by rw [hsz]; exact hb2)) (fun i e => by omega)
        clear hcall hN1 hN2 hb1 hb2 hb8 X k2 mE4 hx2
        go_wp2_with fail
        clear x0 x1 x2 x3 z0 z1 z2 z3
        have y0 := Y.c 0 (.slice (some ⟨nb, 0, none⟩) 8 8) rfl
        have y1 := Y.c 1 (.slice none 0 0) rfl
        have y2 := Y.c 2 (.slice (some ⟨sb, 0, none⟩) 8 8) rfl
        have y3 := Y.c 3 (.slice ba 8 bc) rfl
        clear Y
        generalize ((((w2.setCell ⟨w.heap.size, 0, none⟩ (.slice (some ⟨nb, 0, none⟩) 8 8)).setCell ⟨w.heap.size, 1, none⟩ (.slice none 0 0)).setCell ⟨w.heap.size, 2, none⟩ (.slice (some ⟨sb, 0, none⟩) 8 8)).setCell ⟨w.heap.size, 3, none⟩ (.slice ba 8 bc)) = W4 at *
        refine bodyPost_ret (v := .agg #[.slice (some ⟨nb, 0, none⟩) 8 8, .slice none 0 0, .slice (some ⟨sb, 0, none⟩) 8 8, .slice ba 8 bc]) ?_ rfl ⟨⟨sc, nb, sb, rb, tb, ba, bc, rfl, hN4⟩, b4⟩
        simp [results, Tryz.results5, go_sem, y0, y1, y2, y3]
  clear hK
  go_region_held3 (fun _ => True) (trivial) (first | (go_at_call 11; refine (radioOf_any _).mono ?_; rintro r v1 ⟨⟨rb, rfl, hR, hl⟩, k1⟩))
  · have kk : Below (w.heap.size + 1) u0 v1 := ⟨k1.os, k1.tape, k1.output, k1.size, fun x hx => k1.block x (show x < u0.heap.size by omega)⟩
    have hs1 : w.heap.size + 1 ≤ v1.heap.size := by have := kk.size; omega
    exact rest _ _ _ _ _ (nw_start (W := ((v1.alloc (.cells #[.int .i64 0, .int .i64 0, .int .i64 0, .int .i64 0, .int .i64 0, .int .i64 0, .int .i64 0, .int .i64 0] 3)).alloc (.cells z168 41))) (by have := heap_alloc_new (v1.alloc (.cells #[.int .i64 0, .int .i64 0, .int .i64 0, .int .i64 0, .int .i64 0, .int .i64 0, .int .i64 0, .int .i64 0] 3)) (.cells z168 41); simpa using this) ((heap_alloc_old (v1.alloc (.cells #[.int .i64 0, .int .i64 0, .int .i64 0, .int .i64 0, .int .i64 0, .int .i64 0, .int .i64 0, .int .i64 0] 3)) (.cells z168 41) (by simp)).trans (heap_alloc_new v1 (.cells #[.int .i64 0, .int .i64 0, .int .i64 0, .int .i64 0, .int .i64 0, .int .i64 0, .int .i64 0, .int .i64 0] 3))) (hR.below (balloc _ (balloc _ (Below.refl _ _)))) (by omega) (by omega) (by first | omega | (simp; omega)) (by simp)) (((kk.alloc hs1 _).alloc (by simp; omega) _).alloc (by first | omega | (simp; omega)) _)
  · have kk : Below (w.heap.size + 1) u0 v1 := ⟨k1.os, k1.tape, k1.output, k1.size, fun x hx => k1.block x (show x < u0.heap.size by omega)⟩
    have hs1 : w.heap.size + 1 ≤ v1.heap.size := by have := kk.size; omega
    exact rest _ _ _ _ _ (nw_start (W := ((v1.alloc (.cells z168 41)).alloc (.cells #[.int .i64 0, .int .i64 0, .int .i64 0, .int .i64 0, .int .i64 0, .int .i64 0, .int .i64 0, .int .i64 0] 3))) ((heap_alloc_old (v1.alloc (.cells z168 41)) (.cells #[.int .i64 0, .int .i64 0, .int .i64 0, .int .i64 0, .int .i64 0, .int .i64 0, .int .i64 0, .int .i64 0] 3) (by simp)).trans (heap_alloc_new v1 (.cells z168 41))) (by have := heap_alloc_new (v1.alloc (.cells z168 41)) (.cells #[.int .i64 0, .int .i64 0, .int .i64 0, .int .i64 0, .int .i64 0, .int .i64 0, .int .i64 0, .int .i64 0] 3); simpa using this) (hR.below (balloc _ (balloc _ (Below.refl _ _)))) (by omega) (by omega) (by first | omega | (simp; omega)) (by simp)) (((kk.alloc hs1 _).alloc (by simp; omega) _).alloc (by first | omega | (simp; omega)) _)
  · have kA0 := (Below.refl (w.heap.size + 1) u0).alloc (by omega) (.cells #[.int .i64 0, .int .i64 0, .int .i64 0, .int .i64 0, .int .i64 0, .int .i64 0, .int .i64 0, .int .i64 0] 3)
    have hX : (u0.alloc (.cells #[.int .i64 0, .int .i64 0, .int .i64 0, .int .i64 0, .int .i64 0, .int .i64 0, .int .i64 0, .int .i64 0] 3)).heap[w.heap.size + 1]? = some (.cells #[.int .i64 0, .int .i64 0, .int .i64 0, .int .i64 0, .int .i64 0, .int .i64 0, .int .i64 0, .int .i64 0] 3 (0, 0)) := by rw [← hsz]; exact heap_alloc_new u0 (.cells #[.int .i64 0, .int .i64 0, .int .i64 0, .int .i64 0, .int .i64 0, .int .i64 0, .int .i64 0, .int .i64 0] 3)
    have kk : Below (w.heap.size + 1) u0 v1 := kA0.trans ⟨k1.os, k1.tape, k1.output, k1.size, fun x hx => k1.block x (by simp; omega)⟩
    have hs2 : w.heap.size + 1 < v1.heap.size := by have := k1.size; simp at this; omega
    have hs1 : w.heap.size + 1 ≤ v1.heap.size := by have := kk.size; omega
    exact rest _ _ _ _ _ (nw_start (W := (v1.alloc (.cells z168 41))) (heap_alloc_new v1 (.cells z168 41)) ((heap_alloc_old v1 (.cells z168 41) hs2).trans ((k1.block _ (by simp [hsz])).trans hX)) (hR.below (balloc _ (Below.refl _ _))) (by omega) (by omega) (by first | omega | (simp; omega)) (by simp)) ((kk.alloc hs1 _).alloc (by first | omega | (simp; omega)) _)
  · have kA0 := ((Below.refl (w.heap.size + 1) u0).alloc (by omega) (.cells #[.int .i64 0, .int .i64 0, .int .i64 0, .int .i64 0, .int .i64 0, .int .i64 0, .int .i64 0, .int .i64 0] 3)).alloc (by simp; omega) (.cells z168 41)
    have hX : ((u0.alloc (.cells #[.int .i64 0, .int .i64 0, .int .i64 0, .int .i64 0, .int .i64 0, .int .i64 0, .int .i64 0, .int .i64 0] 3)).alloc (.cells z168 41)).heap[w.heap.size + 1]? = some (.cells #[.int .i64 0, .int .i64 0, .int .i64 0, .int .i64 0, .int .i64 0, .int .i64 0, .int .i64 0, .int .i64 0] 3 (0, 0)) := by rw [← hsz]; exact (heap_alloc_old _ _ (by simp)).trans (heap_alloc_new u0 (.cells #[.int .i64 0, .int .i64 0, .int .i64 0, .int .i64 0, .int .i64 0, .int .i64 0, .int .i64 0, .int .i64 0] 3))
    have hY : ((u0.alloc (.cells #[.int .i64 0, .int .i64 0, .int .i64 0, .int .i64 0, .int .i64 0, .int .i64 0, .int .i64 0, .int .i64 0] 3)).alloc (.cells z168 41)).heap[w.heap.size + 1 + 1]? = some (.cells z168 41 (0, 0)) := by rw [← hsz]; have := heap_alloc_new (u0.alloc (.cells #[.int .i64 0, .int .i64 0, .int .i64 0, .int .i64 0, .int .i64 0, .int .i64 0, .int .i64 0, .int .i64 0] 3)) (.cells z168 41); simpa using this
    have kk : Below (w.heap.size + 1) u0 v1 := kA0.trans ⟨k1.os, k1.tape, k1.output, k1.size, fun x hx => k1.block x (by simp; omega)⟩
    have hs2 : w.heap.size + 1 < v1.heap.size := by have := k1.size; simp at this; omega
    have hs1 : w.heap.size + 1 ≤ v1.heap.size := by have := kk.size; omega
    exact rest _ _ _ _ _ (nw_start (W := v1) ((k1.block _ (by simp [hsz]; try omega)).trans hY) ((k1.block _ (by simp [hsz]; try omega)).trans hX) hR (by omega) (by omega) (by first | omega | (simp; omega)) rfl) ((kk).alloc (by first | omega | (simp; omega)) _)
  · have kA0 := (Below.refl (w.heap.size + 1) u0).alloc (by omega) (.cells z168 41)
    have hX : (u0.alloc (.cells z168 41)).heap[w.heap.size + 1]? = some (.cells z168 41 (0, 0)) := by rw [← hsz]; exact heap_alloc_new u0 (.cells z168 41)
    have kk : Below (w.heap.size + 1) u0 v1 := kA0.trans ⟨k1.os, k1.tape, k1.output, k1.size, fun x hx => k1.block x (by simp; omega)⟩
    have hs2 : w.heap.size + 1 < v1.heap.size := by have := k1.size; simp at this; omega
    have hs1 : w.heap.size + 1 ≤ v1.heap.size := by have := kk.size; omega
    exact rest _ _ _ _ _ (nw_start (W := (v1.alloc (.cells #[.int .i64 0, .int .i64 0, .int .i64 0, .int .i64 0, .int .i64 0, .int .i64 0, .int .i64 0, .int .i64 0] 3))) ((heap_alloc_old v1 (.cells #[.int .i64 0, .int .i64 0, .int .i64 0, .int .i64 0, .int .i64 0, .int .i64 0, .int .i64 0, .int .i64 0] 3) hs2).trans ((k1.block _ (by simp [hsz])).trans hX)) (heap_alloc_new v1 (.cells #[.int .i64 0, .int .i64 0, .int .i64 0, .int .i64 0, .int .i64 0, .int .i64 0, .int .i64 0, .int .i64 0] 3)) (hR.below (balloc _ (Below.refl _ _))) (by omega) (by omega) (by first | omega | (simp; omega)) (by simp)) ((kk.alloc hs1 _).alloc (by first | omega | (simp; omega)) _)
  · have kA0 := ((Below.refl (w.heap.size + 1) u0).alloc (by omega) (.cells z168 41)).alloc (by simp; omega) (.cells #[.int .i64 0, .int .i64 0, .int .i64 0, .int .i64 0, .int .i64 0, .int .i64 0, .int .i64 0, .int .i64 0] 3)
    have hX : ((u0.alloc (.cells z168 41)).alloc (.cells #[.int .i64 0, .int .i64 0, .int .i64 0, .int .i64 0, .int .i64 0, .int .i64 0, .int .i64 0, .int .i64 0] 3)).heap[w.heap.size + 1]? = some (.cells z168 41 (0, 0)) := by rw [← hsz]; exact (heap_alloc_old _ _ (by simp)).trans (heap_alloc_new u0 (.cells z168 41))
    have hY : ((u0.alloc (.cells z168 41)).alloc (.cells #[.int .i64 0, .int .i64 0, .int .i64 0, .int .i64 0, .int .i64 0, .int .i64 0, .int .i64 0, .int .i64 0] 3)).heap[w.heap.size + 1 + 1]? = some (.cells #[.int .i64 0, .int .i64 0, .int .i64 0, .int .i64 0, .int .i64 0, .int .i64 0, .int .i64 0, .int .i64 0] 3 (0, 0)) := by rw [← hsz]; have := heap_alloc_new (u0.alloc (.cells z168 41)) (.cells #[.int .i64 0, .int .i64 0, .int .i64 0, .int .i64 0, .int .i64 0, .int .i64 0, .int .i64 0, .int .i64 0] 3); simpa using this
    have kk : Below (w.heap.size + 1) u0 v1 := kA0.trans ⟨k1.os, k1.tape, k1.output, k1.size, fun x hx => k1.block x (by simp; omega)⟩
    have hs2 : w.heap.size + 1 < v1.heap.size := by have := k1.size; simp at this; omega
    have hs1 : w.heap.size + 1 ≤ v1.heap.size := by have := kk.size; omega
    exact rest _ _ _ _ _ (nw_start (W := v1) ((k1.block _ (by simp [hsz]; try omega)).trans hX) ((k1.block _ (by simp [hsz]; try omega)).trans hY) hR (by omega) (by omega) (by first | omega | (simp; omega)) rfl) ((kk).alloc (by first | omega | (simp; omega)) _)
end Go.Proofs.YtlabilijnpkmgaaGreatDoor
