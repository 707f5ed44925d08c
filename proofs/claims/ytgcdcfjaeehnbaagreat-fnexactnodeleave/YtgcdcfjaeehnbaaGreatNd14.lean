/- Nodes, the model's way: what is to be told. -/
import Derived.Test.YtgcdcfjaeehnbaaGreatNd12
import Derived.Test.YtgcdcfjaeehnbaaGreatNd6
namespace Go.Proofs.YtgcdcfjaeehnbaaGreat
open Go.ChangeShapes Go.WideShapes Go.ChangeAt Go.RowKit
set_option maxRecDepth 20000
set_option maxHeartbeats 8000000
attribute [local go_sem ↓] Go.wp_at_zero Go.wp_at_succ
theorem l3_lit (n i s : Int) (g : Bool) (n' i' s' : Int) (g' b : Bool) (hb : l3B i s g i' s' g' = b) (w : World) :
  Calls Tryz.prog 141 #[.agg #[.int .i64 n, .int .i64 i, .int .i64 s, .bool g], .agg #[.int .i64 n', .int .i64 i', .int .i64 s', .bool g']] w fun r w' => r = .returned (.bool b) ∧ Below w.heap.size w w' :=
 (l3_any n i s g n' i' s' g' w).mono (by rintro e w' ⟨rfl, o1, o2, rfl⟩; exact ⟨by rw [hb], balloc _ (balloc _ (Below.refl _ _))⟩)
theorem sfind_none (a : Option Addr) (len cap : Nat) (F : Nat → Fc) (key : Int) (hb : fnd len F key = none) (w : World) (h : FSl w a len F) (hl : len ≤ 1048576) :
  Calls Tryz.prog 71 #[.slice a len cap, .int .i64 key] w fun e w' => e = .returned (.int .i64 (-1)) ∧ Below w.heap.size w w' := by
 have := sfind_any a len cap F key w h hl
 rw [hb] at this
 exact this
theorem sfind_some (a : Option Addr) (len cap : Nat) (F : Nat → Fc) (key : Int) (k : Nat) (hb : fnd len F key = some k) (w : World) (h : FSl w a len F) (hl : len ≤ 1048576) :
  Calls Tryz.prog 71 #[.slice a len cap, .int .i64 key] w fun e w' => e = .returned (.int .i64 (k : Int)) ∧ Below w.heap.size w w' := by
 have := sfind_any a len cap F key w h hl
 rw [hb] at this
 exact this
def scinB (tl : Nat) (F : Nat → Fc) (n i s : Int) (g : Bool) : Bool :=
 (fnd tl F n).isSome && !l3B i s g (fo F (fnd tl F n)).i (fo F (fnd tl F n)).s (fo F (fnd tl F n)).g
def scastB (tl : Nat) (F : Nat → Fc) (len : Nat) (G : Nat → It) : Bool := cokB len G && decide (∀ k, k < len → scinB tl F (G k).n (G k).i (G k).s (G k).g = true)
theorem scast_no {tl : Nat} {F : Nat → Fc} {len : Nat} {G : Nat → It} {k : Nat} (hk : k < len) (h : scinB tl F (G k).n (G k).i (G k).s (G k).g = false) : scastB tl F len G = false := by
 unfold scastB
 rw [Bool.and_eq_false_iff]
 exact .inr (decide_eq_false fun q => by have := q k hk; rw [h] at this; cases this)
theorem scast_any (me : Int) (up gone gate : Bool) (inc now sq turn : Int) (ta : Option Addr) (tl tc : Nat) (ca : Option Addr) (cl cc : Nat) (pn ps pq : Int) (pa : Bool) (da : Option Addr) (dl dc : Nat) (cx cy ch ce : Int) (pla : Option Addr) (pll plc : Nat) (oa : Option Addr) (ol oc : Nat) (F : Nat → Fc) (G : Nat → It) (w : World) (h : FSl w ta tl F) (hl : tl ≤ 1048576) (hG : TSl w ca cl G) (hm : cl ≤ 1048576) :
  Calls Tryz.prog 83 #[.agg #[.int .i64 me, .bool up, .bool gone, .bool gate, .int .i64 inc, .int .i64 now, .int .i64 sq, .int .i64 turn, .slice ta tl tc, .slice ca cl cc, .int .i64 pn, .int .i64 ps, .int .i64 pq, .bool pa, .slice da dl dc, .int .i64 cx, .int .i64 cy, .int .i64 ch, .int .i64 ce, .slice pla pll plc, .slice oa ol oc]] w fun r w' => r = .returned (.bool (scastB tl F cl G)) ∧ Below w.heap.size w w' := by
 go_enter Tryz.func83, Tryz.ntmps83
 go_upto_region 1 with fail
 generalize hu : w.alloc (.cells _ _) = u
 obtain ⟨X, b0⟩ := box1 hu
 clear hu
 have hG' := hG.below b0
 have hF' := h.below b0
 have d8 := X.c 8 (.slice ta tl tc) rfl
 have d9 := X.c 9 (.slice ca cl cc) rfl
 clear X hG h
 go_wp2_with fail
 have hst : Hid (scastB tl F cl G = (cokB cl G && decide (∀ k, k < cl → scinB tl F (G k).n (G k).i (G k).s (G k).g = true))) := rfl
 refine (scok_any ca cl cc G _ hG' hm).mono ?_
 rintro r w1 ⟨rfl, k1⟩
 generalize cokB cl G = q at *
 have b1 := btrans b0 k1
 have hG1 := hG'.below k1
 have hF1 := hF'.below k1
 have e8 := keep_below k1 d8
 have e9 := keep_below k1 d9
 clear d8 d9 hG' hF' k1 b0
 cases q
 ·go_wp2
  go_ret
  exact ⟨ret_bool (by rw [hst.out]; rfl), b1⟩
 go_wp2
 go_loopw [3, 4] (fun i _ wr => ∃ k : Nat, k ≤ cl ∧ i = .int .i64 k ∧ Below w1.heap.size w1 wr ∧ (∀ j, j < k → scinB tl F (G j).n (G j).i (G j).s (G j).g = true)) (fun i _ _ => cl - (intOf i).toNat)
 case atStart => exact ⟨0, by omega, rfl, Below.refl _ _, fun j h1 => by omega⟩
 case round =>
  obtain ⟨k, hk, rfl, hb, hall⟩ := hrel
  have g8 := keep_below hb e8
  have g9 := keep_below hb e9
  by_cases hlt : k < cl
  ·obtain ⟨b, off, rfl, hbl, hf⟩ := hG1 (by omega)
   obtain ⟨c0, c1, c2, c3, c4⟩ := (hf.below hb hbl) k hlt
   have hS := hF1.below hb
   have hso : Hid (scinB tl F (G k).n (G k).i (G k).s (G k).g = ((fnd tl F (G k).n).isSome && !l3B (G k).i (G k).s (G k).g (fo F (fnd tl F (G k).n)).i (fo F (fnd tl F (G k).n)).s (fo F (fnd tl F (G k).n)).g)) := rfl
   have hno : scinB tl F (G k).n (G k).i (G k).s (G k).g = false → scastB tl F cl G = false := scast_no hlt
   have hyes : Hid (scinB tl F (G k).n (G k).i (G k).s (G k).g = true → ∀ j, j < k + 1 → scinB tl F (G j).n (G j).i (G j).s (G j).g = true) := fun e j hj => by
    by_cases ej : j = k
    ·subst ej; exact e
    ·exact hall j (by omega)
   clear hall
   generalize G k = x at *
   obtain ⟨n, i, s, g, l⟩ := x
   dsimp only at c0 c1 c2 c3 c4 hso hno hyes
   have i0 : (0 : Int) ≤ (k : Int) := by omega
   have i1 : (k : Int) < (cl : Int) := by omega
   go_upto_region 6 with fail
   cases ef : fnd tl F n with
   | none =>
    have y0 : Hid (fnd tl F n = none) := ef
    clear ef
    refine wp_region_held_drew (S := (fun w' => w'.cell? ⟨w.heap.size, 8, none⟩ = some (.slice ta tl tc) ∧ w'.cell? ⟨w.heap.size, 9, none⟩ = some (.slice (some ⟨b, off, none⟩) cl cc) ∧ w'.cell? ⟨b, off + k * 5, none⟩ = some (.int .i64 n) ∧ w'.cell? ⟨b, off + k * 5 + 1, none⟩ = some (.int .i64 i) ∧ w'.cell? ⟨b, off + k * 5 + 2, none⟩ = some (.int .i64 s) ∧ w'.cell? ⟨b, off + k * 5 + 3, none⟩ = some (.bool g) ∧ FSl w' ta tl F ∧ Below w1.heap.size w1 w')) (by kernel_rfl) ?_ (fun hHeld => ?_)
    ·(try dsimp only); exact ⟨keep_drew g8, keep_drew g9, keep_drew c0, keep_drew c1, keep_drew c2, keep_drew c3, hS.below (Below.refl _ _).drew, hb.drew⟩
    refine tlT (i := 0) rfl ?_; refine tlT (i := 1) rfl ?_; refine tlT (i := 2) rfl ?_; refine tlT (i := 3) rfl ?_; refine tlT (i := 4) rfl ?_; refine tlT (i := 5) rfl ?_; refine tlT (i := 6) rfl ?_; refine tlT (i := 7) rfl ?_; refine tlT (i := 8) rfl ?_
    refine wpAnyH_ready (rs := [9]) (by kernel_rfl) (by simp) ?_
    refine AllReadyH.cons (o := _) rfl (fun K hK => ?_) AllReadyH.nil
    go_simp
    refine (sfind_none ta tl tc F n y0.out _ hHeld.2.2.2.2.2.2.1 hl).mono ?_; rintro r w2 ⟨rfl, k3⟩
    go_wp2_with fail
    refine hK.out _ _ ?_ (fun hHeld => ?_)
    ·(try dsimp only); exact ⟨keep_below k3 hHeld.1, keep_below k3 hHeld.2.1, keep_below k3 hHeld.2.2.1, keep_below k3 hHeld.2.2.2.1, keep_below k3 hHeld.2.2.2.2.1, keep_below k3 hHeld.2.2.2.2.2.1, hHeld.2.2.2.2.2.2.1.below k3, btrans hHeld.2.2.2.2.2.2.2 k3⟩
    clear hK K
    (try simp only [putP]); refine tlT (i := 10) rfl ?_
    refine wpAnyH_done (by kernel_rfl) ?_ _
    have f8 := hHeld.1
    have f9 := hHeld.2.1
    have p0 := hHeld.2.2.1
    have p1 := hHeld.2.2.2.1
    have p2 := hHeld.2.2.2.2.1
    have p3 := hHeld.2.2.2.2.2.1
    have hS2 := hHeld.2.2.2.2.2.2.1
    have hb2 := hHeld.2.2.2.2.2.2.2
    clear hHeld
    go_upto_region 7 with fail
    refine wp_region_held_drew (S := (fun w' => w'.cell? ⟨w.heap.size, 8, none⟩ = some (.slice ta tl tc) ∧ w'.cell? ⟨w.heap.size, 9, none⟩ = some (.slice (some ⟨b, off, none⟩) cl cc) ∧ w'.cell? ⟨b, off + k * 5, none⟩ = some (.int .i64 n) ∧ w'.cell? ⟨b, off + k * 5 + 1, none⟩ = some (.int .i64 i) ∧ w'.cell? ⟨b, off + k * 5 + 2, none⟩ = some (.int .i64 s) ∧ w'.cell? ⟨b, off + k * 5 + 3, none⟩ = some (.bool g) ∧ Below w1.heap.size w1 w')) (by kernel_rfl) ?_ (fun hHeld => ?_)
    ·(try dsimp only); exact ⟨keep_drew f8, keep_drew f9, keep_drew p0, keep_drew p1, keep_drew p2, keep_drew p3, hb2.drew⟩
    refine tlT (i := 0) rfl ?_
    refine tkQ (i := 1) (oi := { dst := some 27, op := .binOp .lss 3 (.tmp 26) (.const (.int .i64 0)) 3, type := 4, pos := "l21_node.go:44", after := #[{ on := 0, ground := .data }], guard := none }) (v := .bool true) ?_ ?_
    ·(intro w hSw; (try dsimp only at hSw); go_simp; all_goals (first | with_reducible rfl |  assumption | (simp; done) | (simp; omega)))
    (try simp only [putP]); refine tlT (i := 2) rfl ?_; refine tzT (i := 3) rfl ?_; refine tzT (i := 4) rfl ?_; refine tzT (i := 5) rfl ?_; refine tzT (i := 6) rfl ?_; refine tzT (i := 7) rfl ?_; refine tzT (i := 8) rfl ?_; refine tzT (i := 9) rfl ?_; refine tzT (i := 10) rfl ?_; refine tzT (i := 11) rfl ?_; refine tzT (i := 12) rfl ?_; refine tzT (i := 13) rfl ?_; refine tzT (i := 14) rfl ?_; refine tlT (i := 15) rfl ?_
    refine wpAnyH_done (by kernel_rfl) ?_ _
    go_wp2
    go_ret
    exact ⟨ret_bool (hno (by rw [hso.out, y0.out]; rfl)).symm, btrans b1 hHeld.2.2.2.2.2.2⟩
   | some k2 =>
    have y0 : Hid (fnd tl F n = some k2) := ef
    have hk2 := fnd_lt ef
    clear ef
    refine wp_region_held_drew (S := (fun w' => w'.cell? ⟨w.heap.size, 8, none⟩ = some (.slice ta tl tc) ∧ w'.cell? ⟨w.heap.size, 9, none⟩ = some (.slice (some ⟨b, off, none⟩) cl cc) ∧ w'.cell? ⟨b, off + k * 5, none⟩ = some (.int .i64 n) ∧ w'.cell? ⟨b, off + k * 5 + 1, none⟩ = some (.int .i64 i) ∧ w'.cell? ⟨b, off + k * 5 + 2, none⟩ = some (.int .i64 s) ∧ w'.cell? ⟨b, off + k * 5 + 3, none⟩ = some (.bool g) ∧ FSl w' ta tl F ∧ Below w1.heap.size w1 w')) (by kernel_rfl) ?_ (fun hHeld => ?_)
    ·(try dsimp only); exact ⟨keep_drew g8, keep_drew g9, keep_drew c0, keep_drew c1, keep_drew c2, keep_drew c3, hS.below (Below.refl _ _).drew, hb.drew⟩
    refine tlT (i := 0) rfl ?_; refine tlT (i := 1) rfl ?_; refine tlT (i := 2) rfl ?_; refine tlT (i := 3) rfl ?_; refine tlT (i := 4) rfl ?_; refine tlT (i := 5) rfl ?_; refine tlT (i := 6) rfl ?_; refine tlT (i := 7) rfl ?_; refine tlT (i := 8) rfl ?_
    refine wpAnyH_ready (rs := [9]) (by kernel_rfl) (by simp) ?_
    refine AllReadyH.cons (o := _) rfl (fun K hK => ?_) AllReadyH.nil
    go_simp
    refine (sfind_some ta tl tc F n k2 y0.out _ hHeld.2.2.2.2.2.2.1 hl).mono ?_; rintro r w2 ⟨rfl, k3⟩
    go_wp2_with fail
    refine hK.out _ _ ?_ (fun hHeld => ?_)
    ·(try dsimp only); exact ⟨keep_below k3 hHeld.1, keep_below k3 hHeld.2.1, keep_below k3 hHeld.2.2.1, keep_below k3 hHeld.2.2.2.1, keep_below k3 hHeld.2.2.2.2.1, keep_below k3 hHeld.2.2.2.2.2.1, hHeld.2.2.2.2.2.2.1.below k3, btrans hHeld.2.2.2.2.2.2.2 k3⟩
    clear hK K
    (try simp only [putP]); refine tlT (i := 10) rfl ?_
    refine wpAnyH_done (by kernel_rfl) ?_ _
    have f8 := hHeld.1
    have f9 := hHeld.2.1
    have p0 := hHeld.2.2.1
    have p1 := hHeld.2.2.2.1
    have p2 := hHeld.2.2.2.2.1
    have p3 := hHeld.2.2.2.2.2.1
    have hS2 := hHeld.2.2.2.2.2.2.1
    have hb2 := hHeld.2.2.2.2.2.2.2
    clear hHeld
    go_upto_region 7 with fail
    obtain ⟨bt, ot, rfl, hbt, hft⟩ := hS2 (by omega)
    obtain ⟨t0, t1, t2, t3⟩ := hft k2 hk2
    have j0 : (0 : Int) ≤ (k2 : Int) := by omega
    have j1 : (k2 : Int) < (tl : Int) := by omega
    have j2 : ¬ (k2 : Int) < 0 := by omega
    have hso2 : Hid (scinB tl F n i s g = !l3B i s g (F k2).i (F k2).s (F k2).g) := by
     rw [Hid, hso.out, y0.out]; rfl
    clear hso hft hS2
    generalize F k2 = f at *
    obtain ⟨fn, fi, fs, fg⟩ := f
    dsimp only at t0 t1 t2 t3 hso2
    cases z4 : l3B i s g fi fs fg
    ·have y4 : Hid (l3B i s g fi fs fg = false) := z4
     clear z4
     refine wp_region_held_drew (S := (fun w' => w'.cell? ⟨w.heap.size, 8, none⟩ = some (.slice (some ⟨bt, ot, none⟩) tl tc) ∧ w'.cell? ⟨w.heap.size, 9, none⟩ = some (.slice (some ⟨b, off, none⟩) cl cc) ∧ w'.cell? ⟨b, off + k * 5, none⟩ = some (.int .i64 n) ∧ w'.cell? ⟨b, off + k * 5 + 1, none⟩ = some (.int .i64 i) ∧ w'.cell? ⟨b, off + k * 5 + 2, none⟩ = some (.int .i64 s) ∧ w'.cell? ⟨b, off + k * 5 + 3, none⟩ = some (.bool g) ∧ w'.cell? ⟨bt, ot + k2 * 4, none⟩ = some (.int .i64 fn) ∧ w'.cell? ⟨bt, ot + k2 * 4 + 1, none⟩ = some (.int .i64 fi) ∧ w'.cell? ⟨bt, ot + k2 * 4 + 2, none⟩ = some (.int .i64 fs) ∧ w'.cell? ⟨bt, ot + k2 * 4 + 3, none⟩ = some (.bool fg) ∧ Below w1.heap.size w1 w')) (by kernel_rfl) ?_ (fun hHeld => ?_)
     ·(try dsimp only); exact ⟨keep_drew f8, keep_drew f9, keep_drew p0, keep_drew p1, keep_drew p2, keep_drew p3, keep_drew t0, keep_drew t1, keep_drew t2, keep_drew t3, hb2.drew⟩
     refine tlT (i := 0) rfl ?_
     refine tkQ (i := 1) (oi := { dst := some 27, op := .binOp .lss 3 (.tmp 26) (.const (.int .i64 0)) 3, type := 4, pos := "l21_node.go:44", after := #[{ on := 0, ground := .data }], guard := none }) (v := .bool false) ?_ ?_
     ·(intro w hSw; (try dsimp only at hSw); go_simp; all_goals (first | with_reducible rfl |  assumption | (simp; done) | (simp; omega)))
     (try simp only [putP]); refine tlT (i := 2) rfl ?_; refine tlT (i := 3) rfl ?_; refine tlT (i := 4) rfl ?_; refine tlT (i := 5) rfl ?_; refine tlT (i := 6) rfl ?_; refine tlT (i := 7) rfl ?_; refine tlT (i := 8) rfl ?_; refine tlT (i := 9) rfl ?_; refine tlT (i := 10) rfl ?_; refine tlT (i := 11) rfl ?_; refine tlT (i := 12) rfl ?_; refine tlT (i := 13) rfl ?_
     refine wpAnyH_ready (rs := [14]) (by kernel_rfl) (by simp) ?_
     refine AllReadyH.cons (o := _) rfl (fun K hK => ?_) AllReadyH.nil
     go_simp
     refine (l3_lit n i s g fn fi fs fg false y4.out _).mono ?_; rintro r w3 ⟨rfl, k4⟩
     go_wp2_with fail
     refine hK.out _ _ ?_ (fun hHeld => ?_)
     ·(try dsimp only); exact ⟨keep_below k4 hHeld.1, keep_below k4 hHeld.2.1, keep_below k4 hHeld.2.2.1, keep_below k4 hHeld.2.2.2.1, keep_below k4 hHeld.2.2.2.2.1, keep_below k4 hHeld.2.2.2.2.2.1, keep_below k4 hHeld.2.2.2.2.2.2.1, keep_below k4 hHeld.2.2.2.2.2.2.2.1, keep_below k4 hHeld.2.2.2.2.2.2.2.2.1, keep_below k4 hHeld.2.2.2.2.2.2.2.2.2.1, btrans hHeld.2.2.2.2.2.2.2.2.2.2 k4⟩
     clear hK K
     (try simp only [putP]); refine tlT (i := 15) rfl ?_
     refine wpAnyH_done (by kernel_rfl) ?_ _
     go_wp2
     go_roundw
     case rel => exact ⟨k + 1, by omega, by go_num, hHeld.2.2.2.2.2.2.2.2.2.2, hyes.out (by rw [hso2.out, y4.out]; rfl)⟩
     case measure => simp [intOf]; omega
    ·have y4 : Hid (l3B i s g fi fs fg = true) := z4
     clear z4
     refine wp_region_held_drew (S := (fun w' => w'.cell? ⟨w.heap.size, 8, none⟩ = some (.slice (some ⟨bt, ot, none⟩) tl tc) ∧ w'.cell? ⟨w.heap.size, 9, none⟩ = some (.slice (some ⟨b, off, none⟩) cl cc) ∧ w'.cell? ⟨b, off + k * 5, none⟩ = some (.int .i64 n) ∧ w'.cell? ⟨b, off + k * 5 + 1, none⟩ = some (.int .i64 i) ∧ w'.cell? ⟨b, off + k * 5 + 2, none⟩ = some (.int .i64 s) ∧ w'.cell? ⟨b, off + k * 5 + 3, none⟩ = some (.bool g) ∧ w'.cell? ⟨bt, ot + k2 * 4, none⟩ = some (.int .i64 fn) ∧ w'.cell? ⟨bt, ot + k2 * 4 + 1, none⟩ = some (.int .i64 fi) ∧ w'.cell? ⟨bt, ot + k2 * 4 + 2, none⟩ = some (.int .i64 fs) ∧ w'.cell? ⟨bt, ot + k2 * 4 + 3, none⟩ = some (.bool fg) ∧ Below w1.heap.size w1 w')) (by kernel_rfl) ?_ (fun hHeld => ?_)
     ·(try dsimp only); exact ⟨keep_drew f8, keep_drew f9, keep_drew p0, keep_drew p1, keep_drew p2, keep_drew p3, keep_drew t0, keep_drew t1, keep_drew t2, keep_drew t3, hb2.drew⟩
     refine tlT (i := 0) rfl ?_
     refine tkQ (i := 1) (oi := { dst := some 27, op := .binOp .lss 3 (.tmp 26) (.const (.int .i64 0)) 3, type := 4, pos := "l21_node.go:44", after := #[{ on := 0, ground := .data }], guard := none }) (v := .bool false) ?_ ?_
     ·(intro w hSw; (try dsimp only at hSw); go_simp; all_goals (first | with_reducible rfl |  assumption | (simp; done) | (simp; omega)))
     (try simp only [putP]); refine tlT (i := 2) rfl ?_; refine tlT (i := 3) rfl ?_; refine tlT (i := 4) rfl ?_; refine tlT (i := 5) rfl ?_; refine tlT (i := 6) rfl ?_; refine tlT (i := 7) rfl ?_; refine tlT (i := 8) rfl ?_; refine tlT (i := 9) rfl ?_; refine tlT (i := 10) rfl ?_; refine tlT (i := 11) rfl ?_; refine tlT (i := 12) rfl ?_; refine tlT (i := 13) rfl ?_
     refine wpAnyH_ready (rs := [14]) (by kernel_rfl) (by simp) ?_
     refine AllReadyH.cons (o := _) rfl (fun K hK => ?_) AllReadyH.nil
     go_simp
     refine (l3_lit n i s g fn fi fs fg true y4.out _).mono ?_; rintro r w3 ⟨rfl, k4⟩
     go_wp2_with fail
     refine hK.out _ _ ?_ (fun hHeld => ?_)
     ·(try dsimp only); exact ⟨keep_below k4 hHeld.1, keep_below k4 hHeld.2.1, keep_below k4 hHeld.2.2.1, keep_below k4 hHeld.2.2.2.1, keep_below k4 hHeld.2.2.2.2.1, keep_below k4 hHeld.2.2.2.2.2.1, keep_below k4 hHeld.2.2.2.2.2.2.1, keep_below k4 hHeld.2.2.2.2.2.2.2.1, keep_below k4 hHeld.2.2.2.2.2.2.2.2.1, keep_below k4 hHeld.2.2.2.2.2.2.2.2.2.1, btrans hHeld.2.2.2.2.2.2.2.2.2.2 k4⟩
     clear hK K
     (try simp only [putP]); refine tlT (i := 15) rfl ?_
     refine wpAnyH_done (by kernel_rfl) ?_ _
     go_wp2
     go_ret
     exact ⟨ret_bool (hno (by rw [hso2.out, y4.out]; rfl)).symm, btrans b1 hHeld.2.2.2.2.2.2.2.2.2.2⟩
  ·go_wp2
   go_ret
   refine ⟨ret_bool ?_, btrans b1 hb⟩
   rw [hst.out, decide_eq_true fun j hj => hall j (by omega)]
   rfl
end Go.Proofs.YtgcdcfjaeehnbaaGreat
