/- Nodes: their casts. -/
import Derived.Test.YtgcdcfjaeehnbaaGreatNd4
namespace Go.Proofs.YtgcdcfjaeehnbaaGreat
open Go.ChangeShapes Go.WideShapes Go.ChangeAt Go.RowKit
set_option maxRecDepth 20000
set_option maxHeartbeats 4000000
attribute [local go_sem ↓] Go.wp_at_zero Go.wp_at_succ
def cinB (tl : Nat) (F : Nat → Fc) (n i s : Int) (g : Bool) : Bool :=
 (fnd tl F n).isSome && !overB n i s g (fo F (fnd tl F n)).n (fo F (fnd tl F n)).i (fo F (fnd tl F n)).s (fo F (fnd tl F n)).g
theorem cin_any (n i s : Int) (g : Bool) (l : Int) (nb : Nat) (ta : Option Addr) (tl tc : Nat) (F : Nat → Fc) (w : World) (h8 : w.cell? ⟨nb, 8, none⟩ = some (.slice ta tl tc)) (h : FSl w ta tl F) (hl : tl ≤ 1048576) :
  Calls Tryz.prog 159 #[.agg #[.int .i64 n, .int .i64 i, .int .i64 s, .bool g, .int .i64 l], .pointer (some ⟨nb, 0, none⟩)] w fun r w' => r = .returned (.bool (cinB tl F n i s g)) ∧ Below w.heap.size w w' := by
 have hst : Hid (cinB tl F n i s g = ((fnd tl F n).isSome && !overB n i s g (fo F (fnd tl F n)).n (fo F (fnd tl F n)).i (fo F (fnd tl F n)).s (fo F (fnd tl F n)).g)) := rfl
 go_enter Tryz.func159, Tryz.ntmps159
 go_upto_region 1 with fail
 generalize hu : w.alloc (.cells _ _) = u
 obtain ⟨X, b0⟩ := box1 hu
 clear hu
 have d8 := keep_below b0 h8
 have d0 := X.c 0 (.int .i64 n) rfl
 go_upto_region 2 with (go_at_call 127; refine (find_any ta tl tc F n _ (h.below b0) hl).mono ?_; rintro r w1 ⟨rfl, k1⟩; unfold fcV; generalize fo F (fnd tl F n) = f at *; generalize (fnd tl F n).isSome = q at *; obtain ⟨fn, fi, fs, fg⟩ := f; dsimp only at hst ⊢)
 have b1 := balloc (.cells #[.int .i64 fn, .int .i64 fi, .int .i64 fs, .bool fg] 96) (btrans b0 k1)
 have X1 := (X.below k1).alloc (.cells #[.int .i64 fn, .int .i64 fi, .int .i64 fs, .bool fg] 96)
 have Y1 := Ws.box (w := w1) #[.int .i64 fn, .int .i64 fi, .int .i64 fs, .bool fg] 96
 generalize w1.alloc (.cells #[.int .i64 fn, .int .i64 fi, .int .i64 fs, .bool fg] 96) = u2 at *
 generalize w1.heap.size = KO at *
 have e0 := X1.c 0 (.int .i64 n) rfl
 have e1 := X1.c 1 (.int .i64 i) rfl
 have e2 := X1.c 2 (.int .i64 s) rfl
 have e3 := X1.c 3 (.bool g) rfl
 have g0 := Y1.c 0 (.int .i64 fn) rfl
 have g1 := Y1.c 1 (.int .i64 fi) rfl
 have g2 := Y1.c 2 (.int .i64 fs) rfl
 have g3 := Y1.c 3 (.bool fg) rfl
 clear X X1 Y1 d0 d8 b0 h h8 k1
 cases q
 ·go_wp2
  go_ret
  exact ⟨ret_bool (by rw [hst.out]; rfl), b1⟩
 ·go_wp2_with fail
  refine (fover_any n i s g fn fi fs fg _).mono ?_
  rintro r w2 ⟨rfl, k2⟩
  have b2 := btrans b1 k2
  generalize hov : overB n i s g fn fi fs fg = ov at *
  clear e0 e1 e2 e3 g0 g1 g2 g3
  have hov' : Hid (overB n i s g fn fi fs fg = ov) := hov
  clear hov
  go_wp2
  go_ret
  exact ⟨ret_bool (by rw [hst.out]; cases ov <;> rfl), b2⟩
theorem cinc_any (n i s : Int) (g : Bool) (l : Int) (nb : Nat) (ta : Option Addr) (tl tc : Nat) (F : Nat → Fc) (pb : Nat) (w : World) (hp : w.cell? ⟨pb, 0, none⟩ = some (.func (.func 159) #[] #[.pointer (some ⟨nb, 0, none⟩)])) (h8 : w.cell? ⟨nb, 8, none⟩ = some (.slice ta tl tc)) (h : FSl w ta tl F) (hl : tl ≤ 1048576) (b : Bool) (hb : cinB tl F n i s g = b) :
  Calls Tryz.prog 221 #[.agg #[.int .i64 n, .int .i64 i, .int .i64 s, .bool g, .int .i64 l], .pointer (some ⟨pb, 0, none⟩)] w fun r w' => r = .returned (.bool (!b)) ∧ Below w.heap.size w w' := by
 have hb' : Hid (cinB tl F n i s g = b) := hb
 clear hb
 go_enter Tryz.func221, Tryz.ntmps221
 go_upto_region 1 with fail
 generalize hu : w.alloc (.cells _ _) = u
 obtain ⟨X, b0⟩ := box1 hu
 clear hu
 have d8 := keep_below b0 h8
 have dp := keep_below b0 hp
 have e0 := X.c 0 (.int .i64 n) rfl
 have e1 := X.c 1 (.int .i64 i) rfl
 have e2 := X.c 2 (.int .i64 s) rfl
 have e3 := X.c 3 (.bool g) rfl
 have e4 := X.c 4 (.int .i64 l) rfl
 clear X
 go_wp2_with fail
 refine (cin_any n i s g l nb ta tl tc F _ d8 (h.below b0) hl).mono ?_
 rintro r w2 ⟨rfl, k2⟩
 rw [hb'.out]
 clear e0 e1 e2 e3 e4 d8 dp h8 hp
 go_wp2
 go_ret
 exact ⟨rfl, btrans b0 k2⟩
def cinA (tl : Nat) (F : Nat → Fc) (len : Nat) (G : Nat → It) : Bool := decide (∀ k, k < len → cinB tl F (G k).n (G k).i (G k).s (G k).g = true)
theorem cidx_any (a : Option Addr) (len cap : Nat) (G : Nat → It) (nb : Nat) (ta : Option Addr) (tl tc : Nat) (F : Nat → Fc) (pb : Nat) (w : World) (hG : TSl w a len G) (hm : len ≤ 1048576) (hp : w.cell? ⟨pb, 0, none⟩ = some (.func (.func 159) #[] #[.pointer (some ⟨nb, 0, none⟩)])) (h8 : w.cell? ⟨nb, 8, none⟩ = some (.slice ta tl tc)) (h : FSl w ta tl F) (hl : tl ≤ 1048576) :
  Calls Tryz.prog 259 #[.slice a len cap, .func (.func 221) #[] #[.pointer (some ⟨pb, 0, none⟩)]] w fun e w' => ∃ r : Int, e = .returned (.int .i64 r) ∧ ((cinA tl F len G = true ∧ r = -1) ∨ (cinA tl F len G = false ∧ 0 ≤ r)) ∧ Below w.heap.size w w' := by
 go_enter Tryz.func259, Tryz.ntmps259
 go_wp2
 go_loopw [5, 8] (fun _ i wr => ∃ k : Nat, k ≤ len ∧ i = .int .i64 k ∧ Below w.heap.size w wr ∧ (∀ j, j < k → cinB tl F (G j).n (G j).i (G j).s (G j).g = true)) (fun _ i _ => len - (intOf i).toNat)
 case atStart => exact ⟨0, by omega, rfl, Below.refl _ _, fun j h1 => by omega⟩
 case round =>
  obtain ⟨k, hk, rfl, hb, hall⟩ := hrel
  by_cases hlt : k < len
  ·obtain ⟨b, off, rfl, hbl, hf⟩ := hG (by omega)
   obtain ⟨c0, c1, c2, c3, c4⟩ := (hf.below hb hbl) k hlt
   have i0 : (0 : Int) ≤ (k : Int) := by omega
   have i1 : (k : Int) < (len : Int) := by omega
   have hpr := keep_below hb hp
   have h8r := keep_below hb h8
   have hr := h.below hb
   cases ho : cinB tl F (G k).n (G k).i (G k).s (G k).g
   ·have ho' : Hid (cinB tl F (G k).n (G k).i (G k).s (G k).g = false) := ho
    clear ho
    go_wp2_with (go_at_call 221; refine (cinc_any _ _ _ _ _ nb ta tl tc F pb _ hpr h8r hr hl false ho'.out).mono ?_; rintro e w1 ⟨rfl, b1⟩)
    go_ret
    refine ⟨k, rfl, .inr ⟨?_, by omega⟩, btrans hb b1⟩
    unfold cinA
    refine decide_eq_false fun h => ?_
    have h1 := h k hlt
    rw [ho'.out] at h1
    cases h1
   ·have ho' : Hid (cinB tl F (G k).n (G k).i (G k).s (G k).g = true) := ho
    clear ho
    go_wp2_with (go_at_call 221; refine (cinc_any _ _ _ _ _ nb ta tl tc F pb _ hpr h8r hr hl true ho'.out).mono ?_; rintro e w1 ⟨rfl, b1⟩)
    go_roundw
    case rel => exact ⟨k + 1, by omega, by go_num, btrans hb b1, fun j hj => by
     by_cases e : j = k
     ·subst e; exact ho'.out
     ·exact hall j (by omega)⟩
    case measure => simp [intOf]; omega
  ·go_wp2
   go_ret
   refine ⟨-1, rfl, .inl ⟨?_, rfl⟩, hb⟩
   unfold cinA
   rw [decide_eq_true_iff]
   exact fun j hj => hall j (by omega)
theorem ccont_any (a : Option Addr) (len cap : Nat) (G : Nat → It) (nb : Nat) (ta : Option Addr) (tl tc : Nat) (F : Nat → Fc) (pb : Nat) (w : World) (hG : TSl w a len G) (hm : len ≤ 1048576) (hp : w.cell? ⟨pb, 0, none⟩ = some (.func (.func 159) #[] #[.pointer (some ⟨nb, 0, none⟩)])) (h8 : w.cell? ⟨nb, 8, none⟩ = some (.slice ta tl tc)) (h : FSl w ta tl F) (hl : tl ≤ 1048576) :
  Calls Tryz.prog 220 #[.slice a len cap, .func (.func 221) #[] #[.pointer (some ⟨pb, 0, none⟩)]] w fun e w' => e = .returned (.bool (!cinA tl F len G)) ∧ Below w.heap.size w w' := by
 go_enter Tryz.func220, Tryz.ntmps220
 go_wp2_with fail
 refine (cidx_any a len cap G nb ta tl tc F pb _ hG hm hp h8 h hl).mono ?_
 rintro e w1 ⟨r, rfl, hr, b1⟩
 rcases hr with ⟨hs, rfl⟩ | ⟨hs, hr⟩
 ·have hs' : Hid (cinA tl F len G = true) := hs
  clear hs
  go_wp2
  go_ret
  exact ⟨ret_bool (by rw [hs'.out]; rfl), b1⟩
 ·have hs' : Hid (cinA tl F len G = false) := hs
  clear hs
  go_wp2
  go_ret
  exact ⟨ret_bool (by rw [hs'.out]; simp <;> omega), b1⟩
theorem call_any (a : Option Addr) (len cap : Nat) (G : Nat → It) (nb : Nat) (ta : Option Addr) (tl tc : Nat) (F : Nat → Fc) (w : World) (hG : TSl w a len G) (hm : len ≤ 1048576) (h8 : w.cell? ⟨nb, 8, none⟩ = some (.slice ta tl tc)) (h : FSl w ta tl F) (hl : tl ≤ 1048576) :
  Calls Tryz.prog 158 #[.slice a len cap, (.func (.func 159) #[] #[.pointer (some ⟨nb, 0, none⟩)])] w fun e w' => e = .returned (.bool (cinA tl F len G)) ∧ Below w.heap.size w w' := by
 go_enter Tryz.func158, Tryz.ntmps158
 go_upto_region 1 with fail
 generalize hu : w.alloc (.cells _ _) = u
 obtain ⟨X, b0⟩ := box1 hu
 clear hu
 have dp := X.c 0 (.func (.func 159) #[] #[.pointer (some ⟨nb, 0, none⟩)]) rfl
 have d8 := keep_below b0 h8
 clear X
 go_wp2_with fail
 refine (ccont_any a len cap G nb ta tl tc F _ _ (hG.below b0) hm dp d8 (h.below b0) hl).mono ?_
 rintro e w1 ⟨rfl, b1⟩
 clear dp d8 h8
 go_wp2
 go_ret
 exact ⟨ret_bool (by simp), btrans b0 b1⟩
def castB (tl : Nat) (F : Nat → Fc) (len : Nat) (G : Nat → It) : Bool := cokB len G && cinA tl F len G
theorem ncast_any (me : Int) (up gone gate : Bool) (inc now sq turn : Int) (ta : Option Addr) (tl tc : Nat) (ca : Option Addr) (cl cc : Nat) (pn ps pq : Int) (pa : Bool) (da : Option Addr) (dl dc : Nat) (cx cy ch ce : Int) (pla : Option Addr) (pll plc : Nat) (oa : Option Addr) (ol oc : Nat) (F : Nat → Fc) (G : Nat → It) (w : World) (h : FSl w ta tl F) (hl : tl ≤ 1048576) (hG : TSl w ca cl G) (hm : cl ≤ 1048576) :
  Calls Tryz.prog 102 #[.agg #[.int .i64 me, .bool up, .bool gone, .bool gate, .int .i64 inc, .int .i64 now, .int .i64 sq, .int .i64 turn, .slice ta tl tc, .slice ca cl cc, .int .i64 pn, .int .i64 ps, .int .i64 pq, .bool pa, .slice da dl dc, .int .i64 cx, .int .i64 cy, .int .i64 ch, .int .i64 ce, .slice pla pll plc, .slice oa ol oc]] w fun r w' => r = .returned (.bool (castB tl F cl G)) ∧ Below w.heap.size w w' := by
 go_enter Tryz.func102, Tryz.ntmps102
 go_upto_region 1 with fail
 generalize hu : w.alloc (.cells _ _) = u
 obtain ⟨X, b0⟩ := box1 hu
 clear hu
 have d8 := X.c 8 (.slice ta tl tc) rfl
 have d9 := X.c 9 (.slice ca cl cc) rfl
 clear X
 go_wp2_with fail
 refine (cok_any ca cl cc G _ (hG.below b0) hm).mono ?_
 rintro r w1 ⟨rfl, k1⟩
 have b1 := btrans b0 k1
 have e8 := keep_below k1 d8
 have e9 := keep_below k1 d9
 clear d8 d9 k1
 have hst : Hid (castB tl F cl G = (cokB cl G && cinA tl F cl G)) := rfl
 generalize cokB cl G = q at *
 cases q
 ·go_wp2
  go_ret
  exact ⟨ret_bool (by rw [hst.out]; rfl), b1⟩
 ·go_wp2_with fail
  refine (call_any ca cl cc G _ ta tl tc F _ (hG.below b1) hm e8 (h.below b1) hl).mono ?_
  rintro r w2 ⟨rfl, k2⟩
  clear e8 e9
  go_wp2
  go_ret
  exact ⟨ret_bool (by rw [hst.out]; rfl), btrans b1 k2⟩
end Go.Proofs.YtgcdcfjaeehnbaaGreat
namespace Go.Proofs.YtgcdcfjaeehnbaaGreat
open Go.ChangeShapes Go.WideShapes Go.ChangeAt Go.RowKit
set_option maxRecDepth 20000
set_option maxHeartbeats 4000000
attribute [local go_sem ↓] Go.wp_at_zero Go.wp_at_succ
def ofB (me key : Int) : Bool := inb key 0 7 && (ste key == ste me)
theorem ofs_any (me : Int) (up gone gate : Bool) (inc now sq turn : Int) (ta : Option Addr) (tl tc : Nat) (ca : Option Addr) (cl cc : Nat) (pn ps pq : Int) (pa : Bool) (da : Option Addr) (dl dc : Nat) (cx cy ch ce : Int) (pla : Option Addr) (pll plc : Nat) (oa : Option Addr) (ol oc : Nat) (key : Int) (w : World) :
  Calls Tryz.prog 167 #[.agg #[.int .i64 me, .bool up, .bool gone, .bool gate, .int .i64 inc, .int .i64 now, .int .i64 sq, .int .i64 turn, .slice ta tl tc, .slice ca cl cc, .int .i64 pn, .int .i64 ps, .int .i64 pq, .bool pa, .slice da dl dc, .int .i64 cx, .int .i64 cy, .int .i64 ch, .int .i64 ce, .slice pla pll plc, .slice oa ol oc], .int .i64 key] w fun r w' => r = .returned (.bool (ofB me key)) ∧ Below w.heap.size w w' := by
 go_enter Tryz.func167, Tryz.ntmps167
 go_upto_region 1 with fail
 generalize hu : w.alloc (.cells _ _) = u
 obtain ⟨X, b0⟩ := box1 hu
 clear hu
 have q0 := X.range
 clear X
 have hq : Hid ((ste key == ste me) = (ste key == ste me)) := rfl
 cases z0 : inb key 0 7
 ·have y0 : Hid (inb key 0 7 = false) := z0
  clear z0
  refine wp_region_held_drew (S := fun w' => w'.rangeAt w.heap.size 0 [.int .i64 me, .bool up, .bool gone, .bool gate, .int .i64 inc, .int .i64 now, .int .i64 sq, .int .i64 turn, .slice ta tl tc, .slice ca cl cc, .int .i64 pn, .int .i64 ps, .int .i64 pq, .bool pa, .slice da dl dc, .int .i64 cx, .int .i64 cy, .int .i64 ch, .int .i64 ce, .slice pla pll plc, .slice oa ol oc] ∧ Below w.heap.size w w') (by kernel_rfl) ?_ (fun hHeld => ?_)
  ·(try dsimp only); (first | exact ⟨range_drew q0, b0.drew⟩ | exact ⟨range_below' hHeld.1 k3, btrans hHeld.2 k3⟩ | exact hHeld)
  refine tlT (i := 0) rfl ?_
  refine wpAnyH_ready (rs := [1]) (by kernel_rfl) (by simp) ?_
  refine AllReadyH.cons (o := _) rfl (fun K hK => ?_) AllReadyH.nil
  go_simp
  refine (nodeOk_lit key false y0.out _).mono ?_; rintro r w1 ⟨rfl, hw⟩; obtain rfl := hw.symm; clear hw
  go_wp2_with fail
  refine hK.out _ _ ?_ (fun hHeld => ?_)
  ·(try dsimp only); (first | exact ⟨range_drew q0, b0.drew⟩ | exact ⟨range_below' hHeld.1 k3, btrans hHeld.2 k3⟩ | exact hHeld)
  clear hK K
  (try simp only [putP]); refine tlT (i := 2) rfl ?_; refine tzT (i := 3) rfl ?_; refine tzT (i := 4) rfl ?_; refine tzT (i := 5) rfl ?_; refine tzT (i := 6) rfl ?_; refine tzT (i := 7) rfl ?_; refine tlT (i := 8) rfl ?_; refine tlT (i := 9) rfl ?_
  refine wpAnyH_done (by kernel_rfl) ?_ _
  go_wp2
  go_ret
  exact ⟨ret_bool (by unfold ofB; rw [y0.out]; rfl), hHeld.2⟩
 ·have y0 : Hid (inb key 0 7 = true) := z0
  clear z0
  refine wp_region_held_drew (S := fun w' => w'.rangeAt w.heap.size 0 [.int .i64 me, .bool up, .bool gone, .bool gate, .int .i64 inc, .int .i64 now, .int .i64 sq, .int .i64 turn, .slice ta tl tc, .slice ca cl cc, .int .i64 pn, .int .i64 ps, .int .i64 pq, .bool pa, .slice da dl dc, .int .i64 cx, .int .i64 cy, .int .i64 ch, .int .i64 ce, .slice pla pll plc, .slice oa ol oc] ∧ Below w.heap.size w w') (by kernel_rfl) ?_ (fun hHeld => ?_)
  ·(try dsimp only); (first | exact ⟨range_drew q0, b0.drew⟩ | exact ⟨range_below' hHeld.1 k3, btrans hHeld.2 k3⟩ | exact hHeld)
  refine tlT (i := 0) rfl ?_
  refine wpAnyH_ready (rs := [1]) (by kernel_rfl) (by simp) ?_
  refine AllReadyH.cons (o := _) rfl (fun K hK => ?_) AllReadyH.nil
  go_simp
  refine (nodeOk_lit key true y0.out _).mono ?_; rintro r w1 ⟨rfl, hw⟩; obtain rfl := hw.symm; clear hw
  go_wp2_with fail
  refine hK.out _ _ ?_ (fun hHeld => ?_)
  ·(try dsimp only); (first | exact ⟨range_drew q0, b0.drew⟩ | exact ⟨range_below' hHeld.1 k3, btrans hHeld.2 k3⟩ | exact hHeld)
  clear hK K
  (try simp only [putP]); refine tlT (i := 2) rfl ?_; refine tlT (i := 3) rfl ?_
  refine wpAnyH_take (i := 5) (oi := _) (v := .agg #[.int .i64 me, .bool up, .bool gone, .bool gate, .int .i64 inc, .int .i64 now, .int .i64 sq, .int .i64 turn, .slice ta tl tc, .slice ca cl cc, .int .i64 pn, .int .i64 ps, .int .i64 pq, .bool pa, .slice da dl dc, .int .i64 cx, .int .i64 cy, .int .i64 ch, .int .i64 ce, .slice pla pll plc, .slice oa ol oc]) rfl (by kernel_rfl) (by kernel_rfl) (by kernel_rfl) (fun _ _ _ h => h) (load43 (by rfl) (.tmp 2) rfl w.heap.size rfl [.int .i64 me, .bool up, .bool gone, .bool gate, .int .i64 inc, .int .i64 now, .int .i64 sq, .int .i64 turn, .slice ta tl tc, .slice ca cl cc, .int .i64 pn, .int .i64 ps, .int .i64 pq, .bool pa, .slice da dl dc, .int .i64 cx, .int .i64 cy, .int .i64 ch, .int .i64 ce, .slice pla pll plc, .slice oa ol oc] (fun w hSw => hSw.1) rfl) (by assumption) ?_
  (try simp only [putP])
  refine wpAnyH_ready (rs := [4]) (by kernel_rfl) (by simp) ?_
  refine AllReadyH.cons (o := _) rfl (fun K hK => ?_) AllReadyH.nil
  go_simp
  refine (siteOf_any key _).mono ?_; rintro r w2 ⟨rfl, hw⟩; obtain rfl := hw.symm; clear hw
  go_wp2_with fail
  refine hK.out _ _ ?_ (fun hHeld => ?_)
  ·(try dsimp only); (first | exact ⟨range_drew q0, b0.drew⟩ | exact ⟨range_below' hHeld.1 k3, btrans hHeld.2 k3⟩ | exact hHeld)
  clear hK K
  (try simp only [putP])
  refine wpAnyH_ready (rs := [6]) (by kernel_rfl) (by simp) ?_
  refine AllReadyH.cons (o := _) rfl (fun K hK => ?_) AllReadyH.nil
  go_simp
  refine (site_any me up gone gate inc now sq turn ta tl tc ca cl cc pn ps pq pa da dl dc cx cy ch ce pla pll plc oa ol oc _).mono ?_; rintro r w3 ⟨rfl, k3⟩
  go_wp2_with fail
  refine hK.out _ _ ?_ (fun hHeld => ?_)
  ·(try dsimp only); (first | exact ⟨range_drew q0, b0.drew⟩ | exact ⟨range_below' hHeld.1 k3, btrans hHeld.2 k3⟩ | exact hHeld)
  clear hK K
  (try simp only [putP]); refine tlT (i := 7) rfl ?_; refine tlT (i := 8) rfl ?_; refine tlT (i := 9) rfl ?_
  refine wpAnyH_done (by kernel_rfl) ?_ _
  go_wp2
  go_ret
  exact ⟨ret_bool (by unfold ofB; rw [y0.out]; rfl), hHeld.2⟩
end Go.Proofs.YtgcdcfjaeehnbaaGreat
