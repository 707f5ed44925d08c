/- Nodes: their casts. -/
import Derived.Test.YtgcdcfjaeehnbaaGreatNd4
namespace Go.Proofs.YtgcdcfjaeehnbaaGreat
open Go.ChangeShapes Go.WideShapes Go.ChangeAt Go.RowKit
attribute [local go_sem ↓] Go.wp_at_zero Go.wp_at_succ
/-- an item is of somebody there, and not newer than what is said of it -/
def cinB (tl : Nat) (F : Nat → Fc) (n i s : Int) (g : Bool) : Bool :=
  (fnd tl F n).isSome && !overB n i s g (fo F (fnd tl F n)).n (fo F (fnd tl F n)).i (fo F (fnd tl F n)).s (fo F (fnd tl F n)).g
set_option maxRecDepth 20000 in
set_option maxHeartbeats 4000000 in
theorem cin_any (n i s : Int) (g : Bool) (l : Int) (nb : Nat) (ta : Option Addr) (tl tc : Nat) (F : Nat → Fc) (w : World) (h8 : w.cell? ⟨nb, 8, none⟩ = some (.slice ta tl tc)) (h : FSl w ta tl F) (hl : tl ≤ 1048576) :
    Calls Tryz.prog 159 #[.agg #[.int .i64 n, .int .i64 i, .int .i64 s, .bool g, .int .i64 l], .pointer (some ⟨nb, 0, none⟩)] w fun r w' => r = .returned (.bool (cinB tl F n i s g)) ∧ Below w.heap.size w w' := by
  have b0 := balloc (.cells #[.int .i64 n, .int .i64 i, .int .i64 s, .bool g, .int .i64 l] 127) (Below.refl w.heap.size w)
  have X := Ws.box (w := w) #[.int .i64 n, .int .i64 i, .int .i64 s, .bool g, .int .i64 l] 127
  have d8 := keep_alloc (.cells #[.int .i64 n, .int .i64 i, .int .i64 s, .bool g, .int .i64 l] 127) h8
  have hst : Hid (cinB tl F n i s g = ((fnd tl F n).isSome && !overB n i s g (fo F (fnd tl F n)).n (fo F (fnd tl F n)).i (fo F (fnd tl F n)).s (fo F (fnd tl F n)).g)) := rfl
  go_enter Tryz.func159, Tryz.ntmps159
  go_upto_region 1 with fail
  generalize w.alloc (.cells #[.int .i64 n, .int .i64 i, .int .i64 s, .bool g, .int .i64 l] 127) = u at *
  have d0 := X.c 0 (.int .i64 n) rfl
  go_upto_region 2 with (go_at_call 127; refine (find_any ta tl tc F n _ (h.below b0) hl).mono ?_; rintro r w1 ⟨rfl, k1⟩; unfold fcV; generalize fo F (fnd tl F n) = f at *; generalize (fnd tl F n).isSome = q at *; obtain ⟨fn, fi, fs, fg⟩ := f; dsimp only at hst ⊢)
  have b1 := balloc (.cells #[.int .i64 fn, .int .i64 fi, .int .i64 fs, .bool fg] 96) (btrans b0 k1)
  have X1 := (X.below k1).alloc (.cells #[.int .i64 fn, .int .i64 fi, .int .i64 fs, .bool fg] 96)
  have Y1 := Ws.box (w := w1) #[.int .i64 fn, .int .i64 fi, .int .i64 fs, .bool fg] 96
  generalize w1.alloc (.cells #[.int .i64 fn, .int .i64 fi, .int .i64 fs, .bool fg] 96) = u2 at *
  generalize w1.heap.size = KO at *
  have e0 := X1.c 0 (.int .i64 n) rfl
  have e1 := X1.c 1 (.int .i64 i) rfl
  have e2 := X1.c 2 (.int .i64 s) rfl
  have e3 := X1.c 3 (.bool g) rfl
  have g0 := Y1.c 0 (.int .i64 fn) rfl
  have g1 := Y1.c 1 (.int .i64 fi) rfl
  have g2 := Y1.c 2 (.int .i64 fs) rfl
  have g3 := Y1.c 3 (.bool fg) rfl
  clear X X1 Y1 d0 d8 b0 h h8 k1
  cases q
  · go_wp2
    go_ret
    exact ⟨ret_bool (by rw [hst.out]; rfl), b1⟩
  · go_wp2_with fail
    refine (fover_any n i s g fn fi fs fg _).mono ?_
    rintro r w2 ⟨rfl, k2⟩
    have b2 := btrans b1 k2
    generalize hov : overB n i s g fn fi fs fg = ov at *
    clear e0 e1 e2 e3 g0 g1 g2 g3
    have hov' : Hid (overB n i s g fn fi fs fg = ov) := hov
    clear hov
    go_wp2
    go_ret
    exact ⟨ret_bool (by rw [hst.out]; cases ov <;> rfl), b2⟩
set_option maxRecDepth 20000 in
theorem cinc_any (n i s : Int) (g : Bool) (l : Int) (nb : Nat) (ta : Option Addr) (tl tc : Nat) (F : Nat → Fc) (pb : Nat) (w : World) (hp : w.cell? ⟨pb, 0, none⟩ = some (.func (.func 159) #[] #[.pointer (some ⟨nb, 0, none⟩)])) (h8 : w.cell? ⟨nb, 8, none⟩ = some (.slice ta tl tc)) (h : FSl w ta tl F) (hl : tl ≤ 1048576) (b : Bool) (hb : cinB tl F n i s g = b) :
    Calls Tryz.prog 221 #[.agg #[.int .i64 n, .int .i64 i, .int .i64 s, .bool g, .int .i64 l], .pointer (some ⟨pb, 0, none⟩)] w fun r w' => r = .returned (.bool (!b)) ∧ Below w.heap.size w w' := by
  have b0 := balloc (.cells #[.int .i64 n, .int .i64 i, .int .i64 s, .bool g, .int .i64 l] 127) (Below.refl w.heap.size w)
  have X := Ws.box (w := w) #[.int .i64 n, .int .i64 i, .int .i64 s, .bool g, .int .i64 l] 127
  have d8 := keep_alloc (.cells #[.int .i64 n, .int .i64 i, .int .i64 s, .bool g, .int .i64 l] 127) h8
  have dp := keep_alloc (.cells #[.int .i64 n, .int .i64 i, .int .i64 s, .bool g, .int .i64 l] 127) hp
  have hb' : Hid (cinB tl F n i s g = b) := hb
  clear hb
  go_enter Tryz.func221, Tryz.ntmps221
  go_upto_region 1 with fail
  generalize w.alloc (.cells #[.int .i64 n, .int .i64 i, .int .i64 s, .bool g, .int .i64 l] 127) = u at *
  have e0 := X.c 0 (.int .i64 n) rfl
  have e1 := X.c 1 (.int .i64 i) rfl
  have e2 := X.c 2 (.int .i64 s) rfl
  have e3 := X.c 3 (.bool g) rfl
  have e4 := X.c 4 (.int .i64 l) rfl
  clear X
  go_wp2_with fail
  refine (cin_any n i s g l nb ta tl tc F _ d8 (h.below b0) hl).mono ?_
  rintro r w2 ⟨rfl, k2⟩
  rw [hb'.out]
  clear e0 e1 e2 e3 e4 d8 dp h8 hp
  go_wp2
  go_ret
  exact ⟨rfl, btrans b0 k2⟩
/-- what is said of all items -/
def cinA (tl : Nat) (F : Nat → Fc) (len : Nat) (G : Nat → It) : Bool := decide (∀ k, k < len → cinB tl F (G k).n (G k).i (G k).s (G k).g = true)
set_option maxRecDepth 20000 in
set_option maxHeartbeats 1000000 in
theorem cidx_any (a : Option Addr) (len cap : Nat) (G : Nat → It) (nb : Nat) (ta : Option Addr) (tl tc : Nat) (F : Nat → Fc) (pb : Nat) (w : World) (hG : TSl w a len G) (hm : len ≤ 1048576) (hp : w.cell? ⟨pb, 0, none⟩ = some (.func (.func 159) #[] #[.pointer (some ⟨nb, 0, none⟩)])) (h8 : w.cell? ⟨nb, 8, none⟩ = some (.slice ta tl tc)) (h : FSl w ta tl F) (hl : tl ≤ 1048576) :
    Calls Tryz.prog 259 #[.slice a len cap, .func (.func 221) #[] #[.pointer (some ⟨pb, 0, none⟩)]] w fun e w' => ∃ r : Int, e = .returned (.int .i64 r) ∧ ((cinA tl F len G = true ∧ r = -1) ∨ (cinA tl F len G = false ∧ 0 ≤ r)) ∧ Below w.heap.size w w' := by
  go_enter Tryz.func259, Tryz.ntmps259
  go_wp2
  go_loopw [5, 8] (fun _ i wr => ∃ k : Nat, k ≤ len ∧ i = .int .i64 k ∧ Below w.heap.size w wr ∧ (∀ j, j < k → cinB tl F (G j).n (G j).i (G j).s (G j).g = true)) (fun _ i _ => len - (intOf i).toNat)
  case atStart => exact ⟨0, by omega, rfl, Below.refl _ _, fun j h1 => by omega⟩
  case round =>
    obtain ⟨k, hk, rfl, hb, hall⟩ := hrel
    by_cases hlt : k < len
    · obtain ⟨b, off, rfl, hbl, hf⟩ := hG (by omega)
      obtain ⟨c0, c1, c2, c3, c4⟩ := (hf.below hb hbl) k hlt
      have i0 : (0 : Int) ≤ (k : Int) := by omega
      have i1 : (k : Int) < (len : Int) := by omega
      have hpr := keep_below hb hp
      have h8r := keep_below hb h8
      have hr := h.below hb
      cases ho : cinB tl F (G k).n (G k).i (G k).s (G k).g
      · have ho' : Hid (cinB tl F (G k).n (G k).i (G k).s (G k).g = false) := ho
        clear ho
        go_wp2_with (go_at_call 221; refine (cinc_any _ _ _ _ _ nb ta tl tc F pb _ hpr h8r hr hl false ho'.out).mono ?_; rintro e w1 ⟨rfl, b1⟩)
        go_ret
        refine ⟨k, rfl, .inr ⟨?_, by omega⟩, btrans hb b1⟩
        unfold cinA
        refine decide_eq_false fun h => ?_
        have h1 := h k hlt
        rw [ho'.out] at h1
        cases h1
      · have ho' : Hid (cinB tl F (G k).n (G k).i (G k).s (G k).g = true) := ho
        clear ho
        go_wp2_with (go_at_call 221; refine (cinc_any _ _ _ _ _ nb ta tl tc F pb _ hpr h8r hr hl true ho'.out).mono ?_; rintro e w1 ⟨rfl, b1⟩)
        go_roundw
        case rel => exact ⟨k + 1, by omega, by go_num, btrans hb b1, fun j hj => by
          by_cases e : j = k
          · subst e; exact ho'.out
          · exact hall j (by omega)⟩
        case measure => simp [intOf]; omega
    · go_wp2
      go_ret
      refine ⟨-1, rfl, .inl ⟨?_, rfl⟩, hb⟩
      unfold cinA
      rw [decide_eq_true_iff]
      exact fun j hj => hall j (by omega)
theorem ccont_any (a : Option Addr) (len cap : Nat) (G : Nat → It) (nb : Nat) (ta : Option Addr) (tl tc : Nat) (F : Nat → Fc) (pb : Nat) (w : World) (hG : TSl w a len G) (hm : len ≤ 1048576) (hp : w.cell? ⟨pb, 0, none⟩ = some (.func (.func 159) #[] #[.pointer (some ⟨nb, 0, none⟩)])) (h8 : w.cell? ⟨nb, 8, none⟩ = some (.slice ta tl tc)) (h : FSl w ta tl F) (hl : tl ≤ 1048576) :
    Calls Tryz.prog 220 #[.slice a len cap, .func (.func 221) #[] #[.pointer (some ⟨pb, 0, none⟩)]] w fun e w' => e = .returned (.bool (!cinA tl F len G)) ∧ Below w.heap.size w w' := by
  go_enter Tryz.func220, Tryz.ntmps220
  go_wp2_with fail
  refine (cidx_any a len cap G nb ta tl tc F pb _ hG hm hp h8 h hl).mono ?_
  rintro e w1 ⟨r, rfl, hr, b1⟩
  rcases hr with ⟨hs, rfl⟩ | ⟨hs, hr⟩
  · have hs' : Hid (cinA tl F len G = true) := hs
    clear hs
    go_wp2
    go_ret
    exact ⟨ret_bool (by rw [hs'.out]; rfl), b1⟩
  · have hs' : Hid (cinA tl F len G = false) := hs
    clear hs
    go_wp2
    go_ret
    exact ⟨ret_bool (by rw [hs'.out]; simp <;> omega), b1⟩
theorem call_any (a : Option Addr) (len cap : Nat) (G : Nat → It) (nb : Nat) (ta : Option Addr) (tl tc : Nat) (F : Nat → Fc) (w : World) (hG : TSl w a len G) (hm : len ≤ 1048576) (h8 : w.cell? ⟨nb, 8, none⟩ = some (.slice ta tl tc)) (h : FSl w ta tl F) (hl : tl ≤ 1048576) :
    Calls Tryz.prog 158 #[.slice a len cap, (.func (.func 159) #[] #[.pointer (some ⟨nb, 0, none⟩)])] w fun e w' => e = .returned (.bool (cinA tl F len G)) ∧ Below w.heap.size w w' := by
  have b0 := balloc (.cells #[(.func (.func 159) #[] #[.pointer (some ⟨nb, 0, none⟩)])] 179) (Below.refl w.heap.size w)
  have X := Ws.box (w := w) #[(.func (.func 159) #[] #[.pointer (some ⟨nb, 0, none⟩)])] 179
  have dp := X.c 0 (.func (.func 159) #[] #[.pointer (some ⟨nb, 0, none⟩)]) rfl
  have d8 := keep_alloc (.cells #[(.func (.func 159) #[] #[.pointer (some ⟨nb, 0, none⟩)])] 179) h8
  go_enter Tryz.func158, Tryz.ntmps158
  go_upto_region 1 with fail
  generalize w.alloc (.cells #[(.func (.func 159) #[] #[.pointer (some ⟨nb, 0, none⟩)])] 179) = u at *
  clear X
  go_wp2_with fail
  refine (ccont_any a len cap G nb ta tl tc F _ _ (hG.below b0) hm dp d8 (h.below b0) hl).mono ?_
  rintro e w1 ⟨rfl, b1⟩
  clear dp d8 h8
  go_wp2
  go_ret
  exact ⟨ret_bool (by simp), btrans b0 b1⟩
/-- a node's cast is ok -/
def castB (tl : Nat) (F : Nat → Fc) (len : Nat) (G : Nat → It) : Bool := cokB len G && cinA tl F len G
set_option maxRecDepth 20000 in
set_option maxHeartbeats 4000000 in
theorem ncast_any (me : Int) (up gone gate : Bool) (inc now sq turn : Int) (ta : Option Addr) (tl tc : Nat) (ca : Option Addr) (cl cc : Nat) (pn ps pq : Int) (pa : Bool) (da : Option Addr) (dl dc : Nat) (cx cy ch ce : Int) (pla : Option Addr) (pll plc : Nat) (oa : Option Addr) (ol oc : Nat) (F : Nat → Fc) (G : Nat → It) (w : World) (h : FSl w ta tl F) (hl : tl ≤ 1048576) (hG : TSl w ca cl G) (hm : cl ≤ 1048576) :
    Calls Tryz.prog 102 #[.agg #[.int .i64 me, .bool up, .bool gone, .bool gate, .int .i64 inc, .int .i64 now, .int .i64 sq, .int .i64 turn, .slice ta tl tc, .slice ca cl cc, .int .i64 pn, .int .i64 ps, .int .i64 pq, .bool pa, .slice da dl dc, .int .i64 cx, .int .i64 cy, .int .i64 ch, .int .i64 ce, .slice pla pll plc, .slice oa ol oc]] w fun r w' => r = .returned (.bool (castB tl F cl G)) ∧ Below w.heap.size w w' := by
  have b0 := balloc (.cells #[.int .i64 me, .bool up, .bool gone, .bool gate, .int .i64 inc, .int .i64 now, .int .i64 sq, .int .i64 turn, .slice ta tl tc, .slice ca cl cc, .int .i64 pn, .int .i64 ps, .int .i64 pq, .bool pa, .slice da dl dc, .int .i64 cx, .int .i64 cy, .int .i64 ch, .int .i64 ce, .slice pla pll plc, .slice oa ol oc] 42) (Below.refl w.heap.size w)
  have X := Ws.box (w := w) #[.int .i64 me, .bool up, .bool gone, .bool gate, .int .i64 inc, .int .i64 now, .int .i64 sq, .int .i64 turn, .slice ta tl tc, .slice ca cl cc, .int .i64 pn, .int .i64 ps, .int .i64 pq, .bool pa, .slice da dl dc, .int .i64 cx, .int .i64 cy, .int .i64 ch, .int .i64 ce, .slice pla pll plc, .slice oa ol oc] 42
  go_enter Tryz.func102, Tryz.ntmps102
  go_upto_region 1 with fail
  generalize w.alloc (.cells #[.int .i64 me, .bool up, .bool gone, .bool gate, .int .i64 inc, .int .i64 now, .int .i64 sq, .int .i64 turn, .slice ta tl tc, .slice ca cl cc, .int .i64 pn, .int .i64 ps, .int .i64 pq, .bool pa, .slice da dl dc, .int .i64 cx, .int .i64 cy, .int .i64 ch, .int .i64 ce, .slice pla pll plc, .slice oa ol oc] 42) = u at *
  have d8 := X.c 8 (.slice ta tl tc) rfl
  have d9 := X.c 9 (.slice ca cl cc) rfl
  clear X
  go_wp2_with fail
  refine (cok_any ca cl cc G _ (hG.below b0) hm).mono ?_
  rintro r w1 ⟨rfl, k1⟩
  have b1 := btrans b0 k1
  have e8 := keep_below k1 d8
  have e9 := keep_below k1 d9
  clear d8 d9 k1
  have hst : Hid (castB tl F cl G = (cokB cl G && cinA tl F cl G)) := rfl
  generalize cokB cl G = q at *
  cases q
  · go_wp2
    go_ret
    exact ⟨ret_bool (by rw [hst.out]; rfl), b1⟩
  · go_wp2_with fail
    refine (call_any ca cl cc G _ ta tl tc F _ (hG.below b1) hm e8 (h.below b1) hl).mono ?_
    rintro r w2 ⟨rfl, k2⟩
    clear e8 e9
    go_wp2
    go_ret
    exact ⟨ret_bool (by rw [hst.out]; rfl), btrans b1 k2⟩
end Go.Proofs.YtgcdcfjaeehnbaaGreat
