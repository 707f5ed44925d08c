/- Items with a fact more: the model's walk. -/
import Derived.Test.YtgcdcfjaeehnbaaGreatIInv
namespace Go.Proofs.YtgcdcfjaeehnbaaGreat.I
open Go.ChangeShapes Go.WideShapes Go.ChangeAt Go.RowKit
set_option maxRecDepth 20000
set_option maxHeartbeats 4000000
attribute [local go_sem ↓] Go.wp_at_zero Go.wp_at_succ
theorem own_ne {w : World} {base n b : Nat} {v : Value} {xs : List Value} (h : w.ownsRow base 127 5 v n xs) (hb : b < base ∨ w.heap.size ≤ b) : some b ≠ v.ownBlock := by
 rcases own_sliceF h with ⟨rfl, _⟩ | ⟨g, cap, rfl, h1, h2, _⟩
 ·simp [Value.ownBlock]
 ·intro e
  simp [Value.ownBlock] at e
  omega
def St5 (w0 : World) (B : Nat) (T : List It) (x : It) (out done i : Value) (wr : World) : Prop :=
 ∃ (k : Nat) (O : List It) (q : Bool), k ≤ T.length ∧ i = .int .i64 k ∧ done = .bool q ∧ Inv5 T x O q k ∧ (∃ ax cx n, n = O.length ∧ out = .slice ax n cx ∧ Value.slice ax n cx ≠ .slice none 0 0 ∧ wr.ownsRow B 127 5 (.slice ax n cx) n (fl O)) ∧ Below B w0 wr
theorem l5_any (base : Nat) (a : Option Addr) (len cap : Nat) (F : Nat → It) (f : Fc) (w : World) (h : TSl w a len F) (hc : len ≤ cap) (hl : len ≤ 1048576) (hasc : ∀ j k, j < k → k < len → (F j).n < (F k).n) (ho0 : w.ownsRow base 127 5 (.slice a len cap) len (fl (seqF F len))) (hb0 : base ≤ w.heap.size) :
  Calls Tryz.prog 192 #[.slice a len cap, .agg #[.int .i64 f.n, .int .i64 f.i, .int .i64 f.s, .bool f.g]] w fun e w' => ∃ a' n c, e = .returned (.slice a' n c) ∧ n ≤ c ∧ (tput (seqF F len) (tIt f)).length = n ∧ w'.ownsRow base 127 5 (.slice a' n c) n (fl (tput (seqF F len) (tIt f))) ∧ Below w.heap.size w w' := by
 have hA := seqF_asc hasc len (Nat.le_refl _)
 have hTl := seqF_len F len
 have hTg : ∀ k, k < len → (seqF F len).getD k It.zero = F k := fun k hk => seqF_getD F hk
 have p0 : (w.alloc (.cells #[.int .i64 f.n, .int .i64 f.i, .int .i64 f.s, .bool f.g] 96)).heap[w.heap.size]? = some (.cells #[.int .i64 f.n, .int .i64 f.i, .int .i64 f.s, .bool f.g] 96 (0, 0)) := heap_alloc_new _ _
 have B0 : Below w.heap.size w (w.alloc (.cells #[.int .i64 f.n, .int .i64 f.i, .int .i64 f.s, .bool f.g] 96)) := balloc _ (Below.refl _ _)
 have O0 := own_emptyF (w.alloc (.cells #[.int .i64 f.n, .int .i64 f.i, .int .i64 f.s, .bool f.g] 96)) _ (Nat.le_refl _)
 have B1 : Below (w.alloc (.cells #[.int .i64 f.n, .int .i64 f.i, .int .i64 f.s, .bool f.g] 96)).heap.size (w.alloc (.cells #[.int .i64 f.n, .int .i64 f.i, .int .i64 f.s, .bool f.g] 96)) ((w.alloc (.cells #[.int .i64 f.n, .int .i64 f.i, .int .i64 f.s, .bool f.g] 96)).alloc (.cells #[] 127)) := balloc _ (Below.refl _ _)
 have z0 : (w.alloc (.cells #[.int .i64 f.n, .int .i64 f.i, .int .i64 f.s, .bool f.g] 96)).heap.size = w.heap.size + 1 := by simp
 go_enter Tryz.func192, Tryz.ntmps192
 go_wp2_with fail
 have S0 : St5 (w.alloc (.cells #[.int .i64 f.n, .int .i64 f.i, .int .i64 f.s, .bool f.g] 96)) (w.alloc (.cells #[.int .i64 f.n, .int .i64 f.i, .int .i64 f.s, .bool f.g] 96)).heap.size (seqF F len) (tIt f) (.slice (some ⟨w.heap.size + 1, 0, none⟩) 0 0) (.bool false) (.int .i64 0) ((w.alloc (.cells #[.int .i64 f.n, .int .i64 f.i, .int .i64 f.s, .bool f.g] 96)).alloc (.cells #[] 127)) :=
  ⟨0, [], false, Nat.zero_le _, rfl, rfl, inv5_start _ _, ⟨_, _, 0, rfl, rfl, by simp, by rw [← z0]; exact O0⟩, B1⟩
 clear O0 B1
 go_loopw [5, 6, 7] (fun x d i wr => St5 (w.alloc (.cells #[.int .i64 f.n, .int .i64 f.i, .int .i64 f.s, .bool f.g] 96)) (w.alloc (.cells #[.int .i64 f.n, .int .i64 f.i, .int .i64 f.s, .bool f.g] 96)).heap.size (seqF F len) (tIt f) x d i wr) (fun _ _ i _ => len - (intOf i).toNat)
 case atStart => exact S0
 case round =>
  obtain ⟨k, O, q, hk, rfl, rfl, hI, ⟨ax, cx, nO, hnO, rfl, hnx, hox⟩, hb⟩ := hrel
  rw [hTl] at hk
  subst hnO
  clear S0
  have hO3 := hI.2.2.1
  have HB := btrans B0 hb
  have pf := blk_below hb p0
  have q0 : wr.cell? ⟨w.heap.size, 0, none⟩ = some (.int .i64 f.n) := cell_block (o := 0) pf rfl
  have q1 : wr.cell? ⟨w.heap.size, 1, none⟩ = some (.int .i64 f.i) := cell_block (o := 1) pf rfl
  have q2 : wr.cell? ⟨w.heap.size, 2, none⟩ = some (.int .i64 f.s) := cell_block (o := 2) pf rfl
  have q3 : wr.cell? ⟨w.heap.size, 3, none⟩ = some (.bool f.g) := cell_block (o := 3) pf rfl
  have hsz := hb.size
  have hsw : w.heap.size < (w.alloc (.cells #[.int .i64 f.n, .int .i64 f.i, .int .i64 f.s, .bool f.g] 96)).heap.size := by rw [z0]; omega
  clear p0
  generalize (w.alloc (.cells #[.int .i64 f.n, .int .i64 f.i, .int .i64 f.s, .bool f.g] 96)) = W0 at *
  by_cases hlt : k < len
  ·obtain ⟨b, off, rfl, hbl, hf⟩ := h (by omega)
   obtain ⟨c0, c1, c2, c3, c4⟩ := (hf.below HB hbl) k hlt
   have i0 : (0 : Int) ≤ (k : Int) := by omega
   have i1 : (k : Int) < (len : Int) := by omega
   have hgk := hTg k hlt
   clear hTg z0 pf B0
   have s0 := keep_alloc (.cells #[.int .i64 (F k).n, .int .i64 (F k).i, .int .i64 (F k).s, .bool (F k).g] 96) c0
   have s1 := keep_alloc (.cells #[.int .i64 (F k).n, .int .i64 (F k).i, .int .i64 (F k).s, .bool (F k).g] 96) c1
   have s2 := keep_alloc (.cells #[.int .i64 (F k).n, .int .i64 (F k).i, .int .i64 (F k).s, .bool (F k).g] 96) c2
   have s3 := keep_alloc (.cells #[.int .i64 (F k).n, .int .i64 (F k).i, .int .i64 (F k).s, .bool (F k).g] 96) c3
   have s4 := keep_alloc (.cells #[.int .i64 (F k).n, .int .i64 (F k).i, .int .i64 (F k).s, .bool (F k).g] 96) c4
   have zz : (wr.alloc (.cells #[.int .i64 (F k).n, .int .i64 (F k).i, .int .i64 (F k).s, .bool (F k).g] 96)).heap.size = wr.heap.size + 1 := by simp
   have nk : ItemsIn ((wr.alloc (.cells #[.int .i64 (F k).n, .int .i64 (F k).i, .int .i64 (F k).s, .bool (F k).g] 96)).alloc (.cells #[.int .i64 (F k).n, .int .i64 (F k).i, .int .i64 (F k).s, .bool (F k).g, .int .i64 (F k).l] 127)) (wr.heap.size + 1) 0 1 (fun j => [F k].getD j It.zero) := zz ▸ new_one (wr.alloc (.cells #[.int .i64 (F k).n, .int .i64 (F k).i, .int .i64 (F k).s, .bool (F k).g] 96)) (F k)
   have nx : ItemsIn ((wr.alloc (.cells #[.int .i64 (F k).n, .int .i64 (F k).i, .int .i64 (F k).s, .bool (F k).g] 96)).alloc (.cells #[.int .i64 f.n, .int .i64 f.i, .int .i64 f.s, .bool f.g, .int .i64 4] 127)) (wr.heap.size + 1) 0 1 (fun j => [tIt f].getD j It.zero) := zz ▸ new_one (wr.alloc (.cells #[.int .i64 (F k).n, .int .i64 (F k).i, .int .i64 (F k).s, .bool (F k).g] 96)) (tIt f)
   have gc0 : (wr.alloc (.cells #[.int .i64 (F k).n, .int .i64 (F k).i, .int .i64 (F k).s, .bool (F k).g] 96)).cell? ⟨wr.heap.size, 0, none⟩ = some (.int .i64 (F k).n) := by simp [go_sem]
   have Hc : Below W0.heap.size W0 (wr.alloc (.cells #[.int .i64 (F k).n, .int .i64 (F k).i, .int .i64 (F k).s, .bool (F k).g] 96)) := balloc _ hb
   have Oc := hox.alloc (.cells #[.int .i64 (F k).n, .int .i64 (F k).i, .int .i64 (F k).s, .bool (F k).g] 96)
   clear zz
   have t0 := keep_alloc (.cells #[.int .i64 (F k).n, .int .i64 (F k).i, .int .i64 (F k).s, .bool (F k).g] 96) q0
   have t1 := keep_alloc (.cells #[.int .i64 (F k).n, .int .i64 (F k).i, .int .i64 (F k).s, .bool (F k).g] 96) q1
   have t2 := keep_alloc (.cells #[.int .i64 (F k).n, .int .i64 (F k).i, .int .i64 (F k).s, .bool (F k).g] 96) q2
   have t3 := keep_alloc (.cells #[.int .i64 (F k).n, .int .i64 (F k).i, .int .i64 (F k).s, .bool (F k).g] 96) q3
   rcases Int.lt_trichotomy (F k).n f.n with hn | hn | hn
   ·have hq : q = false := by
     cases q
     ·rfl
     ·have := hI.2.1 rfl k (Nat.le_refl _) (by omega)
      rw [hgk] at this
      simp [tIt] at this
      omega
    subst hq
    have I1 := inv5_low hI (by omega) (by rw [hgk]; simpa [tIt] using hn)
    rw [hgk] at I1
    have e1 : ((F k).n == f.n) = false := by simp; omega
    have e2 : ¬ (f.n ≤ (F k).n) := by omega
    have e3 : (F k).n ≠ f.n := by omega
    clear hI hn
    go_wp2_with (at_builtin; refine wpList_appF rfl _ _ rfl W0.heap.size (.slice ax O.length cx) O.length O rfl hnx (Oc.alloc _) _ 0 1 1 [F k] rfl rfl nk (O.length + 1) rfl (by omega) (by simp; omega) ?_; intro g5 cap5 w5 o5 gr5 hc5)
    have B5 := own_grow (balloc (.cells #[.int .i64 (F k).n, .int .i64 (F k).i, .int .i64 (F k).s, .bool (F k).g, .int .i64 (F k).l] 127) Hc) (by simp; omega) (Oc.alloc _) gr5
    clear hox gr5 c0 c1 c2 c3 c4 q0 q1 q2 q3 s0 s1 s2 s3 s4 t0 t1 t2 t3 HB hb nk nx gc0 Hc Oc
    go_wp2
    go_roundw
    case rel => exact ⟨k + 1, _, _, by omega, by go_num, rfl, I1, ⟨_, _, _, by simp, rfl, by simp, o5⟩, B5⟩
    case measure => simp [intOf]; omega
   ·have hq : q = false := by
     cases q
     ·rfl
     ·have := hI.2.1 rfl k (Nat.le_refl _) (by omega)
      rw [hgk] at this
      simp [tIt] at this
      omega
    subst hq
    have e1 : ((F k).n == f.n) = true := by simp [hn]
    have e2 : f.n ≤ (F k).n := by omega
    have e3 : ¬ ((F k).n ≠ f.n) := by simp [hn]
    have hv0 := tget_at k hA (by rw [hTl]; exact hlt)
    rw [hgk] at hv0
    cases ho : ovr (tIt f) (F k)
    ·have hN := tput_no hA (show tget (seqF F len) (tIt f).n = some (F k) by rw [← hv0, hn]; rfl) ho
     have ho' : Hid (ovr (tIt f) (F k) = false) := ho
     have hn' : Hid ((F k).n = f.n) := hn
     clear ho hn hv0
     go_wp2_with fail
     refine (l3_ov f (F k) false _ ho'.out).mono ?_
     rintro e w1 ⟨rfl, b1⟩
     have B1 := btrans (balloc (.cells #[.int .i64 (F k).n, .int .i64 (F k).i, .int .i64 (F k).s, .bool (F k).g] 96) HB) b1
     clear s0 s1 s2 s3 s4 t0 t1 t2 t3 c0 c1 c2 c3 c4 q0 q1 q2 q3 gc0 Hc Oc nk nx hb hox
     go_wp2
     go_ret
     rw [hN]
     exact ⟨_, _, _, rfl, hc, hTl, own_below ho0 B1, B1⟩
    ·have I1 := inv5_same hA hI (by omega) (by rw [hgk]; simpa [tIt] using hn) (by rw [hgk]; exact ho)
     have ho' : Hid (ovr (tIt f) (F k) = true) := ho
     have hn' : Hid ((F k).n = f.n) := hn
     clear ho hn hv0 hI
     go_wp2_with fail
     refine (l3_ov f (F k) true _ ho'.out).mono ?_
     rintro e w1 ⟨rfl, b1⟩
     replace Hc := Hc.trans (b1.mono Hc.size)
     replace Oc := own_below Oc b1
     replace t0 := keep_below b1 t0
     replace t1 := keep_below b1 t1
     replace t2 := keep_below b1 t2
     replace t3 := keep_below b1 t3
     replace gc0 := keep_below b1 gc0
     have hwr : wr.heap.size < w1.heap.size := by have := b1.size; simp at this; omega
     have n1 : ItemsIn (w1.alloc (.cells #[.int .i64 f.n, .int .i64 f.i, .int .i64 f.s, .bool f.g, .int .i64 4] 127)) w1.heap.size 0 1 (fun j => [tIt f].getD j It.zero) := new_one w1 (tIt f)
     clear s0 s1 s2 s3 s4 c0 c1 c2 c3 c4 q0 q1 q2 q3 nk nx hb b1
     go_wp2_with (at_builtin; refine wpList_appF rfl _ _ rfl W0.heap.size (.slice ax O.length cx) O.length O rfl hnx (Oc.alloc _) _ 0 1 1 [tIt f] rfl rfl n1 (O.length + 1) rfl (by omega) (by simp; omega) ?_; intro g5 cap5 w5 o5 gr5 hc5; have X0 := (balloc (.cells #[.int .i64 f.n, .int .i64 f.i, .int .i64 f.s, .bool f.g, .int .i64 4] 127) Hc : Below W0.heap.size W0 _); have X1 := Oc.alloc (.cells #[.int .i64 f.n, .int .i64 f.i, .int .i64 f.s, .bool f.g, .int .i64 4] 127); have r0 := gr5.cell (keep_alloc (.cells #[.int .i64 f.n, .int .i64 f.i, .int .i64 f.s, .bool f.g, .int .i64 4] 127) t0) (own_ne X1 (.inl hsw)); have r1 := gr5.cell (keep_alloc (.cells #[.int .i64 f.n, .int .i64 f.i, .int .i64 f.s, .bool f.g, .int .i64 4] 127) gc0) (own_ne hox (.inr (Nat.le_refl _))); have B5 := own_grow X0 (by simp; omega) X1 gr5; clear hox gr5 t0 t1 t2 t3 HB n1 gc0 Hc Oc X0 X1)
     go_roundw
     case rel => exact ⟨k + 1, _, _, by omega, by go_num, rfl, I1, ⟨_, _, _, by simp, rfl, by simp, o5⟩, B5⟩
     case measure => simp [intOf]; omega
   ·cases q
    ·have I1 := inv5_new hA hI (by omega) (by rw [hgk]; simpa [tIt] using hn)
     rw [hgk] at I1
     have e1 : ((F k).n == f.n) = false := by simp; omega
     have e2 : f.n ≤ (F k).n := by omega
     have e3 : (F k).n ≠ f.n := by omega
     clear hI hn
     go_wp2_with (first | (at_builtin; refine wpList_appF rfl _ _ rfl W0.heap.size (.slice ax O.length cx) O.length O rfl hnx (Oc.alloc _) _ 0 1 1 [tIt f] rfl rfl nx (O.length + 1) rfl (by omega) (by simp; omega) ?_; intro g5 cap5 w5 o5 gr5 hc5; have X0 := (balloc (.cells #[.int .i64 f.n, .int .i64 f.i, .int .i64 f.s, .bool f.g, .int .i64 4] 127) Hc : Below W0.heap.size W0 _); have X1 := Oc.alloc (.cells #[.int .i64 f.n, .int .i64 f.i, .int .i64 f.s, .bool f.g, .int .i64 4] 127); have r0 := gr5.cell (keep_alloc (.cells #[.int .i64 f.n, .int .i64 f.i, .int .i64 f.s, .bool f.g, .int .i64 4] 127) t0) (own_ne X1 (.inl hsw)); have r1 := gr5.cell (keep_alloc (.cells #[.int .i64 f.n, .int .i64 f.i, .int .i64 f.s, .bool f.g, .int .i64 4] 127) gc0) (own_ne hox (.inr (Nat.le_refl _))); have y0 := gr5.cell (keep_alloc (.cells #[.int .i64 f.n, .int .i64 f.i, .int .i64 f.s, .bool f.g, .int .i64 4] 127) s0) (own_ne X1 (.inl (Nat.lt_trans hbl hsw))); have y1 := gr5.cell (keep_alloc (.cells #[.int .i64 f.n, .int .i64 f.i, .int .i64 f.s, .bool f.g, .int .i64 4] 127) s1) (own_ne X1 (.inl (Nat.lt_trans hbl hsw))); have y2 := gr5.cell (keep_alloc (.cells #[.int .i64 f.n, .int .i64 f.i, .int .i64 f.s, .bool f.g, .int .i64 4] 127) s2) (own_ne X1 (.inl (Nat.lt_trans hbl hsw))); have y3 := gr5.cell (keep_alloc (.cells #[.int .i64 f.n, .int .i64 f.i, .int .i64 f.s, .bool f.g, .int .i64 4] 127) s3) (own_ne X1 (.inl (Nat.lt_trans hbl hsw))); have y4 := gr5.cell (keep_alloc (.cells #[.int .i64 f.n, .int .i64 f.i, .int .i64 f.s, .bool f.g, .int .i64 4] 127) s4) (own_ne X1 (.inl (Nat.lt_trans hbl hsw))); have B5 := own_grow X0 (by simp; omega) X1 gr5; have n2 := new_one w5 (F k); clear hox gr5 t0 t1 t2 t3 nk nx gc0 Hc Oc s0 s1 s2 s3 s4 c0 c1 c2 c3 c4 q0 q1 q2 q3 hb X0 X1) | (at_builtin; go_loud (refine wpList_appF rfl _ _ rfl W0.heap.size (.slice (some ⟨g5, 0, none⟩) (O.length + 1) cap5) (O.length + 1) (O ++ [tIt f]) rfl (by simp) (o5.alloc _) _ 0 1 1 [F k] rfl rfl n2 (O.length + 1 + 1) rfl (by omega) (by have := B5.size; simp; omega) ?_; intro g6 cap6 w6 o6 gr6 hc6)))
     have B6 := own_grow (balloc (.cells #[.int .i64 (F k).n, .int .i64 (F k).i, .int .i64 (F k).s, .bool (F k).g, .int .i64 (F k).l] 127) B5) (by have := B5.size; simp; omega) (o5.alloc _) gr6
     clear o5 gr6 r0 r1 y0 y1 y2 y3 y4 n2 B5 HB
     go_wp2
     go_roundw
     case rel => exact ⟨k + 1, _, _, by omega, by go_num, rfl, I1, ⟨_, _, _, by simp, rfl, by simp, o6⟩, B6⟩
     case measure => simp [intOf]; omega
    ·have I1 := inv5_on hI (by omega)
     rw [hgk] at I1
     have e1 : ((F k).n == f.n) = false := by simp; omega
     have e2 : f.n ≤ (F k).n := by omega
     have e3 : (F k).n ≠ f.n := by omega
     clear hI hn
     go_wp2_with (at_builtin; refine wpList_appF rfl _ _ rfl W0.heap.size (.slice ax O.length cx) O.length O rfl hnx (Oc.alloc _) _ 0 1 1 [F k] rfl rfl nk (O.length + 1) rfl (by omega) (by simp; omega) ?_; intro g5 cap5 w5 o5 gr5 hc5)
     have B5 := own_grow (balloc (.cells #[.int .i64 (F k).n, .int .i64 (F k).i, .int .i64 (F k).s, .bool (F k).g, .int .i64 (F k).l] 127) Hc) (by simp; omega) (Oc.alloc _) gr5
     clear hox gr5 c0 c1 c2 c3 c4 q0 q1 q2 q3 s0 s1 s2 s3 s4 t0 t1 t2 t3 HB hb nk nx gc0 Hc Oc
     go_wp2
     go_roundw
     case rel => exact ⟨k + 1, _, _, by omega, by go_num, rfl, I1, ⟨_, _, _, by simp, rfl, by simp, o5⟩, B5⟩
     case measure => simp [intOf]; omega
  ·have e : k = len := by omega
   have hk2 : k = (seqF F len).length := by rw [hTl]; exact e
   have hE := inv5_end (show Inv5 (seqF F len) (tIt f) O q (seqF F len).length by rw [← hk2]; exact hI)
   clear hTg z0 pf hI
   cases q
   ·have hE' : O ++ [tIt f] = tput (seqF F len) (tIt f) := by simpa using hE
    have hH : Hid (O ++ [tIt f] = tput (seqF F len) (tIt f)) := hE'
    have n1 := new_one wr (tIt f)
    clear hE hE' hk2
    go_wp2_with (at_builtin; refine wpList_appF rfl _ _ rfl W0.heap.size (.slice ax O.length cx) O.length O rfl hnx (hox.alloc _) _ 0 1 1 [tIt f] rfl rfl n1 (O.length + 1) rfl (by omega) (by simp; omega) ?_; intro g5 cap5 w5 o5 gr5 hc5)
    have B5 := own_grow (balloc (.cells #[.int .i64 f.n, .int .i64 f.i, .int .i64 f.s, .bool f.g, .int .i64 4] 127) hb) (by simp; omega) (hox.alloc _) gr5
    clear hox gr5 q0 q1 q2 q3 n1
    obtain ⟨_, _, _, _, hl', _⟩ := own_facts o5
    have B6 := btrans B0 B5
    go_ret
    rw [← hH.out]
    exact ⟨_, _, _, rfl, hc5, hl', own_mono (Nat.le_trans hb0 B0.size) o5, B6⟩
   ·have hE' : O = tput (seqF F len) (tIt f) := by simpa using hE
    have hH : Hid (O = tput (seqF F len) (tIt f)) := hE'
    clear hE hE' q0 q1 q2 q3 hk2
    have hS : O.length ≤ cx := by
     obtain ⟨a', c', e', hc', _, _⟩ := own_facts hox
     cases e'
     exact hc'
    go_wp2
    go_ret
    rw [← hH.out]
    exact ⟨_, _, _, rfl, hS, rfl, own_mono (Nat.le_trans hb0 B0.size) hox, HB⟩
end Go.Proofs.YtgcdcfjaeehnbaaGreat.I
