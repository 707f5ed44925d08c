/- A new node comes into a scene. -/
import Derived.Test.YtlabilijnpkmgaaGreatDoorWn3
namespace Go.Proofs.YtlabilijnpkmgaaGreatDoor
open Go.ChangeShapes Go.WideShapes Go.ChangeAt Go.RowKit
attribute [local go_sem ↓] Go.wp_at_zero Go.wp_at_succ
theorem own_puts {base e size n g cap : Nat} : ∀ (vs : List Value) (o : Nat) (w : World) (f : Nat → Value), w.ownsRow base e size (.slice (some ⟨g, 0, none⟩) n cap) n (rv f (n * size)) → (w.setCells g o vs).ownsRow base e size (.slice (some ⟨g, 0, none⟩) n cap) n (rv (fun i => if o ≤ i ∧ i < o + vs.length then vs.getD (i - o) undef else f i) (n * size))
  | [], o, w, f, h => by
    have e : rv (fun i => if o ≤ i ∧ i < o + ([] : List Value).length then ([] : List Value).getD (i - o) undef else f i) (n * size) = rv f (n * size) := rv_congr fun j _ => by
      rw [if_neg (by simp only [List.length_nil]; omega)]
    rw [e]
    exact h
  | v :: r, o, w, f, h => by
    have ih := own_puts r (o + 1) (w.setCell ⟨g, o, none⟩ v) _ (own_put h o v)
    have e : rv (fun i => if o ≤ i ∧ i < o + (v :: r).length then (v :: r).getD (i - o) undef else f i) (n * size) = rv (fun i => if o + 1 ≤ i ∧ i < o + 1 + r.length then r.getD (i - (o + 1)) undef else if i = o then v else f i) (n * size) := rv_congr fun j _ => by
      rcases Nat.lt_trichotomy j o with q | q | q
      · rw [if_neg (by omega), if_neg (by omega), if_neg (by omega)]
      · subst q
        rw [if_pos (by simp), if_neg (by omega), if_pos rfl, Nat.sub_self]
        rfl
      · obtain ⟨d, rfl⟩ : ∃ d, j = o + 1 + d := ⟨j - (o + 1), by omega⟩
        have e1 : o + 1 + d - o = d + 1 := by omega
        have e2 : o + 1 + d - (o + 1) = d := by omega
        rw [e1, e2, if_neg (by omega : ¬ o + 1 + d = o)]
        by_cases q2 : d < r.length
        · rw [if_pos (by simp; omega), if_pos (by omega)]
          rfl
        · rw [if_neg (by simp; omega), if_neg (by omega)]
    rw [e]
    exact ih
theorem Mw.puts {b : Nat} : ∀ (vs : List Value) (o : Nat) (w : World), Mw (fun x => x = b) w (w.setCells b o vs)
  | [], _, w => Mw.refl _ w
  | v :: r, o, w => ((Mw.refl (fun x => x = b) w).set (b := b) (o := o) (v := v) rfl).trans (Mw.puts r (o + 1) _)
theorem own_there {w : World} {base e size n g cap : Nat} {f : Nat → Value} (h : w.ownsRow base e size (.slice (some ⟨g, 0, none⟩) n cap) n (rv f (n * size))) {o m : Nat} (hm : o + m ≤ n * size) : w.there g o m := fun j hj => by
  refine ⟨?_, ?_⟩
  · rw [own_at h (by omega)]
    rfl
  · have h0 := h
    rcases h.2 with ⟨e1, _⟩ | ⟨g', cap', cur, e1, _, hh, _⟩
    · cases e1
    · injection e1 with e2
      injection e2 with e3
      injection e3 with e4
      subst e4
      simp [World.frozen?, hh]
/-- a scene behind a fact that was told first -/
def BcP (base sc nb : Nat) (vr vs vb : Value) (F : Nat → Value) (T : List Fc) (f : Fc) (u w : World) : Prop := ∃ vb', w.heap[sc]? = some (.cells #[.slice (some ⟨nb, 0, none⟩) 8 8, vr, vs, vb'] 50 (0, 0)) ∧ w.ownsRow base 41 21 (.slice (some ⟨nb, 0, none⟩) 8 8) 8 (rv F (8 * 21)) ∧ w.ownsRow base 45 4 vb' (T.length + 1) (fl (T ++ [f])) ∧ Mw (fun b => b = sc ∨ vb.ownBlock = some b) u w ∧ (vb'.ownBlock = vb.ownBlock ∨ ∃ x, vb'.ownBlock = some x ∧ u.heap.size ≤ x)
def s12_1 : List Stp := [⟨some 11, .move (.tmp 0), 46, none, 0⟩, ⟨some 12, .nilCheck (.tmp 11), 0, none, 0⟩, ⟨some 13, .fieldAddr 50 (.tmp 12) 0, 0, none, 0⟩, ⟨some 14, .load 22 (.tmp 13), 22, none, 0⟩, ⟨some 15, .fieldAddr 41 (.tmp 5) 0, 0, none, 0⟩, ⟨some 16, .load 3 (.tmp 15), 3, none, 0⟩, ⟨some 17, .indexAddr 22 (.tmp 14) (.tmp 16), 0, none, 0⟩, ⟨some 18, .fieldAddr 41 (.tmp 17) 8, 0, none, 0⟩, ⟨some 19, .load 25 (.tmp 18), 25, none, 0⟩, ⟨some 8, .assign (.tmp 19), 25, none, 0⟩]
def t12_1 : List (Nat × Nat) := [(0, 0), (1, 0), (2, 0), (3, 0), (4, 0), (5, 0), (6, 0), (7, 0), (8, 0), (9, 0)]
def s12_5 : List Stp := [⟨some 27, .move (.tmp 8), 25, none, 0⟩, ⟨some 28, .load 45 (.tmp 10), 45, none, 0⟩, ⟨some 29, .call { callee := .value (.func 31), args := #[.tmp 27, .tmp 28], argTypes := #[25, 45] }, 4, none, 1⟩, ⟨some 30, .unOp .not 4 (.tmp 29), 4, none, 0⟩, ⟨some 31, .move (.tmp 30), 4, none, 0⟩, ⟨some 32, .move (.tmp 3), 25, some (31, true), 0⟩, ⟨some 33, .load 45 (.tmp 10), 45, some (31, true), 0⟩, ⟨some 34, .call { callee := .value (.func 31), args := #[.tmp 32, .tmp 33], argTypes := #[25, 45] }, 4, some (31, true), 1⟩, ⟨some 35, .unOp .not 4 (.tmp 34), 4, some (31, true), 0⟩, ⟨some 36, .pick (.tmp 31) (.tmp 35) (.const (.bool false)), 4, none, 0⟩]
def t12_5 : List (Nat × Nat) := [(0, 0), (1, 0), (2, 1), (3, 0), (4, 0), (5, 0), (6, 0), (7, 1), (8, 0), (9, 0)]
def s12_8 : List Stp := [⟨some 41, .move (.tmp 0), 46, none, 0⟩, ⟨some 42, .nilCheck (.tmp 41), 0, none, 0⟩, ⟨some 43, .fieldAddr 50 (.tmp 42) 0, 0, none, 0⟩, ⟨some 44, .load 22 (.tmp 43), 22, none, 0⟩, ⟨some 45, .fieldAddr 41 (.tmp 5) 0, 0, none, 0⟩, ⟨some 46, .load 3 (.tmp 45), 3, none, 0⟩, ⟨some 47, .load 41 (.tmp 5), 41, none, 0⟩, ⟨some 48, .indexAddr 22 (.tmp 44) (.tmp 46), 0, none, 0⟩, ⟨none, .store 41 (.tmp 48) (.tmp 47), 0, none, 1⟩]
def t12_8 : List (Nat × Nat) := [(0, 0), (1, 0), (2, 0), (3, 0), (4, 0), (5, 0), (6, 0), (7, 0), (8, 1)]
set_option maxRecDepth 20000 in
set_option maxHeartbeats 4000000 in
theorem becomes_any (base sc nb tb k : Nat) (vr vs vb : Value) (F : Nat → Value) (T : List Fc) (gate : Bool) (w : World) (hs : w.heap[sc]? = some (.cells #[.slice (some ⟨nb, 0, none⟩) 8 8, vr, vs, vb] 50 (0, 0))) (hn : w.ownsRow base 41 21 (.slice (some ⟨nb, 0, none⟩) 8 8) 8 (rv F (8 * 21))) (hk : k < 8) (hF : F (k * 21 + 8) = .slice none 0 0) (hr : Row1 w tb (k : Int) 0 1 gate) (ho : w.ownsRow base 45 4 vb T.length (fl T)) (hb : base ≤ w.heap.size) (hT : T.length ≤ 8) (hlt : ∀ j, j < T.length → (T.getD j Fc.zero).n < (k : Int)) :
    Calls Tryz.prog 12 #[.pointer (some ⟨sc, 0, none⟩), .agg (okN (k : Int) gate (.slice (some ⟨tb, 0, none⟩) 1 1)), .slice none 0 0, .slice none 0 0] w fun r w' => r = .returned (.tuple #[]) ∧ ∃ vb', w'.heap[sc]? = some (.cells #[.slice (some ⟨nb, 0, none⟩) 8 8, vr, vs, vb'] 50 (0, 0)) ∧ w'.ownsRow base 41 21 (.slice (some ⟨nb, 0, none⟩) 8 8) 8 (rv (fun j => if k * 21 ≤ j ∧ j < k * 21 + 21 then (okN (k : Int) gate (.slice (some ⟨tb, 0, none⟩) 1 1)).toList.getD (j - k * 21) undef else F j) (8 * 21)) ∧ w'.ownsRow base 45 4 vb' (T.length + 1) (fl (T ++ [(⟨(k : Int), 0, 1, gate⟩ : Fc)])) ∧ Mw (fun b => b = sc ∨ b = nb ∨ vb.ownBlock = some b) w w' ∧ (vb'.ownBlock = vb.ownBlock ∨ ∃ x, vb'.ownBlock = some x ∧ w.heap.size ≤ x) := by
  have b0 := balloc (.cells (okN (k : Int) gate (.slice (some ⟨tb, 0, none⟩) 1 1)) 41) (Below.refl w.heap.size w)
  have X := Ws.box (w := w) (okN (k : Int) gate (.slice (some ⟨tb, 0, none⟩) 1 1)) 41
  have hs0 : (w.alloc (.cells (okN (k : Int) gate (.slice (some ⟨tb, 0, none⟩) 1 1)) 41)).heap[sc]? = some (.cells #[.slice (some ⟨nb, 0, none⟩) 8 8, vr, vs, vb] 50 (0, 0)) := (b0.block sc (lt_of_block hs)).trans hs
  have hn0 := own_below hn b0
  have ho0 := own_below ho b0
  have hr0 := hr.below b0
  have hob : ∀ x, vb.ownBlock = some x → x < w.heap.size := fun x e => (ho.lt x e).2
  have hnl : nb < w.heap.size := (hn.lt nb rfl).2
  have hsl := lt_of_block hs
  clear hs hn ho hr
  have x0 := X.c 0 (.int .i64 (k : Int)) rfl
  have x8 := X.c 8 (.slice (some ⟨tb, 0, none⟩) 1 1) rfl
  have hxl := X.lt
  have xr : (w.alloc (.cells (okN (k : Int) gate (.slice (some ⟨tb, 0, none⟩) 1 1)) 41)).rangeAt w.heap.size 0 (okN (k : Int) gate (.slice (some ⟨tb, 0, none⟩) 1 1)).toList := X.range
  clear X
  go_enter Tryz.func12, Tryz.ntmps12
  go_upto_region 1 with fail
  generalize w.alloc (.cells (okN (k : Int) gate (.slice (some ⟨tb, 0, none⟩) 1 1)) 41) = u at *
  obtain ⟨xb, hxb⟩ : ∃ x, Hid (w.heap.size = x) := ⟨_, rfl⟩
  rw [hxb.out] at x0 x8 xr hxl ⊢
  have s0 := (Ws.new hs0).c 0 (.slice (some ⟨nb, 0, none⟩) 8 8) rfl
  have n8 : u.cell? ⟨nb, k * 21 + 8, none⟩ = some (.slice none 0 0) := by
    rw [← hF]
    exact own_at hn0 (by omega)
  have i0 : (0 : Int) ≤ (k : Int) := by omega
  have i1 : (k : Int) < 8 := by omega
  have snb : sc ≠ nb := fun e => own_box hn0 (e ▸ hs0) (by decide) rfl
  have xnb : xb ≠ nb := by have := hxb.out; omega
  have vnb : vb.ownBlock ≠ some nb := own_apart hn0 ho0 (by decide) nb rfl
  have hbu : base ≤ u.heap.size := by have := b0.size; omega
  refine wp_region_q s12_1 t12_1 (fun hbq => ?_)
  iterate 3 refine qY ?_
  refine qL ?_
  refine qY ?_
  refine qL ?_
  iterate 2 refine qY ?_
  refine qL ?_
  refine qY ?_
  refine qE ?_
  have q1 : Below u.heap.size u u.drew := hbq
  clear hbq n8 s0
  go_wp2_with fail
  go_loopw [10, 23] (fun _ j wr => (j = .int .i64 0 ∧ Below u.heap.size u wr) ∨ (j = .int .i64 1 ∧ BcP base sc nb vr vs vb F T (⟨(k : Int), 0, 1, gate⟩ : Fc) u wr)) (fun _ j _ => 1 - (intOf j).toNat)
  case atStart => exact .inl ⟨rfl, q1⟩
  case round =>
    rcases hrel with ⟨rfl, hb1⟩ | ⟨rfl, hP⟩
    · obtain ⟨⟨c0, c1, c2, c3⟩, _⟩ := hr0.below hb1
      have kB := balloc (.cells #[.int .i64 (k : Int), .int .i64 0, .int .i64 1, .bool gate] 45) (Below.refl wr.heap.size wr)
      have Y := (Ws.box (w := wr) #[.int .i64 (k : Int), .int .i64 0, .int .i64 1, .bool gate] 45).range
      go_upto_region 5 with fail
      clear c0 c1 c2 c3
      have B2 := btrans hb1 kB
      clear kB
      generalize wr.alloc (.cells #[.int .i64 (k : Int), .int .i64 0, .int .i64 1, .bool gate] 45) = u3 at *
      generalize wr.heap.size = fb at *
      refine wp_region_q0 s12_5 t12_5 (fun hbq => ?_)
      refine qY ?_
      refine qR ?_
      refine qC (fun K hK => ?_)
      go_simp
      refine (con_nil (⟨(k : Int), 0, 1, gate⟩ : Fc) _).mono ?_; rintro r v3 ⟨rfl, k3⟩
      go_wp2_with fail
      refine hK.out _ _ (btrans hbq k3) (.inl ?_)
      clear hK K
      replace hbq := btrans hbq k3
      clear k3
      try simp only [putQ]
      iterate 3 refine qY ?_
      refine qR ?_
      refine qC (fun K hK => ?_)
      go_simp
      refine (con_nil (⟨(k : Int), 0, 1, gate⟩ : Fc) _).mono ?_; rintro r v4 ⟨rfl, k4⟩
      go_wp2_with fail
      refine hK.out _ _ (btrans hbq k4) (.inl ?_)
      clear hK K
      replace hbq := btrans hbq k4
      clear k4
      try simp only [putQ]
      iterate 2 refine qY ?_
      refine qE ?_
      have B3 := btrans B2 hbq
      have Y3 := range_below' Y hbq
      clear hbq B2 Y
      have hs3 : v4.heap[sc]? = some (.cells #[.slice (some ⟨nb, 0, none⟩) 8 8, vr, vs, vb] 50 (0, 0)) := (B3.block sc (lt_of_block hs0)).trans hs0
      have ho3 := own_below ho0 B3
      have hn3 := own_below hn0 B3
      have y0 := Y3 0 (.int .i64 (k : Int)) rfl
      have y1 := Y3 1 (.int .i64 0) rfl
      have y2 := Y3 2 (.int .i64 1) rfl
      have y3 := Y3 3 (.bool gate) rfl
      simp only [Nat.zero_add] at y0 y1 y2 y3
      have hbear := bear_any base sc (.slice (some ⟨nb, 0, none⟩) 8 8) vr vs vb T (⟨(k : Int), 0, 1, gate⟩ : Fc) v4 hs3 ho3 (by have := B3.size; omega) hT hlt
      clear Y3
      go_wp2_with fail
      refine Calls.mono hbear ?_
      rintro r w5 ⟨rfl, vb', h1, h2, h3, h4⟩
      have hP : BcP base sc nb vr vs vb F T (⟨(k : Int), 0, 1, gate⟩ : Fc) u w5 := ⟨vb', h1, own_mw hn3 h3 (fun x e q => by
        cases e
        rcases q with q | q
        · exact snb q.symm
        · exact vnb q), h2, (Mw.of_below B3).trans h3, h4.imp id (fun ⟨x, e, l⟩ => ⟨x, e, by have := B3.size; omega⟩)⟩
      clear hbear h1 h2 h3 h4 hs3 ho3 hn3 y0 y1 y2 y3 B3
      go_wp2
      go_roundw
      case rel => exact .inr ⟨by simp, hP⟩
      case measure => simp [intOf]
    · obtain ⟨vb', h1, h2, h3, h4, h5⟩ := hP
      have e0 := (Ws.new h1).c 0 (.slice (some ⟨nb, 0, none⟩) 8 8) rfl
      have uS : ∀ x, (x = sc ∨ vb.ownBlock = some x) → x < w.heap.size := fun x q => q.elim (fun e => by omega) (hob x)
      have xS : ¬ (xb = sc ∨ vb.ownBlock = some xb) := fun q => by have := uS xb q; have := hxb.out; omega
      have e1 := h4.cell x0 xS
      have er : wr.rangeAt xb 0 (okN (k : Int) gate (.slice (some ⟨tb, 0, none⟩) 1 1)).toList := h4.range xr xS
      have hth := own_there h2 (o := k * 21) (m := 21) (by omega)
      go_upto_region 8 with fail
      refine wp_region_w (fun x => x = nb) s12_8 t12_8 (fun hbq => ?_)
      iterate 3 refine mY ?_
      refine mL ?_
      refine mY ?_
      refine mL ?_
      refine mR ?_
      refine mY ?_
      refine mC (fun K hK => ?_)
      refine wp_store_mid 41 _ _ rfl nb (k * 21) (okN (k : Int) gate (.slice (some ⟨tb, 0, none⟩) 1 1)) (by simp [go_sem]) rfl (show wr.drew.there nb (k * 21) _ from hth) (by kernel_rfl) (by kernel_rfl) ?_
      have mP : Mw (fun x => x = nb) wr (wr.drew.setCells nb (k * 21) (okN (k : Int) gate (.slice (some ⟨tb, 0, none⟩) 1 1)).toList) := hbq.trans (Mw.puts _ _ _)
      refine hK.out _ _ mP (.inl ?_)
      clear hK K
      try simp only [putQ]
      refine mE ?_
      have g2 := own_puts (okN (k : Int) gate (.slice (some ⟨tb, 0, none⟩) 1 1)).toList (k * 21) wr.drew F h2
      have g1 : (wr.drew.setCells nb (k * 21) (okN (k : Int) gate (.slice (some ⟨tb, 0, none⟩) 1 1)).toList).heap[sc]? = some (.cells #[.slice (some ⟨nb, 0, none⟩) 8 8, vr, vs, vb'] 50 (0, 0)) := (mP.block sc (lt_of_block h1) snb).trans h1
      have g3 := own_mw h3 mP (fun x e q => own_apart h2 h3 (by decide) nb rfl (q ▸ e))
      have mU : Mw (fun b => b = sc ∨ b = nb ∨ vb.ownBlock = some b) w (wr.drew.setCells nb (k * 21) (okN (k : Int) gate (.slice (some ⟨tb, 0, none⟩) 1 1)).toList) := ((Mw.of_below b0).trans (h4.mono (fun x q => q.imp id .inr))).trans (mP.mono (fun x q => .inr (.inl q)))
      have g5 : vb'.ownBlock = vb.ownBlock ∨ ∃ x, vb'.ownBlock = some x ∧ w.heap.size ≤ x := h5.imp id (fun ⟨x, e, l⟩ => ⟨x, e, by have := b0.size; omega⟩)
      clear mP h1 h2 h3 h4 h5 e0 e1 er hth hbq
      generalize wr.drew.setCells nb (k * 21) (okN (k : Int) gate (.slice (some ⟨tb, 0, none⟩) 1 1)).toList = w9 at *
      go_wp2_with fail
      refine (send_any _ _).mono ?_
      rintro r w10 ⟨rfl, rfl⟩
      go_wp2
      go_end0
      exact ⟨rfl, vb', g1, g2, g3, mU, g5⟩
end Go.Proofs.YtlabilijnpkmgaaGreatDoor
