/- New worlds compared. -/
import Derived.Test.YtlabilijnpkmgaaGreatDoorWn7
namespace Go.Proofs.YtlabilijnpkmgaaGreatDoor
open Go.ChangeShapes Go.WideShapes Go.ChangeAt Go.RowKit
attribute [local go_sem ↓] Go.wp_at_zero Go.wp_at_succ
/-- eight new nodes that can be read -/
def NRd (w : World) (g : Nat) (tb : Nat → Nat) : Prop := g < w.heap.size ∧ ∀ i, i < 8 → w.rangeAt g (i * 21) (okN (i : Int) (gtB i) (.slice (some ⟨tb i, 0, none⟩) 1 1)).toList ∧ Row1 w (tb i) (i : Int) 0 1 (gtB i)
theorem NRd.below {w w' : World} {g : Nat} {tb : Nat → Nat} (h : NRd w g tb) (k : Below w.heap.size w w') : NRd w' g tb :=
  ⟨Nat.lt_of_lt_of_le h.1 k.size, fun i hi => ⟨fun j v hv => (k.cell (p := ⟨g, i * 21 + j, none⟩) h.1).trans ((h.2 i hi).1 j v hv), (h.2 i hi).2.below k⟩⟩
theorem NwI.rd {w : World} {base sc nb sb rb : Nat} {tb : Nat → Nat} {vb : Value} (h : NwI w base sc nb sb rb tb vb 8) : NRd w nb tb :=
  ⟨(h.n.lt nb rfl).2, fun i hi => ⟨fun j v hj => by
    have hj21 : j < 21 := (List.getElem?_eq_some_iff.1 hj).1
    have e1 : (i * 21 + j) / 21 = i := by omega
    have e2 : (i * 21 + j) % 21 = j := by omega
    have := own_at h.n (j := i * 21 + j) (by omega)
    rw [this]
    unfold nF
    rw [if_pos (by omega), e1, e2, List.getD_eq_getElem?_getD, hj]
    rfl, (h.t i hi).1⟩⟩
theorem SwI.rd {w : World} {base wb : Nat} {tb : Nat → Nat} {vn vs vb : Value} (h : SwI w base wb tb vn vs vb 8) : ∃ g c, vn = .slice (some ⟨g, 0, none⟩) 8 c ∧ NRd w g tb := by
  rcases own_cases h.n with ⟨_, e⟩ | ⟨g, c, rfl, hg, hl, _⟩
  · omega
  · refine ⟨g, c, rfl, hl, fun i hi => ⟨fun j v hj => ?_, (h.t i hi).1⟩⟩
    have hj21 : j < 21 := (List.getElem?_eq_some_iff.1 hj).1
    have e1 : (i * 21 + j) / 21 = i := by omega
    have e2 : (i * 21 + j) % 21 = j := by omega
    have := own_at h.n (j := i * 21 + j) (by omega)
    rw [this]
    unfold nG
    rw [e1, e2, List.getD_eq_getElem?_getD, hj]
    rfl
def s16_6 : List Stp := [⟨some 17, .move (.tmp 0), 22, none, 0⟩, ⟨some 18, .move (.tmp 5), 3, none, 0⟩, ⟨some 19, .indexAddr 22 (.tmp 17) (.tmp 18), 0, none, 0⟩, ⟨some 20, .load 41 (.tmp 19), 41, none, 0⟩, ⟨some 21, .move (.tmp 1), 22, none, 0⟩, ⟨some 22, .move (.tmp 5), 3, none, 0⟩, ⟨some 23, .indexAddr 22 (.tmp 21) (.tmp 22), 0, none, 0⟩, ⟨some 24, .load 41 (.tmp 23), 41, none, 0⟩, ⟨some 25, .call { callee := .value (.func 39), args := #[.tmp 20, .tmp 24], argTypes := #[41, 41] }, 4, none, 1⟩, ⟨some 26, .unOp .not 4 (.tmp 25), 4, none, 0⟩]
def t16_6 : List (Nat × Nat) := [(0, 0), (1, 0), (2, 0), (3, 0), (4, 0), (5, 0), (6, 0), (7, 0), (8, 1), (9, 0)]
set_option maxRecDepth 20000 in
set_option maxHeartbeats 4000000 in
theorem eqNodeS_any (g g' c c' : Nat) (tb tb' : Nat → Nat) (w : World) (h : NRd w g tb) (h' : NRd w g' tb') :
    Calls Tryz.prog 16 #[.slice (some ⟨g, 0, none⟩) 8 c, .slice (some ⟨g', 0, none⟩) 8 c'] w fun r w' => r = .returned (.bool true) ∧ Below w.heap.size w w' := by
  go_enter Tryz.func16, Tryz.ntmps16
  go_wp2
  go_loopw [5] (fun i wr => ∃ k : Nat, k ≤ 8 ∧ i = .int .i64 k ∧ Below w.heap.size w wr) (fun i _ => 8 - (intOf i).toNat)
  case atStart => exact ⟨0, Nat.zero_le _, rfl, Below.refl _ _⟩
  case round =>
    obtain ⟨k, hk, rfl, hb⟩ := hrel
    by_cases hlt : k < 8
    · have i0 : (0 : Int) ≤ (k : Int) := by omega
      have i1 : (k : Int) < (8 : Int) := by omega
      obtain ⟨r2, hk2⟩ := (h.below hb).2 k hlt
      obtain ⟨r3, hk3⟩ := (h'.below hb).2 k hlt
      go_upto_region 6 with fail
      refine wp_region_q s16_6 t16_6 (fun hbq => ?_)
      iterate 3 refine qY ?_
      refine qR ?_
      iterate 3 refine qY ?_
      refine qR ?_
      refine qC (fun K hK => ?_)
      go_simp
      refine (eqNode_same _ _ _ _ _ _ _ _ _ _ _ _ _ _ _ _ _ _ 1 1 1 (fun _ => ⟨(k : Int), 0, 1, gtB k⟩) _ ((hk2.below hbq).fsl) ((hk3.below hbq).fsl) (by omega)).mono ?_; rintro r v1 ⟨rfl, k1⟩
      go_wp2_with fail
      refine hK.out _ _ (btrans hbq k1) (.inl ?_)
      clear hK K
      replace hbq := btrans hbq k1
      clear k1
      try simp only [putQ]
      refine qY ?_
      refine qE ?_
      go_wp2
      go_roundw
      case rel => exact ⟨k + 1, by omega, by go_num, btrans hb hbq⟩
      case measure => simp [intOf]; omega
    · go_wp2
      go_ret
      exact ⟨rfl, hb⟩
theorem eqFlightS_nil (w : World) : Calls Tryz.prog 17 #[.slice none 0 0, .slice none 0 0] w fun r w' => r = .returned (.bool true) ∧ w' = w := by
  go_enter Tryz.func17, Tryz.ntmps17
  go_wp2
  refine wp_loop_rounds 1 ?_
  rw [rounds_succ]
  go_wp2
  go_ret
  exact ⟨rfl, rfl⟩
set_option maxRecDepth 20000 in
set_option maxHeartbeats 4000000 in
theorem eqWorld_any (g g' c c' : Nat) (tb tb' : Nat → Nat) (sa sa' ba ba' : Option Addr) (sc sc' bc bc' : Nat) (F : Nat → Fc) (w : World) (h : NRd w g tb) (h' : NRd w g' tb') (hs : ISl w sa 8 (fun _ => 0)) (hs' : ISl w sa' 8 (fun _ => 0)) (hb : FSl w ba 8 F) (hb' : FSl w ba' 8 F) :
    Calls Tryz.prog 6 #[.agg #[.slice (some ⟨g, 0, none⟩) 8 c, .slice none 0 0, .slice sa 8 sc, .slice ba 8 bc], .agg #[.slice (some ⟨g', 0, none⟩) 8 c', .slice none 0 0, .slice sa' 8 sc', .slice ba' 8 bc']] w fun r w' => r = .returned (.bool true) ∧ Below w.heap.size w w' := by
  go_enter Tryz.func6, Tryz.ntmps6
  go_wp2_with fail
  have b0 := balloc (.cells #[.slice (some ⟨g', 0, none⟩) 8 c', .slice none 0 0, .slice sa' 8 sc', .slice ba' 8 bc'] 27) (balloc (.cells #[.slice (some ⟨g, 0, none⟩) 8 c, .slice none 0 0, .slice sa 8 sc, .slice ba 8 bc] 27) (Below.refl w.heap.size w))
  have X := Ws.new (heap_alloc_old (w.alloc (.cells #[.slice (some ⟨g, 0, none⟩) 8 c, .slice none 0 0, .slice sa 8 sc, .slice ba 8 bc] 27)) (.cells #[.slice (some ⟨g', 0, none⟩) 8 c', .slice none 0 0, .slice sa' 8 sc', .slice ba' 8 bc'] 27) (by simp) |>.trans (heap_alloc_new w (.cells #[.slice (some ⟨g, 0, none⟩) 8 c, .slice none 0 0, .slice sa 8 sc, .slice ba 8 bc] 27)))
  have Y := Ws.new (heap_alloc_new (w.alloc (.cells #[.slice (some ⟨g, 0, none⟩) 8 c, .slice none 0 0, .slice sa 8 sc, .slice ba 8 bc] 27)) (.cells #[.slice (some ⟨g', 0, none⟩) 8 c', .slice none 0 0, .slice sa' 8 sc', .slice ba' 8 bc'] 27))
  rw [show (w.alloc (.cells #[.slice (some ⟨g, 0, none⟩) 8 c, .slice none 0 0, .slice sa 8 sc, .slice ba 8 bc] 27)).heap.size = w.heap.size + 1 by simp] at Y
  generalize (w.alloc (.cells #[.slice (some ⟨g, 0, none⟩) 8 c, .slice none 0 0, .slice sa 8 sc, .slice ba 8 bc] 27)).alloc (.cells #[.slice (some ⟨g', 0, none⟩) 8 c', .slice none 0 0, .slice sa' 8 sc', .slice ba' 8 bc'] 27) = u at *
  have h0 := h.below b0
  have h0' := h'.below b0
  have c0 := X.c 0 _ rfl
  have d0 := Y.c 0 _ rfl
  have hd : ∀ v, Below u.heap.size u v → (v.cell? ⟨w.heap.size, 1, none⟩ = some (.slice none 0 0) ∧ v.cell? ⟨w.heap.size, 2, none⟩ = some (.slice sa 8 sc) ∧ v.cell? ⟨w.heap.size, 3, none⟩ = some (.slice ba 8 bc)) ∧ (v.cell? ⟨w.heap.size + 1, 1, none⟩ = some (.slice none 0 0) ∧ v.cell? ⟨w.heap.size + 1, 2, none⟩ = some (.slice sa' 8 sc') ∧ v.cell? ⟨w.heap.size + 1, 3, none⟩ = some (.slice ba' 8 bc')) := fun v k =>
    ⟨⟨keep_below k (X.c 1 _ rfl), keep_below k (X.c 2 _ rfl), keep_below k (X.c 3 _ rfl)⟩, keep_below k (Y.c 1 _ rfl), keep_below k (Y.c 2 _ rfl), keep_below k (Y.c 3 _ rfl)⟩
  have hd' : Hid _ := hd
  clear hd X Y
  go_wp2_with fail
  refine (eqNodeS_any g g' c c' tb tb' _ h0 h0').mono ?_
  rintro r u1 ⟨rfl, k1⟩
  clear c0 d0 h0 h0'
  obtain ⟨⟨c1, c2, _⟩, d1, d2, _⟩ := hd'.out u1 k1
  go_wp2_with fail
  refine (eqFlightS_nil _).mono ?_
  rintro r u2 ⟨rfl, rfl⟩
  go_wp2_with fail
  have hsu := (hs.below b0).below k1
  have hsu' := (hs'.below b0).below k1
  refine (eqInts_same sa sa' 8 sc sc' (fun _ => 0) _ hsu hsu' (by omega)).mono ?_
  rintro r u3 ⟨rfl, k3⟩
  have k13 := btrans k1 k3
  obtain ⟨⟨_, _, c3⟩, _, _, d3⟩ := hd'.out u3 k13
  clear c1 c2 d1 d2 hsu hsu'
  go_wp2_with fail
  refine (eqFactS_same ba ba' 8 bc bc' F _ ((hb.below b0).below k13) ((hb'.below b0).below k13) (by omega)).mono ?_
  rintro r u4 ⟨rfl, k4⟩
  go_wp2
  go_ret
  exact ⟨rfl, btrans (btrans b0 k13) k4⟩
end Go.Proofs.YtlabilijnpkmgaaGreatDoor
