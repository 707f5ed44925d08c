/- A fact that is told first comes among those that were. -/
import Derived.Test.YtlabilijnpkmgaaGreatDoorWn2
import Derived.Test.YtlabilijnpkmgaaGreatDoorWm
namespace Go.Proofs.YtlabilijnpkmgaaGreatDoor
open Go.ChangeShapes Go.WideShapes Go.ChangeAt Go.RowKit
attribute [local go_sem ↓] Go.wp_at_zero Go.wp_at_succ
theorem heap_set {w : World} {b i : Nat} {c : Array Value} {t : TypeId} (v : Value) (h : w.heap[b]? = some (.cells c t (0, 0))) : (w.setCell ⟨b, i, none⟩ v).heap[b]? = some (.cells (c.setIfInBounds i v) t (0, 0)) := by
  simp [World.setCell, Array.getElem?_modify, h]
def s32_1 : List Stp := [⟨some 7, .move (.tmp 0), 46, none, 0⟩, ⟨some 8, .nilCheck (.tmp 7), 0, none, 0⟩, ⟨some 9, .fieldAddr 50 (.tmp 8) 3, 0, none, 0⟩, ⟨some 10, .load 25 (.tmp 9), 25, none, 0⟩, ⟨some 11, .load 45 (.tmp 3), 45, none, 0⟩, ⟨some 12, .call { callee := .value (.func 53), args := #[.tmp 10, .tmp 11, .func 54], argTypes := #[25, 45, 89] }, 87, none, 1⟩, ⟨some 6, .move (.tmp 12), 87, none, 0⟩, ⟨some 13, .extract (.tmp 6) 0, 3, none, 0⟩, ⟨some 14, .extract (.tmp 6) 1, 4, none, 0⟩, ⟨some 4, .assign (.tmp 13), 3, none, 0⟩, ⟨some 5, .assign (.tmp 14), 4, none, 0⟩]
def t32_1 : List (Nat × Nat) := [(0, 0), (1, 0), (2, 0), (3, 0), (4, 0), (5, 1), (6, 0), (7, 0), (8, 0), (9, 0), (10, 0)]
def sp32_3 : List Stp := [⟨some 17, .move (.tmp 0), 46, none, 0⟩, ⟨some 18, .move (.tmp 0), 46, none, 0⟩, ⟨some 19, .nilCheck (.tmp 18), 0, none, 0⟩, ⟨some 20, .fieldAddr 50 (.tmp 19) 3, 0, none, 0⟩, ⟨some 22, .move (.tmp 4), 3, none, 0⟩, ⟨some 23, .load 45 (.tmp 3), 45, none, 0⟩]
def tp32_3 : List (Nat × Nat) := [(0, 0), (1, 0), (2, 0), (3, 0), (5, 0), (6, 0)]
def sa32_3 : Stp := ⟨some 21, .load 25 (.tmp 20), 25, none, 1⟩
def sb32_3 : Stp := ⟨some 24, .buildSlice 25 1 #[(0, .tmp 23)], 25, none, 1⟩
def sr32_3 : List Stp := [⟨some 25, .call { callee := .value (.func 55), args := #[.tmp 21, .tmp 22, .tmp 24], argTypes := #[25, 3, 25] }, 25, none, 1⟩, ⟨some 26, .nilCheck (.tmp 17), 0, none, 0⟩, ⟨some 27, .fieldAddr 50 (.tmp 26) 3, 0, none, 0⟩, ⟨none, .store 25 (.tmp 27) (.tmp 25), 0, none, 1⟩]
set_option maxRecDepth 20000 in
set_option maxHeartbeats 4000000 in
theorem bear_any (base sc : Nat) (vn vr vs vb : Value) (T : List Fc) (f : Fc) (w : World) (hs : w.heap[sc]? = some (.cells #[vn, vr, vs, vb] 50 (0, 0))) (ho : w.ownsRow base 45 4 vb T.length (fl T)) (hb : base ≤ w.heap.size) (hT : T.length ≤ 8) (hlt : ∀ k, k < T.length → (T.getD k Fc.zero).n < f.n) :
    Calls Tryz.prog 32 #[.pointer (some ⟨sc, 0, none⟩), .agg #[.int .i64 f.n, .int .i64 f.i, .int .i64 f.s, .bool f.g]] w fun r w' => r = .returned (.tuple #[]) ∧ ∃ vb', w'.heap[sc]? = some (.cells #[vn, vr, vs, vb'] 50 (0, 0)) ∧ w'.ownsRow base 45 4 vb' (T.length + 1) (fl (T ++ [f])) ∧ Mw (fun b => b = sc ∨ vb.ownBlock = some b) w w' ∧ (vb'.ownBlock = vb.ownBlock ∨ ∃ x, vb'.ownBlock = some x ∧ w.heap.size ≤ x) := by
  have b0 := balloc (.cells #[.int .i64 f.n, .int .i64 f.i, .int .i64 f.s, .bool f.g] 45) (Below.refl w.heap.size w)
  have X := Ws.box (w := w) #[.int .i64 f.n, .int .i64 f.i, .int .i64 f.s, .bool f.g] 45
  have hlw : w.heap.size < (w.alloc (.cells #[.int .i64 f.n, .int .i64 f.i, .int .i64 f.s, .bool f.g] 45)).heap.size := by simp
  obtain ⟨ba, bc, hvb, _, _, hF0⟩ := own_facts ho
  have hob : ∀ x, vb.ownBlock = some x → x < w.heap.size := fun x e => (ho.lt x e).2
  have hF := hF0.below b0
  have hs0 : (w.alloc (.cells #[.int .i64 f.n, .int .i64 f.i, .int .i64 f.s, .bool f.g] 45)).heap[sc]? = some (.cells #[vn, vr, vs, vb] 50 (0, 0)) := (b0.block sc (lt_of_block hs)).trans hs
  have ho0 := own_below ho b0
  have hscw := lt_of_block hs
  clear hs ho hF0
  go_enter Tryz.func32, Tryz.ntmps32
  go_upto_region 1 with fail
  generalize w.alloc (.cells #[.int .i64 f.n, .int .i64 f.i, .int .i64 f.s, .bool f.g] 45) = u at *
  have hX := X.range
  have c3 := (Ws.new hs0).c 3 vb rfl
  obtain ⟨xb, hxb⟩ : ∃ x, Hid (w.heap.size = x) := ⟨_, rfl⟩
  rw [hxb.out] at hX hlw ⊢
  clear X
  rw [hvb] at c3
  have hvb' : Hid (vb = .slice ba T.length bc) := hvb
  clear hvb
  refine wp_region_q s32_1 t32_1 (fun hbq => ?_)
  iterate 3 refine qY ?_
  refine qL ?_
  refine qR ?_
  refine qC (fun K hK => ?_)
  go_simp
  refine (bsf_any ba T.length bc _ f _ (hF.below hbq) (by omega) hlt).mono ?_; rintro r v1 ⟨rfl, k1⟩
  go_wp2_with fail
  refine hK.out _ _ (btrans hbq k1) (.inl ?_)
  clear hK K
  replace hbq := btrans hbq k1
  clear k1
  try simp only [putQ]
  iterate 5 refine qY ?_
  refine qE ?_
  have hFin := hF.below hbq
  have hs1 : v1.heap[sc]? = some (.cells #[vn, vr, vs, vb] 50 (0, 0)) := (hbq.block sc (lt_of_block hs0)).trans hs0
  have ho1 := own_below ho0 hbq
  have hX1 := range_below' hX hbq
  have b1 := btrans b0 hbq
  have hl1 : xb < v1.heap.size := by have := hbq.size; omega
  clear hbq hX c3 hs0 ho0 b0 hlt hF hlw
  go_upto_region 3 with fail
  have d3 := (Ws.new hs1).c 3 vb rfl
  have dz := (Ws.new hs1).z 3
  have hXS : ¬ (xb = sc ∨ vb.ownBlock = some xb) := by
    have h1 : xb ≠ sc := by have := hxb.out; omega
    have h2 : vb.ownBlock ≠ some xb := fun e => by
      have := (ho1.lt xb e).2
      have h3 := hob xb e
      have := hxb.out
      omega
    exact fun q => q.elim h1 h2
  have kA0 := balloc (.cells #[.int .i64 f.n, .int .i64 f.i, .int .i64 f.s, .bool f.g] 45) (Below.refl v1.heap.size v1)
  have kA : Below v1.heap.size v1 (v1.alloc (.cells #[.int .i64 f.n, .int .i64 f.i, .int .i64 f.s, .bool f.g] 45)).drew := ⟨kA0.os, kA0.tape, kA0.output, kA0.size, kA0.block⟩
  clear kA0
  have hG0 := Ws.box (w := v1) #[.int .i64 f.n, .int .i64 f.i, .int .i64 f.s, .bool f.g] 45
  have hG : Ws (v1.alloc (.cells #[.int .i64 f.n, .int .i64 f.i, .int .i64 f.s, .bool f.g] 45)).drew v1.heap.size #[.int .i64 f.n, .int .i64 f.i, .int .i64 f.s, .bool f.g].toList := ⟨hG0.lt, hG0.c, hG0.z⟩
  clear hG0
  have d3A : (v1.alloc (.cells #[.int .i64 f.n, .int .i64 f.i, .int .i64 f.s, .bool f.g] 45)).drew.cell? ⟨sc, 3, none⟩ = some vb := keep_below kA d3
  have hoA := own_below ho1 kA
  have hsA : (v1.alloc (.cells #[.int .i64 f.n, .int .i64 f.i, .int .i64 f.s, .bool f.g] 45)).drew.heap[sc]? = some (.cells #[vn, vr, vs, vb] 50 (0, 0)) := (kA.block sc (lt_of_block hs1)).trans hs1
  have hbA : base ≤ (v1.alloc (.cells #[.int .i64 f.n, .int .i64 f.i, .int .i64 f.s, .bool f.g] 45)).drew.heap.size := by have := kA.size; have := b1.size; omega
  have hins := ins_any base v1.heap.size vb T f (v1.alloc (.cells #[.int .i64 f.n, .int .i64 f.i, .int .i64 f.s, .bool f.g] 45)).drew hoA hG hbA (by omega)
  have hfin : ∀ v' w2, w2.ownsRow base 45 4 v' (T.length + 1) (fl (T ++ [f])) → (v1.alloc (.cells #[.int .i64 f.n, .int .i64 f.i, .int .i64 f.s, .bool f.g] 45)).drew.grownBy w2 vb.ownBlock → (v'.ownBlock = vb.ownBlock ∨ v'.ownBlock = some (v1.alloc (.cells #[.int .i64 f.n, .int .i64 f.i, .int .i64 f.s, .bool f.g] 45)).drew.heap.size) → vb.ownBlock ≠ some sc → (∃ vb', (w2.setCell ⟨sc, 3, none⟩ v').heap[sc]? = some (.cells #[vn, vr, vs, vb'] 50 (0, 0)) ∧ (w2.setCell ⟨sc, 3, none⟩ v').ownsRow base 45 4 vb' (T.length + 1) (fl (T ++ [f])) ∧ Mw (fun b => b = sc ∨ vb.ownBlock = some b) w (w2.setCell ⟨sc, 3, none⟩ v') ∧ (vb'.ownBlock = vb.ownBlock ∨ ∃ x, vb'.ownBlock = some x ∧ w.heap.size ≤ x)) := fun v' w2 h1 h2 h3 h4 => by
    have hs2 : w2.heap[sc]? = some (.cells #[vn, vr, vs, vb] 50 (0, 0)) := (h2.block sc (lt_of_block hsA) (fun e => h4 e.symm)).trans hsA
    have hv : v'.ownBlock ≠ some sc := own_box h1 hs2 (by decide)
    refine ⟨v', heap_set v' hs2, h1.kept (row := some sc) ⟨rfl, rfl, rfl, by simp [World.setCell], fun k _ hk => Below.heap_setCell _ _ _ _ (fun e => hk (by simp [e]))⟩ (.inr hv), ?_, ?_⟩
    · have m1 : Mw (fun b => b = sc ∨ vb.ownBlock = some b) w v1 := Mw.of_below b1
      have m2 : Mw (fun b => b = sc ∨ vb.ownBlock = some b) w (v1.alloc (.cells #[.int .i64 f.n, .int .i64 f.i, .int .i64 f.s, .bool f.g] 45)).drew := m1.trans (Mw.of_below kA)
      exact (m2.trans (Mw.grown h2 (fun k e => .inr e))).set (.inl rfl)
    · rcases h3 with e | e
      · exact .inl e
      · exact .inr ⟨_, e, by have := kA.size; have := b1.size; omega⟩
  have hvs : vb.ownBlock ≠ some sc := own_box hoA hsA (by decide)
  have hfin' : Hid _ := hfin
  have hins' : Hid _ := hins
  clear hfin hins
  refine wp_region_wf (fun b => b = sc ∨ vb.ownBlock = some b) sp32_3 tp32_3 (i := 4) (j := 7) (si := sa32_3) (sj := sb32_3) (r1 := [(7, 1), (8, 1), (9, 0), (10, 0), (11, 1)]) (r2 := [(4, 1), (8, 1), (9, 0), (10, 0), (11, 1)]) (L1 := sb32_3 :: sr32_3) (L2 := sa32_3 :: sr32_3) (fun hbq => ?_)
  iterate 5 refine mY ?_
  refine mR (hS := hXS) ?_
  refine mE ⟨?_, ?_⟩
  · refine mC (fun K hK => ?_)
    go_simp
    refine hK.out _ _ hbq (.inl ?_)
    clear hK K
    try simp only [putQ]
    refine mC (fun K hK => ?_)
    go_simp
    refine hK.out _ _ (Mw.of_below kA) (.inl ?_)
    clear hK K
    try simp only [putQ]
    refine mC (fun K hK => ?_)
    go_simp
    refine Calls.mono hins'.out ?_
    rintro r w2 ⟨v', rfl, h1, h2, h3⟩
    obtain ⟨za, zc, rfl, _⟩ := own_slice h1
    have fin := hfin'.out _ w2 h1 h2 h3 hvs
    have hs2 : w2.heap[sc]? = some (.cells #[vn, vr, vs, vb] 50 (0, 0)) := (h2.block sc (lt_of_block hsA) (fun e => hvs e.symm)).trans hsA
    have m2 : Mw (fun b => b = sc ∨ vb.ownBlock = some b) v1 w2 := (Mw.of_below kA).trans (Mw.grown h2 (fun k e => .inr e))
    go_wp2_with fail
    refine hK.out _ _ m2 (.inl ?_)
    clear hK K h1 h2 h3 hins' hfin'
    try simp only [putQ]
    iterate 2 refine mY ?_
    have f3 := (Ws.new hs2).c 3 vb rfl
    have z3 := (Ws.new hs2).z 3
    refine mC (fun K hK => ?_)
    go_simp
    refine hK.out _ _ (m2.set (.inl rfl)) (.inl ?_)
    clear hK K f3 z3 hs2
    try simp only [putQ]
    refine mE ?_
    generalize w2.setCell ⟨sc, 3, none⟩ (.slice za (T.length + 1) zc) = w3 at *
    go_wp2
    go_end0
    exact ⟨rfl, fin⟩
  · refine mC (fun K hK => ?_)
    go_simp
    refine hK.out _ _ (Mw.of_below kA) (.inl ?_)
    clear hK K
    try simp only [putQ]
    refine mC (fun K hK => ?_)
    go_simp
    refine hK.out _ _ (Mw.of_below kA) (.inl ?_)
    clear hK K
    try simp only [putQ]
    refine mC (fun K hK => ?_)
    go_simp
    refine Calls.mono hins'.out ?_
    rintro r w2 ⟨v', rfl, h1, h2, h3⟩
    obtain ⟨za, zc, rfl, _⟩ := own_slice h1
    have fin := hfin'.out _ w2 h1 h2 h3 hvs
    have hs2 : w2.heap[sc]? = some (.cells #[vn, vr, vs, vb] 50 (0, 0)) := (h2.block sc (lt_of_block hsA) (fun e => hvs e.symm)).trans hsA
    have m2 : Mw (fun b => b = sc ∨ vb.ownBlock = some b) v1 w2 := (Mw.of_below kA).trans (Mw.grown h2 (fun k e => .inr e))
    go_wp2_with fail
    refine hK.out _ _ m2 (.inl ?_)
    clear hK K h1 h2 h3 hins' hfin'
    try simp only [putQ]
    iterate 2 refine mY ?_
    have f3 := (Ws.new hs2).c 3 vb rfl
    have z3 := (Ws.new hs2).z 3
    refine mC (fun K hK => ?_)
    go_simp
    refine hK.out _ _ (m2.set (.inl rfl)) (.inl ?_)
    clear hK K f3 z3 hs2
    try simp only [putQ]
    refine mE ?_
    generalize w2.setCell ⟨sc, 3, none⟩ (.slice za (T.length + 1) zc) = w3 at *
    go_wp2
    go_end0
    exact ⟨rfl, fin⟩
end Go.Proofs.YtlabilijnpkmgaaGreatDoor
