/- Where a fact goes that is told first. -/
import Derived.Test.YtlabilijnpkmgaaGreatDoorWn1
namespace Go.Proofs.YtlabilijnpkmgaaGreatDoor
open Go.ChangeShapes Go.WideShapes Go.ChangeAt Go.RowKit
attribute [local go_sem ↓] Go.wp_at_zero Go.wp_at_succ
theorem fcmp_lt {e f : Fc} (h : e.n < f.n) : fcmp e.n e.i e.s e.g f.n f.i f.s f.g = -1 := by
  unfold fcmp overB icmp
  rw [if_neg (by simp; omega), if_neg (by simp; omega), if_pos h]
def s53_5 : List Stp := [⟨some 24, .move (.tmp 2), 89, none, 0⟩, ⟨some 25, .move (.tmp 0), 25, none, 0⟩, ⟨some 26, .move (.tmp 11), 3, none, 0⟩, ⟨some 27, .indexAddr 25 (.tmp 25) (.tmp 26), 0, none, 0⟩, ⟨some 28, .load 45 (.tmp 27), 45, none, 0⟩, ⟨some 29, .load 45 (.tmp 4), 45, none, 0⟩, ⟨some 30, .call { callee := .value (.tmp 24), args := #[.tmp 28, .tmp 29], argTypes := #[45, 45] }, 3, none, 1⟩, ⟨some 31, .binOp .lss 3 (.tmp 30) (.const (.int .i64 0)) 3, 4, none, 2⟩]
def t53_5 : List (Nat × Nat) := [(0, 0), (1, 0), (2, 0), (3, 0), (4, 0), (5, 0), (6, 1), (7, 2)]
def s53_8 : List Stp := [⟨some 35, .move (.tmp 9), 3, none, 0⟩, ⟨some 36, .move (.tmp 9), 3, none, 0⟩, ⟨some 37, .move (.tmp 8), 3, none, 0⟩, ⟨some 38, .binOp .lss 3 (.tmp 36) (.tmp 37) 3, 4, none, 2⟩, ⟨some 39, .move (.tmp 38), 4, none, 0⟩, ⟨some 40, .move (.tmp 2), 89, some (39, true), 0⟩, ⟨some 41, .move (.tmp 0), 25, some (39, true), 0⟩, ⟨some 42, .move (.tmp 9), 3, some (39, true), 0⟩, ⟨some 43, .indexAddr 25 (.tmp 41) (.tmp 42), 0, some (39, true), 0⟩, ⟨some 44, .load 45 (.tmp 43), 45, some (39, true), 0⟩, ⟨some 45, .load 45 (.tmp 4), 45, some (39, true), 0⟩, ⟨some 46, .call { callee := .value (.tmp 40), args := #[.tmp 44, .tmp 45], argTypes := #[45, 45] }, 3, some (39, true), 1⟩, ⟨some 47, .binOp .eql 3 (.tmp 46) (.const (.int .i64 0)) 3, 4, some (39, true), 0⟩, ⟨some 48, .pick (.tmp 39) (.tmp 47) (.const (.bool false)), 4, none, 0⟩, ⟨some 6, .assign (.tmp 35), 3, none, 0⟩, ⟨some 7, .assign (.tmp 48), 4, none, 0⟩]
def t53_8 : List (Nat × Nat) := [(0, 0), (1, 0), (2, 0), (3, 2), (4, 0), (5, 0), (6, 0), (7, 0), (8, 0), (9, 0), (10, 0), (11, 1), (12, 0), (13, 0), (14, 0), (15, 0)]
set_option maxRecDepth 20000 in
set_option maxHeartbeats 4000000 in
theorem bsf_any (a : Option Addr) (len cap : Nat) (F : Nat → Fc) (f : Fc) (w : World) (h : FSl w a len F) (hl : len ≤ 1048576) (hlt : ∀ k, k < len → (F k).n < f.n) :
    Calls Tryz.prog 53 #[.slice a len cap, .agg #[.int .i64 f.n, .int .i64 f.i, .int .i64 f.s, .bool f.g], .func (.func 54) #[] #[]] w fun r w' => r = .returned (.tuple #[.int .i64 (len : Int), .bool false]) ∧ Below w.heap.size w w' := by
  have b0 := balloc (.cells #[.int .i64 f.n, .int .i64 f.i, .int .i64 f.s, .bool f.g] 45) (Below.refl w.heap.size w)
  have X := Ws.box (w := w) #[.int .i64 f.n, .int .i64 f.i, .int .i64 f.s, .bool f.g] 45
  have hlt' : Hid (∀ k, k < len → (F k).n < f.n) := hlt
  clear hlt
  go_enter Tryz.func53, Tryz.ntmps53
  go_upto_region 1 with fail
  generalize w.alloc (.cells #[.int .i64 f.n, .int .i64 f.i, .int .i64 f.s, .bool f.g] 45) = u at *
  have h0 := h.below b0
  have hX := X.range
  clear X h
  go_wp2
  go_loopw [9, 10, 11] (fun i j _ wr => ∃ k : Nat, k ≤ len ∧ i = .int .i64 k ∧ j = .int .i64 len ∧ Below u.heap.size u wr) (fun i _ _ _ => len - (intOf i).toNat)
  case atStart => exact ⟨0, Nat.zero_le _, rfl, rfl, Below.refl _ _⟩
  case round =>
    obtain ⟨k, hk, rfl, rfl, hb⟩ := hrel
    by_cases hkl : k < len
    · have i1 : (k : Int) < (len : Int) := by omega
      obtain ⟨m, hm, hm1, hm2⟩ : ∃ m : Nat, Hid (((k : Int) + (len : Int)) / 2 = (m : Int)) ∧ k ≤ m ∧ m < len := ⟨(k + len) / 2, by unfold Hid; omega, by omega, by omega⟩
      obtain ⟨b, off, ha, _, hf⟩ := (h0.below hb) (by omega)
      obtain ⟨c0, c1, c2, c3⟩ := hf m hm2
      have hcm : Hid (fcmp (F m).n (F m).i (F m).s (F m).g f.n f.i f.s f.g = -1) := fcmp_lt (hlt'.out m hm2)
      generalize F m = x at *
      have hrc := range4 c0 c1 c2 c3
      have hrx := range_below' hX hb
      have j0 : (0 : Int) ≤ (m : Int) := by omega
      have j1 : (m : Int) < (len : Int) := by omega
      clear hf c0 c1 c2 c3
      rw [ha]
      go_upto_region 5 with fail
      rw [hm.out]
      refine wp_region_q s53_5 t53_5 (fun hbq => ?_)
      iterate 4 refine qY ?_
      iterate 2 refine qR ?_
      refine qC (fun K hK => ?_)
      go_simp
      refine (fcmp_any x.n x.i x.s x.g f.n f.i f.s f.g _).mono ?_; rw [hcm.out]; rintro r v1 ⟨rfl, k1⟩
      go_wp2_with fail
      refine hK.out _ _ (btrans hbq k1) (.inl ?_)
      clear hK K
      replace hbq := btrans hbq k1
      clear k1
      try simp only [putQ]
      refine qV (.bool true) ?_
      refine qE ?_
      have hb1 := btrans hb hbq
      clear hbq hrc hrx
      go_wp2
      go_roundw
      case rel => exact ⟨m + 1, by omega, by go_num, rfl, hb1⟩
      case measure => simp [intOf]; omega
    · obtain rfl : k = len := by omega
      have i1 : ¬ ((k : Int) < (k : Int)) := by omega
      go_upto_region 8 with fail
      refine wp_region_q s53_8 t53_8 (fun hbq => ?_)
      iterate 3 refine qY ?_
      refine qV (.bool false) ?_
      refine qY ?_
      iterate 8 refine qN ?_
      iterate 3 refine qY ?_
      refine qE ?_
      have hb1 := btrans b0 (btrans hb hbq)
      clear hbq
      go_wp2
      try simp only [Exit.inBlock, Exit.then]
      exact bodyPost_ret (v := .tuple #[.int .i64 (k : Int), .bool false]) (by simp [results, Tryz.results53, go_sem]) rfl ⟨rfl, hb1⟩
set_option maxRecDepth 20000 in
set_option maxHeartbeats 4000000 in
theorem ins_any (base g : Nat) (v : Value) (T : List Fc) (f : Fc) (w : World) (ho : w.ownsRow base 45 4 v T.length (fl T)) (hg : Ws w g #[.int .i64 f.n, .int .i64 f.i, .int .i64 f.s, .bool f.g].toList) (hb : base ≤ w.heap.size) (hT : T.length ≤ 1048576) :
    Calls Tryz.prog 55 #[v, .int .i64 (T.length : Int), .slice (some ⟨g, 0, none⟩) 1 1] w fun r w' => ∃ v', r = .returned v' ∧ w'.ownsRow base 45 4 v' (T.length + 1) (fl (T ++ [f])) ∧ w.grownBy w' v.ownBlock ∧ (v'.ownBlock = v.ownBlock ∨ v'.ownBlock = some w.heap.size) := by
  obtain ⟨ti, hi, hz0, hz1, hz2⟩ := info_parts info24
  have hcells : ∀ j u, (fl [f])[j]? = some u → w.cell? ((⟨g, 0, none⟩ : Addr).add j) = some u := fun j u hj => by
    have := hg.c j u (by simpa [fl] using hj)
    have e : (⟨g, 0, none⟩ : Addr).add j = ⟨g, j, none⟩ := by cases j <;> simp [Addr.add]
    rw [e]
    exact this
  have hfl : Hid (fl (T ++ [f]) = fl T ++ fl [f]) := fl_append T [f]
  have hone : ∀ u ∈ fl [f], u.oneCell' = true := fl_one
  have hlen : (fl [f]).length = 1 * 4 := by simp [fl]
  rw [hfl.out]
  have hcs := own_sliceF ho
  generalize fl [f] = NF at *
  generalize fl T = XT at *
  generalize T.length = n at *
  clear hg hfl
  rcases hcs with ⟨rfl, rfl⟩ | ⟨q, cap, rfl, hq, hq2, hcap⟩
  · go_enter Tryz.func55, Tryz.ntmps55
    go_wp2_with (at_builtin; refine wpList_append_own_at _ rfl _ _ 25 rfl base 45 ti (fval Fc.zero) 4 32 Tryz.underlying25 hi hz0 hz1 hz2 rfl (by decide) _ _ _ rfl ho ⟨g, 0, none⟩ 1 1 NF rfl hlen hcells hone (by unfold maxLen; omega) (by omega) hb ?_)
    all_goals (intro v' w2 hown' hgrow _ hat; go_wp2; go_ret; exact ⟨_, rfl, hown', hgrow, hat⟩)
  · have e1 : ((n : Int) == (n : Int)) = true := by simp
    have i0 : (0 : Int) ≤ (n : Int) := by omega
    have i1 : (n : Int) ≤ (cap : Int) := by omega
    go_enter Tryz.func55, Tryz.ntmps55
    go_wp2_with (at_builtin; refine wpList_append_own_at _ rfl _ _ 25 rfl base 45 ti (fval Fc.zero) 4 32 Tryz.underlying25 hi hz0 hz1 hz2 rfl (by decide) _ _ _ rfl ho ⟨g, 0, none⟩ 1 1 NF rfl hlen hcells hone (by unfold maxLen; omega) (by omega) hb ?_)
    all_goals (intro v' w2 hown' hgrow _ hat; go_wp2; go_ret; exact ⟨_, rfl, hown', hgrow, hat⟩)
end Go.Proofs.YtlabilijnpkmgaaGreatDoor
