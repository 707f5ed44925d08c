/- WorldSafe: the program and the model. -/
import Derived.Test.YthekjfdggfbelaaGreatSfb
import Derived.Test.YthekjfdggfbelaaGreatWy
namespace Go.Proofs.YthekjfdggfbelaaGreat
open Go.ChangeShapes Go.WideShapes Go.ChangeAt Go.RowKit
attribute [local go_sem ↓] Go.wp_at_zero Go.wp_at_succ
/-- a world is safe -/
def safB (nl : Nat) (nd : Nat → Nod) (rl : Nat) (FR : Nat → Ft) (sl : Nat) (SD : Nat → Int) (bl : Nat) (BF : Nat → Fc) : Bool :=
  wldB nl nd rl FR sl SD bl BF && knA bl BF nl nd && foA bl BF bl BF
def s11_1 : List Stp := [⟨some 3, .load 34 (.tmp 1), 34, none, 0⟩, ⟨some 4, .call { callee := .value (.func 8), args := #[.tmp 3], argTypes := #[34] }, 4, none, 1⟩, ⟨some 5, .move (.tmp 4), 4, none, 0⟩, ⟨some 6, .fieldAddr 34 (.tmp 1) 0, 0, some (5, true), 0⟩, ⟨some 7, .load 30 (.tmp 6), 30, some (5, true), 0⟩, ⟨some 8, .load 34 (.tmp 1), 34, some (5, true), 0⟩, ⟨some 9, .makeFunc (.func 36) #[.tmp 8] #[], 53, some (5, true), 0⟩, ⟨some 10, .call { callee := .value (.func 35), args := #[.tmp 7, .tmp 9], argTypes := #[30, 53] }, 4, some (5, true), 1⟩, ⟨some 11, .pick (.tmp 5) (.tmp 10) (.const (.bool false)), 4, none, 0⟩, ⟨some 12, .move (.tmp 11), 4, none, 0⟩, ⟨some 13, .fieldAddr 34 (.tmp 1) 3, 0, some (12, true), 0⟩, ⟨some 14, .load 32 (.tmp 13), 32, some (12, true), 0⟩, ⟨some 15, .load 34 (.tmp 1), 34, some (12, true), 0⟩, ⟨some 16, .makeFunc (.func 38) #[.tmp 15] #[], 57, some (12, true), 0⟩, ⟨some 17, .call { callee := .value (.func 37), args := #[.tmp 14, .tmp 16], argTypes := #[32, 57] }, 4, some (12, true), 1⟩, ⟨some 18, .pick (.tmp 12) (.tmp 17) (.const (.bool false)), 4, none, 0⟩, ⟨some 2, .assign (.tmp 18), 4, none, 0⟩]
def t11_1 : List (Nat × Nat) := [(0, 0), (1, 1), (2, 0), (3, 0), (4, 0), (5, 0), (6, 0), (7, 1), (8, 0), (9, 0), (10, 0), (11, 0), (12, 0), (13, 0), (14, 1), (15, 0), (16, 0)]
set_option maxRecDepth 20000 in
set_option maxHeartbeats 4000000 in
theorem safI_any (na : Option Addr) (nl nc : Nat) (ra : Option Addr) (rl rc : Nat) (sa : Option Addr) (sl sc : Nat) (ba : Option Addr) (bl bc : Nat) (nd : Nat → Nod) (FR : Nat → Ft) (SD : Nat → Int) (BF : Nat → Fc) (w : World) (h : WdR w na nl ra rl sa sl ba bl nd FR SD BF) :
    Calls Tryz.prog 11 #[.agg #[.slice na nl nc, .slice ra rl rc, .slice sa sl sc, .slice ba bl bc]] w fun e w' => e = .returned (.bool (safB nl nd rl FR sl SD bl BF)) ∧ Below w.heap.size w w' := by
  have b0 := balloc (.cells #[.slice na nl nc, .slice ra rl rc, .slice sa sl sc, .slice ba bl bc] 34) (Below.refl w.heap.size w)
  have X := Ws.box (w := w) #[.slice na nl nc, .slice ra rl rc, .slice sa sl sc, .slice ba bl bc] 34
  have h0 := h.below b0
  have hS : Hid (safB nl nd rl FR sl SD bl BF = (wldB nl nd rl FR sl SD bl BF && knA bl BF nl nd && foA bl BF bl BF)) := rfl
  rw [hS.out]
  clear hS h
  go_enter Tryz.func11, Tryz.ntmps11
  go_upto_region 1 with fail
  generalize w.alloc (.cells #[.slice na nl nc, .slice ra rl rc, .slice sa sl sc, .slice ba bl bc] 34) = u at *
  have hX := X.range
  have e0 := X.c 0 (.slice na nl nc) rfl
  have e3 := X.c 3 (.slice ba bl bc) rfl
  clear X
  have c8 : ∀ q, wldB nl nd rl FR sl SD bl BF = q → ∀ w1, Below u.heap.size u w1 → Calls Tryz.prog 8 #[.agg #[.slice na nl nc, .slice ra rl rc, .slice sa sl sc, .slice ba bl bc]] w1 fun e w' => e = .returned (.bool q) ∧ Below w1.heap.size w1 w' := fun q hq w1 z => hq ▸ wldI_any na nl nc ra rl rc sa sl sc ba bl bc nd FR SD BF w1 (h0.below z)
  have c35 : ∀ q, knA bl BF nl nd = q → ∀ w1, Below u.heap.size u w1 → Calls Tryz.prog 35 #[.slice na nl nc, (.func (.func 36) #[.agg #[.slice na nl nc, .slice ra rl rc, .slice sa sl sc, .slice ba bl bc]] #[])] w1 fun e w' => e = .returned (.bool q) ∧ Below w1.heap.size w1 w' := fun q hq w1 z => hq ▸ knAll_any na nl nc ra rl rc sa sl sc ba bl bc BF na nl nc nd w1 (h0.n.below z) h0.hn (h0.b.below z) h0.hb
  have c37 : ∀ q, foA bl BF bl BF = q → ∀ w1, Below u.heap.size u w1 → Calls Tryz.prog 37 #[.slice ba bl bc, (.func (.func 38) #[.agg #[.slice na nl nc, .slice ra rl rc, .slice sa sl sc, .slice ba bl bc]] #[])] w1 fun e w' => e = .returned (.bool q) ∧ Below w1.heap.size w1 w' := fun q hq w1 z => hq ▸ foAll_any ba bl bc BF na nl nc ra rl rc sa sl sc ba bl bc BF w1 (h0.b.below z) h0.hb (h0.b.below z) h0.hb
  clear h0
  cases zb0 : wldB nl nd rl FR sl SD bl BF
  · have yb0 : Hid (wldB nl nd rl FR sl SD bl BF = false) := zb0
    clear zb0
    refine wp_region_q0 s11_1 t11_1 (fun hbq => ?_)
    refine qR ?_
    refine qC (fun K hK => ?_)
    go_simp
    refine (c8 false yb0.out _ hbq).mono ?_; rintro r w1 ⟨rfl, k1⟩
    go_wp2_with fail
    refine hK.out _ _ (btrans hbq k1) (.inl ?_)
    clear hK K
    replace hbq := btrans hbq k1
    clear k1
    try simp only [putQ]
    refine qY ?_
    iterate 5 refine qN ?_
    iterate 2 refine qY ?_
    iterate 5 refine qN ?_
    iterate 2 refine qY ?_
    refine qE ?_
    have b1 := btrans b0 hbq
    clear c8 c35 c37 hX e0 e3
    go_wp2
    go_ret
    exact ⟨ret_bool (by simp [yb0.out]), b1⟩
  · have yb0 : Hid (wldB nl nd rl FR sl SD bl BF = true) := zb0
    clear zb0
    cases zb1 : knA bl BF nl nd
    · have yb1 : Hid (knA bl BF nl nd = false) := zb1
      clear zb1
      refine wp_region_q0 s11_1 t11_1 (fun hbq => ?_)
      refine qR ?_
      refine qC (fun K hK => ?_)
      go_simp
      refine (c8 true yb0.out _ hbq).mono ?_; rintro r w1 ⟨rfl, k1⟩
      go_wp2_with fail
      refine hK.out _ _ (btrans hbq k1) (.inl ?_)
      clear hK K
      replace hbq := btrans hbq k1
      clear k1
      try simp only [putQ]
      iterate 2 refine qY ?_
      refine qL ?_
      refine qR ?_
      refine qY ?_
      refine qC (fun K hK => ?_)
      go_simp
      refine (c35 false yb1.out _ hbq).mono ?_; rintro r w2 ⟨rfl, k2⟩
      go_wp2_with fail
      refine hK.out _ _ (btrans hbq k2) (.inl ?_)
      clear hK K
      replace hbq := btrans hbq k2
      clear k2
      try simp only [putQ]
      iterate 2 refine qY ?_
      iterate 5 refine qN ?_
      iterate 2 refine qY ?_
      refine qE ?_
      have b1 := btrans b0 hbq
      clear c8 c35 c37 hX e0 e3
      go_wp2
      go_ret
      exact ⟨ret_bool (by simp [yb0.out, yb1.out]), b1⟩
    · have yb1 : Hid (knA bl BF nl nd = true) := zb1
      clear zb1
      cases zb2 : foA bl BF bl BF
      · have yb2 : Hid (foA bl BF bl BF = false) := zb2
        clear zb2
        refine wp_region_q0 s11_1 t11_1 (fun hbq => ?_)
        refine qR ?_
        refine qC (fun K hK => ?_)
        go_simp
        refine (c8 true yb0.out _ hbq).mono ?_; rintro r w1 ⟨rfl, k1⟩
        go_wp2_with fail
        refine hK.out _ _ (btrans hbq k1) (.inl ?_)
        clear hK K
        replace hbq := btrans hbq k1
        clear k1
        try simp only [putQ]
        iterate 2 refine qY ?_
        refine qL ?_
        refine qR ?_
        refine qY ?_
        refine qC (fun K hK => ?_)
        go_simp
        refine (c35 true yb1.out _ hbq).mono ?_; rintro r w2 ⟨rfl, k2⟩
        go_wp2_with fail
        refine hK.out _ _ (btrans hbq k2) (.inl ?_)
        clear hK K
        replace hbq := btrans hbq k2
        clear k2
        try simp only [putQ]
        iterate 3 refine qY ?_
        refine qL ?_
        refine qR ?_
        refine qY ?_
        refine qC (fun K hK => ?_)
        go_simp
        refine (c37 false yb2.out _ hbq).mono ?_; rintro r w3 ⟨rfl, k3⟩
        go_wp2_with fail
        refine hK.out _ _ (btrans hbq k3) (.inl ?_)
        clear hK K
        replace hbq := btrans hbq k3
        clear k3
        try simp only [putQ]
        iterate 2 refine qY ?_
        refine qE ?_
        have b1 := btrans b0 hbq
        clear c8 c35 c37 hX e0 e3
        go_wp2
        go_ret
        exact ⟨ret_bool (by simp [yb0.out, yb1.out, yb2.out]), b1⟩
      · have yb2 : Hid (foA bl BF bl BF = true) := zb2
        clear zb2
        refine wp_region_q0 s11_1 t11_1 (fun hbq => ?_)
        refine qR ?_
        refine qC (fun K hK => ?_)
        go_simp
        refine (c8 true yb0.out _ hbq).mono ?_; rintro r w1 ⟨rfl, k1⟩
        go_wp2_with fail
        refine hK.out _ _ (btrans hbq k1) (.inl ?_)
        clear hK K
        replace hbq := btrans hbq k1
        clear k1
        try simp only [putQ]
        iterate 2 refine qY ?_
        refine qL ?_
        refine qR ?_
        refine qY ?_
        refine qC (fun K hK => ?_)
        go_simp
        refine (c35 true yb1.out _ hbq).mono ?_; rintro r w2 ⟨rfl, k2⟩
        go_wp2_with fail
        refine hK.out _ _ (btrans hbq k2) (.inl ?_)
        clear hK K
        replace hbq := btrans hbq k2
        clear k2
        try simp only [putQ]
        iterate 3 refine qY ?_
        refine qL ?_
        refine qR ?_
        refine qY ?_
        refine qC (fun K hK => ?_)
        go_simp
        refine (c37 true yb2.out _ hbq).mono ?_; rintro r w3 ⟨rfl, k3⟩
        go_wp2_with fail
        refine hK.out _ _ (btrans hbq k3) (.inl ?_)
        clear hK K
        replace hbq := btrans hbq k3
        clear k3
        try simp only [putQ]
        iterate 2 refine qY ?_
        refine qE ?_
        have b1 := btrans b0 hbq
        clear c8 c35 c37 hX e0 e3
        go_wp2
        go_ret
        exact ⟨ret_bool (by simp [yb0.out, yb1.out, yb2.out]), b1⟩
/-- a world is safe, as the model asks -/
def safM (nl : Nat) (nd : Nat → Nod) (rl : Nat) (FR : Nat → Ft) (sl : Nat) (SD : Nat → Int) (bl : Nat) (BF : Nat → Fc) : Bool :=
  wldB nl nd rl FR sl SD bl BF && foA bl BF bl BF && decide (∀ k, k < nl → tbsB bl BF (nd k) = true)
theorem saf_same {nl : Nat} {nd : Nat → Nod} {rl : Nat} {FR : Nat → Ft} {sl : Nat} {SD : Nat → Int} {bl : Nat} {BF : Nat → Fc} : safB nl nd rl FR sl SD bl BF = safM nl nd rl FR sl SD bl BF := by
  unfold safB safM
  cases hw : wldB nl nd rl FR sl SD bl BF
  · rfl
  · have hk : ∀ k, k < nl → nodQ (nd k) = true := by
      unfold wldB at hw
      simp only [Bool.and_eq_true] at hw
      have h1 := hw.1.1.2
      unfold sdnB at h1
      rw [decide_eq_true_iff] at h1
      intro k hk
      have h2 := (h1 k hk).1
      unfold nokB at h2
      simp only [Bool.and_eq_true] at h2
      exact h2.2
    have e : knA bl BF nl nd = decide (∀ k, k < nl → tbsB bl BF (nd k) = true) := by
      unfold knA
      congr 1
      apply propext
      exact ⟨fun q k h => by rw [← kn_same bl BF (nd k) (hk k h)]; exact q k h, fun q k h => by rw [kn_same bl BF (nd k) (hk k h)]; exact q k h⟩
    rw [e, Bool.true_and, Bool.true_and, Bool.and_comm]
theorem wld_born {nl : Nat} {nd : Nat → Nod} {rl : Nat} {FR : Nat → Ft} {sl : Nat} {SD : Nat → Int} {bl : Nat} {BF : Nat → Fc} (h : wldB nl nd rl FR sl SD bl BF = true) : ∀ k, k < bl → (BF k).s = 1 ∨ (BF k).s = 2 ∨ (BF k).s = 3 ∨ (BF k).s = 4 := by
  unfold wldB at h
  simp only [Bool.and_eq_true] at h
  have h1 := h.2
  unfold bornS at h1
  rw [decide_eq_true_iff] at h1
  intro k hk
  have h2 := (h1 k hk).1
  unfold fokB inb at h2
  simp only [Bool.and_eq_true, decide_eq_true_eq] at h2
  omega
def s10_1 : List Stp := [⟨some 6, .load 34 (.tmp 1), 34, none, 0⟩, ⟨some 7, .call { callee := .value (.func 6), args := #[.tmp 6], argTypes := #[34] }, 4, none, 1⟩, ⟨some 8, .unOp .not 4 (.tmp 7), 4, none, 0⟩, ⟨some 9, .move (.tmp 8), 4, none, 0⟩, ⟨some 10, .fieldAddr 34 (.tmp 1) 3, 0, some (9, false), 0⟩, ⟨some 11, .load 32 (.tmp 10), 32, some (9, false), 0⟩, ⟨some 12, .call { callee := .value (.func 33), args := #[.tmp 11], argTypes := #[32] }, 4, some (9, false), 1⟩, ⟨some 13, .unOp .not 4 (.tmp 12), 4, some (9, false), 0⟩, ⟨some 14, .pick (.tmp 9) (.const (.bool true)) (.tmp 13), 4, none, 0⟩]
def t10_1 : List (Nat × Nat) := [(0, 0), (1, 1), (2, 0), (3, 0), (4, 0), (5, 0), (6, 1), (7, 0), (8, 0)]
def s10_7 : List Stp := [⟨some 27, .load 34 (.tmp 1), 34, none, 0⟩, ⟨some 28, .fieldAddr 51 (.tmp 4) 8, 0, none, 0⟩, ⟨some 29, .load 32 (.tmp 28), 32, none, 0⟩, ⟨some 30, .call { callee := .value (.func 34), args := #[.tmp 27, .tmp 29], argTypes := #[34, 32] }, 4, none, 1⟩, ⟨some 31, .unOp .not 4 (.tmp 30), 4, none, 0⟩]
def t10_7 : List (Nat × Nat) := [(0, 0), (1, 0), (2, 0), (3, 1), (4, 0)]
def s10_12 : List Stp := [⟨some 39, .load 34 (.tmp 1), 34, none, 0⟩, ⟨some 40, .fieldAddr 51 (.tmp 4) 14, 0, none, 0⟩, ⟨some 41, .load 49 (.tmp 40), 49, none, 0⟩, ⟨some 42, .move (.tmp 5), 3, none, 0⟩, ⟨some 43, .indexAddr 49 (.tmp 41) (.tmp 42), 0, none, 0⟩, ⟨some 44, .fieldAddr 75 (.tmp 43) 1, 0, none, 0⟩, ⟨some 45, .load 32 (.tmp 44), 32, none, 0⟩, ⟨some 46, .call { callee := .value (.func 34), args := #[.tmp 39, .tmp 45], argTypes := #[34, 32] }, 4, none, 1⟩, ⟨some 47, .unOp .not 4 (.tmp 46), 4, none, 0⟩]
def t10_12 : List (Nat × Nat) := [(0, 0), (1, 0), (2, 0), (3, 0), (4, 0), (5, 0), (6, 0), (7, 1), (8, 0)]
set_option maxRecDepth 20000 in
set_option maxHeartbeats 8000000 in
theorem safS_any (na : Option Addr) (nl nc : Nat) (ra : Option Addr) (rl rc : Nat) (sa : Option Addr) (sl sc : Nat) (ba : Option Addr) (bl bc : Nat) (nd : Nat → Nod) (FR : Nat → Ft) (SD : Nat → Int) (BF : Nat → Fc) (w : World) (h : WdR w na nl ra rl sa sl ba bl nd FR SD BF) :
    Calls Tryz.prog 10 #[.agg #[.slice na nl nc, .slice ra rl rc, .slice sa sl sc, .slice ba bl bc]] w fun e w' => e = .returned (.bool (safM nl nd rl FR sl SD bl BF)) ∧ Below w.heap.size w w' := by
  have b0 := balloc (.cells #[.slice na nl nc, .slice ra rl rc, .slice sa sl sc, .slice ba bl bc] 34) (Below.refl w.heap.size w)
  have X := Ws.box (w := w) #[.slice na nl nc, .slice ra rl rc, .slice sa sl sc, .slice ba bl bc] 34
  have h0 := h.below b0
  have hS : Hid (safM nl nd rl FR sl SD bl BF = (wldB nl nd rl FR sl SD bl BF && foA bl BF bl BF && decide (∀ k, k < nl → tbsB bl BF (nd k) = true))) := rfl
  clear h
  obtain ⟨Z, hZ⟩ : ∃ Z, Hid (safM nl nd rl FR sl SD bl BF = Z) := ⟨_, rfl⟩
  rw [hZ.out]
  rw [hZ.out] at hS
  clear hZ
  go_enter Tryz.func10, Tryz.ntmps10
  go_upto_region 1 with fail
  generalize w.alloc (.cells #[.slice na nl nc, .slice ra rl rc, .slice sa sl sc, .slice ba bl bc] 34) = u at *
  have hX := X.range
  have e0 := X.c 0 (.slice na nl nc) rfl
  have e3 := X.c 3 (.slice ba bl bc) rfl
  clear X
  have c6 : ∀ q, wldB nl nd rl FR sl SD bl BF = q → ∀ w1, Below u.heap.size u w1 → Calls Tryz.prog 6 #[.agg #[.slice na nl nc, .slice ra rl rc, .slice sa sl sc, .slice ba bl bc]] w1 fun e w' => e = .returned (.bool q) ∧ Below w1.heap.size w1 w' := fun q hq w1 z => hq ▸ wldS_any na nl nc ra rl rc sa sl sc ba bl bc nd FR SD BF w1 (h0.below z)
  have c33 : wldB nl nd rl FR sl SD bl BF = true → ∀ q, foA bl BF bl BF = q → ∀ w1, Below u.heap.size u w1 → Calls Tryz.prog 33 #[.slice ba bl bc] w1 fun e w' => e = .returned (.bool q) ∧ Below w1.heap.size w1 w' := fun hw q hq w1 z => hq ▸ fair_any ba bl bc BF w1 (h0.b.below z) h0.hb (wld_born hw)
  cases zb0 : wldB nl nd rl FR sl SD bl BF
  · have yb0 : Hid (wldB nl nd rl FR sl SD bl BF = false) := zb0
    clear zb0
    refine wp_region_q0 s10_1 t10_1 (fun hbq => ?_)
    refine qR ?_
    refine qC (fun K hK => ?_)
    go_simp
    refine (c6 false yb0.out _ hbq).mono ?_; rintro r w1 ⟨rfl, k1⟩
    go_wp2_with fail
    refine hK.out _ _ (btrans hbq k1) (.inl ?_)
    clear hK K
    replace hbq := btrans hbq k1
    clear k1
    try simp only [putQ]
    iterate 2 refine qY ?_
    iterate 4 refine qN ?_
    refine qY ?_
    refine qE ?_
    have b1 := btrans b0 hbq
    have hZ : Hid (Z = false) := by rw [Hid, hS.out, yb0.out]; simp
    clear c6 c33 hX e0 e3 hS h0
    go_wp2
    go_ret
    exact ⟨ret_bool hZ.out.symm, b1⟩
  · have yb0 : Hid (wldB nl nd rl FR sl SD bl BF = true) := zb0
    clear zb0
    cases zb1 : foA bl BF bl BF
    · have yb1 : Hid (foA bl BF bl BF = false) := zb1
      clear zb1
      refine wp_region_q0 s10_1 t10_1 (fun hbq => ?_)
      refine qR ?_
      refine qC (fun K hK => ?_)
      go_simp
      refine (c6 true yb0.out _ hbq).mono ?_; rintro r w1 ⟨rfl, k1⟩
      go_wp2_with fail
      refine hK.out _ _ (btrans hbq k1) (.inl ?_)
      clear hK K
      replace hbq := btrans hbq k1
      clear k1
      try simp only [putQ]
      iterate 3 refine qY ?_
      refine qL ?_
      refine qC (fun K hK => ?_)
      go_simp
      refine (c33 yb0.out false yb1.out _ hbq).mono ?_; rintro r w2 ⟨rfl, k2⟩
      go_wp2_with fail
      refine hK.out _ _ (btrans hbq k2) (.inl ?_)
      clear hK K
      replace hbq := btrans hbq k2
      clear k2
      try simp only [putQ]
      iterate 2 refine qY ?_
      refine qE ?_
      have b1 := btrans b0 hbq
      have hZ : Hid (Z = false) := by rw [Hid, hS.out, yb0.out, yb1.out]; simp
      clear c6 c33 hX e0 e3 hS h0
      go_wp2
      go_ret
      exact ⟨ret_bool hZ.out.symm, b1⟩
    · have yb1 : Hid (foA bl BF bl BF = true) := zb1
      clear zb1
      refine wp_region_q0 s10_1 t10_1 (fun hbq => ?_)
      refine qR ?_
      refine qC (fun K hK => ?_)
      go_simp
      refine (c6 true yb0.out _ hbq).mono ?_; rintro r w1 ⟨rfl, k1⟩
      go_wp2_with fail
      refine hK.out _ _ (btrans hbq k1) (.inl ?_)
      clear hK K
      replace hbq := btrans hbq k1
      clear k1
      try simp only [putQ]
      iterate 3 refine qY ?_
      refine qL ?_
      refine qC (fun K hK => ?_)
      go_simp
      refine (c33 yb0.out true yb1.out _ hbq).mono ?_; rintro r w2 ⟨rfl, k2⟩
      go_wp2_with fail
      refine hK.out _ _ (btrans hbq k2) (.inl ?_)
      clear hK K
      replace hbq := btrans hbq k2
      clear k2
      try simp only [putQ]
      iterate 2 refine qY ?_
      refine qE ?_
      have hZ : Hid (Z = decide (∀ k, k < nl → tbsB bl BF (nd k) = true)) := by rw [Hid, hS.out, yb0.out, yb1.out]; rfl
      have x0 := keep_below hbq e0
      have hX1 := range_below' hX hbq
      have b1 := btrans b0 hbq
      replace h0 := h0.below hbq
      clear c6 c33 hX e0 e3 hS b0 hbq yb0 yb1
      go_upto_region 3 with fail
      skip
      go_wp2
      go_loopw [3] (fun i wr => ∃ k : Nat, k ≤ nl ∧ i = .int .i64 k ∧ Below w2.heap.size w2 wr ∧ ∀ j, j < k → tbsB bl BF (nd j) = true) (fun i _ => nl - (intOf i).toNat)
      case atStart => exact ⟨0, Nat.zero_le _, rfl, Below.refl _ _, fun j hj => by omega⟩
      case round =>
        obtain ⟨k, hk, rfl, hb, hall⟩ := hrel
        have x0' := keep_below hb x0
        have hX2 := range_below' hX1 hb
        by_cases hlt : k < nl
        · obtain ⟨b, off, rfl, _, hf⟩ := (h0.n.below hb) (by omega)
          obtain ⟨L, c1, c2⟩ := hf k hlt
          have i0 : (0 : Int) ≤ (k : Int) := by omega
          have i1 : (k : Int) < (nl : Int) := by omega
          have hno : Hid (tbsB bl BF (nd k) = false → Z = false) := fun q => by
            rw [hZ.out]
            exact decide_eq_false fun hh => by rw [hh k hlt] at q; cases q
          have hyes : Hid (tbsB bl BF (nd k) = true → ∀ j, j < k + 1 → tbsB bl BF (nd j) = true) := fun q j hj => by
            by_cases e : j = k
            · subst e; exact q
            · exact hall j (by omega)
          clear hall hf
          obtain ⟨n, hn⟩ : ∃ n, Hid (nd k = n) := ⟨_, rfl⟩
          rw [hn.out] at c1 c2 hno hyes
          clear hn
          have hB := Ws.box (w := wr) #[.int .i64 0, .bool false, .bool false, .bool false, .int .i64 0, .int .i64 0, .int .i64 0, .int .i64 0, .slice none 0 0, .slice none 0 0, .int .i64 0, .int .i64 0, .int .i64 0, .bool false, .slice none 0 0, .int .i64 0, .int .i64 0, .int .i64 0, .int .i64 0, .slice none 0 0, .slice none 0 0] 51
          have hth := hB.there (n := 21) rfl
          have hu1 : Below wr.heap.size wr ((wr.alloc (.cells #[.int .i64 0, .bool false, .bool false, .bool false, .int .i64 0, .int .i64 0, .int .i64 0, .int .i64 0, .slice none 0 0, .slice none 0 0, .int .i64 0, .int .i64 0, .int .i64 0, .bool false, .slice none 0 0, .int .i64 0, .int .i64 0, .int .i64 0, .int .i64 0, .slice none 0 0, .slice none 0 0] 51)).setCells wr.heap.size 0 (ndC n L).toList) := below_cells _ _ _ _ (Nat.le_refl _) (balloc _ (Below.refl _ _))
          have hrg := World.rangeAt_setCells_same (wr.alloc (.cells #[.int .i64 0, .bool false, .bool false, .bool false, .int .i64 0, .int .i64 0, .int .i64 0, .int .i64 0, .slice none 0 0, .slice none 0 0, .int .i64 0, .int .i64 0, .int .i64 0, .bool false, .slice none 0 0, .int .i64 0, .int .i64 0, .int .i64 0, .int .i64 0, .slice none 0 0, .slice none 0 0] 51)) wr.heap.size 0 (ndC n L).toList hth
          clear hB
          go_upto_region 7 with (first | (refine wpList_load_mid rfl 51 _ rfl b (off + k * 21) rfl (ndC n L).toList _ c1 Tryz.underlying51 rfl size51 ?_) | (refine wpList_store_mid rfl 51 _ _ rfl wr.heap.size 0 (ndC n L) rfl rfl hth size51 (by kernel_rfl) ?_))
          clear hth c1
          generalize (wr.alloc (.cells #[.int .i64 0, .bool false, .bool false, .bool false, .int .i64 0, .int .i64 0, .int .i64 0, .int .i64 0, .slice none 0 0, .slice none 0 0, .int .i64 0, .int .i64 0, .int .i64 0, .bool false, .slice none 0 0, .int .i64 0, .int .i64 0, .int .i64 0, .int .i64 0, .slice none 0 0, .slice none 0 0] 51)).setCells wr.heap.size 0 (ndC n L).toList = v at *
          have hb3 := btrans hb hu1
          replace c2 := c2.below hu1
          have x3 := keep_below hu1 x0'
          have hX3 := range_below' hX2 hu1
          have hBv := (h0.b.below hb).below hu1
          have hBl := h0.hb
          have hNl := h0.hn
          have hOl0 := c2.ho
          generalize wr.heap.size = KB at *
          clear hu1 x0' hX2
          have c8 := hrg 8 (.slice L.ta n.T.length L.tc) rfl
          have c20 := hrg 20 (.slice L.oa n.O.length L.oc) rfl
          simp only [Nat.zero_add] at c8 c20
          clear hrg
          have ck : ∀ (a : Option Addr) (len cap : Nat) (F : Nat → Fc) {w1 : World}, Below v.heap.size v w1 → FSl w1 a len F → len ≤ 1048576 → Calls Tryz.prog 34 #[.agg #[.slice (some ⟨b, off, none⟩) nl nc, .slice ra rl rc, .slice sa sl sc, .slice ba bl bc], .slice a len cap] w1 fun e w' => e = .returned (.bool (ibA bl BF len F)) ∧ Below w1.heap.size w1 w' := fun a len cap F w1 z z1 z2 => known_any _ nl nc ra rl rc sa sl sc ba bl bc BF a len cap F w1 (hBv.below z) hBl z1 z2
          refine wp_region_q0 s10_7 t10_7 (fun hbq => ?_)
          refine qR ?_
          refine qY ?_
          refine qL ?_
          refine qC (fun K hK => ?_)
          go_simp
          refine (ck _ _ _ _ hbq (c2.f.below hbq) c2.hf).mono ?_; rintro r w3 ⟨rfl, k3⟩
          go_wp2_with fail
          refine hK.out _ _ (btrans hbq k3) (.inl ?_)
          clear hK K
          replace hbq := btrans hbq k3
          clear k3
          try simp only [putQ]
          refine qY ?_
          refine qE ?_
          have hb4 := btrans hb3 hbq
          have hv3 := hbq
          have y20 := keep_below hbq c20
          have hX4 := range_below' hX3 hbq
          replace c2 := c2.below hbq
          clear c8 c20 hX3 x3
          obtain ⟨q1, hq1⟩ : ∃ q, Hid (ibA bl BF n.T.length (tF n.T) = q) := ⟨_, rfl⟩
          rw [hq1.out]
          have htb : Hid (tbsB bl BF n = (q1 && decide (∀ j, j < n.O.length → ibA bl BF (n.O.getD j Od.zero).fs.length (tF (n.O.getD j Od.zero).fs) = true))) := by unfold Hid tbsB; rw [hq1.out]
          rw [htb.out] at hno hyes
          clear htb hq1
          cases q1
          · have hz : Hid (Z = false) := hno.out rfl
            clear hno hyes ck c2 hX4
            go_wp2
            go_ret
            exact ⟨ret_bool hz.out.symm, btrans b1 hb4⟩
          rw [Bool.true_and] at hno hyes
          simp only [Bool.not_true]
          go_upto_region 9 with fail
          skip
          go_wp2
          go_loopw [5] (fun i ws => ∃ m : Nat, m ≤ n.O.length ∧ i = .int .i64 m ∧ Below w3.heap.size w3 ws ∧ ∀ j, j < m → ibA bl BF (n.O.getD j Od.zero).fs.length (tF (n.O.getD j Od.zero).fs) = true) (fun i _ => n.O.length - (intOf i).toNat)
          case atStart => exact ⟨0, Nat.zero_le _, rfl, Below.refl _ _, fun j hj => by omega⟩
          case round =>
            obtain ⟨m, hm, rfl, hb2, hal⟩ := hrel
            have z20 := keep_below hb2 y20
            have hX5 := range_below' hX4 hb2
            by_cases hlt2 : m < n.O.length
            · obtain ⟨ob, oo, eo, hol, hof⟩ := c2.o (by omega)
              obtain ⟨d0, d1⟩ := (hof.below hb2 hol) m hlt2
              have hO := (c2.ob m hlt2).1.below hb2
              have hOl := (c2.ob m hlt2).2
              rw [eo] at z20
              clear eo
              have i2 : (0 : Int) ≤ (m : Int) := by omega
              have i3 : (m : Int) < (n.O.length : Int) := by omega
              have hno2 : Hid (ibA bl BF (n.O.getD m Od.zero).fs.length (tF (n.O.getD m Od.zero).fs) = false → Z = false) := fun q => hno.out (decide_eq_false fun hh => by rw [hh m hlt2] at q; cases q)
              have hyes2 : Hid (ibA bl BF (n.O.getD m Od.zero).fs.length (tF (n.O.getD m Od.zero).fs) = true → ∀ j, j < m + 1 → ibA bl BF (n.O.getD j Od.zero).fs.length (tF (n.O.getD j Od.zero).fs) = true) := fun q j hj => by
                by_cases e : j = m
                · subst e; exact q
                · exact hal j (by omega)
              clear hal hof
              unfold oF at d0 d1 hO hOl
              dsimp only at d0 d1 hO hOl
              generalize n.O.getD m Od.zero = od at *
              go_upto_region 12 with fail
              refine wp_region_q s10_12 t10_12 (fun hbq => ?_)
              refine qR ?_
              refine qY ?_
              refine qL ?_
              iterate 3 refine qY ?_
              refine qL ?_
              refine qC (fun K hK => ?_)
              go_simp
              refine (ck _ _ _ _ (btrans hv3 (btrans hb2 hbq)) (hO.below hbq) hOl).mono ?_; rintro r w4 ⟨rfl, k4⟩
              go_wp2_with fail
              refine hK.out _ _ (btrans hbq k4) (.inl ?_)
              clear hK K
              replace hbq := btrans hbq k4
              clear k4
              try simp only [putQ]
              refine qY ?_
              refine qE ?_
              have hb5 := btrans hb2 hbq
              obtain ⟨q2, hq2⟩ : ∃ q, Hid (ibA bl BF od.fs.length (tF od.fs) = q) := ⟨_, rfl⟩
              rw [hq2.out]
              rw [hq2.out] at hno2 hyes2
              clear hq2 z20 hX5 d0 d1 hO hbq
              cases q2
              · have hz : Hid (Z = false) := hno2.out rfl
                clear hno2 hyes2 hno hyes ck
                go_wp2
                go_ret
                exact ⟨ret_bool hz.out.symm, btrans b1 (btrans hb4 hb5)⟩
              · have hya := hyes2.out rfl
                clear hno2 hyes2
                go_wp2
                go_roundw
                case rel => exact ⟨m + 1, by omega, by go_num, hb5, hya⟩
                case measure => simp [intOf]; omega
            · have e : m = n.O.length := by omega
              subst e
              have hya := hyes.out (decide_eq_true hal)
              clear hal hno hyes ck hlt2 hm
              go_wp2
              go_roundw
              case rel => exact ⟨k + 1, by omega, by go_num, btrans hb4 hb2, hya⟩
              case measure => simp [intOf]; omega
        · have e : k = nl := by omega
          subst e
          have hz : Hid (Z = true) := by rw [Hid, hZ.out]; exact decide_eq_true hall
          clear hall hlt hk
          go_wp2
          go_ret
          exact ⟨ret_bool hz.out.symm, btrans b1 hb⟩
end Go.Proofs.YthekjfdggfbelaaGreat
/- Exact WorldSafe, walked. -/
namespace Go.Proofs.YthekjfdggfbelaaGreat
open Go.ChangeShapes Go.WideShapes Go.ChangeAt Go.RowKit
def s4_10 : List Stp := [⟨some 22, .load 34 (.tmp 5), 34, none, 0⟩, ⟨some 23, .load 27 (.tmp 1), 27, none, 0⟩, ⟨some 24, .call { callee := .value (.func 7), args := #[.tmp 23], argTypes := #[27] }, 34, none, 1⟩, ⟨some 25, .call { callee := .value (.func 9), args := #[.tmp 22, .tmp 24], argTypes := #[34, 34] }, 4, none, 1⟩, ⟨some 26, .unOp .not 4 (.tmp 25), 4, none, 0⟩]
def t4_10 : List (Nat × Nat) := [(0, 0), (1, 0), (2, 1), (3, 1), (4, 0)]
set_option maxRecDepth 20000 in
set_option maxHeartbeats 4000000 in
theorem exWorldSafe_walk (na : Option Addr) (nl nc : Nat) (ra : Option Addr) (rl rc : Nat) (sa : Option Addr) (sl sc : Nat) (ba : Option Addr) (bl bc : Nat) (R : Nat → Rn) (FR : Nat → Ft) (SD : Nat → Int) (BF : Nat → Fc) (w : World) (h : WdRaw w na nl ra rl sa sl sc ba bl bc R FR SD BF) :
    Calls Tryz.prog 4 #[.agg #[.slice na nl nc, .slice ra rl rc, .slice sa sl sc, .slice ba bl bc]] w fun e w' => e = .returned (.bool true) ∧ Below w.heap.size w w' := by
  have b0 := balloc (.cells #[.slice na nl nc, .slice ra rl rc, .slice sa sl sc, .slice ba bl bc] 27) (Below.refl w.heap.size w)
  have X := Ws.box (w := w) #[.slice na nl nc, .slice ra rl rc, .slice sa sl sc, .slice ba bl bc] 27
  go_enter Tryz.func4, Tryz.ntmps4
  go_upto_region 2 with fail
  generalize w.alloc (.cells #[.slice na nl nc, .slice ra rl rc, .slice sa sl sc, .slice ba bl bc] 27) = u at *
  have e0 := X.c 0 (.slice na nl nc) rfl
  have e1 := X.c 1 (.slice ra rl rc) rfl
  have e2 := X.c 2 (.slice sa sl sc) rfl
  have e3 := X.c 3 (.slice ba bl bc) rfl
  go_wp2_with fail
  refine (szWld_any na nl nc ra rl rc sa sl sc ba bl bc R FR SD BF _ (h.below b0)).mono ?_
  rintro r u1 ⟨⟨z, rfl, hz⟩, k1⟩
  clear e0 e1 e2 e3
  replace b0 := btrans b0 k1
  replace X := X.below k1
  clear k1
  rcases hz with rfl | ⟨hz, m⟩
  · go_wp2
    go_ret
    exact ⟨rfl, b0⟩
  have n1 : ¬ z < 0 := by omega
  have e0 := X.c 0 (.slice na nl nc) rfl
  have e1 := X.c 1 (.slice ra rl rc) rfl
  have e2 := X.c 2 (.slice sa sl sc) rfl
  have e3 := X.c 3 (.slice ba bl bc) rfl
  go_wp2_with fail
  refine (toWld_any na nl nc ra rl rc sa sl sc ba bl bc R FR SD BF _ (h.below b0) m).mono ?_
  rintro r u2 ⟨b1, b2, b3, b4, rfl, hW, k1⟩
  clear e0 e1 e2 e3
  replace b0 := btrans b0 k1
  replace X := X.below k1
  clear k1
  go_wp2_with fail
  refine (safS_any (some ⟨b1, 0, none⟩) nl nl (some ⟨b2, 0, none⟩) rl rl (some ⟨b3, 0, none⟩) sl sl (some ⟨b4, 0, none⟩) bl bl (fun k => (R k).nod) FR SD BF _ hW).mono ?_
  rintro r u3 ⟨rfl, k1⟩
  replace b0 := btrans b0 k1
  replace X := X.below k1
  clear k1 hW
  obtain ⟨v, hv⟩ : ∃ v, Hid (safM nl (fun k => (R k).nod) rl FR sl SD bl BF = v) := ⟨_, rfl⟩
  rw [hv.out]
  have e0 := X.c 0 (.slice na nl nc) rfl
  have e1 := X.c 1 (.slice ra rl rc) rfl
  have e2 := X.c 2 (.slice sa sl sc) rfl
  have e3 := X.c 3 (.slice ba bl bc) rfl
  go_wp2_with fail
  refine (toWld_any na nl nc ra rl rc sa sl sc ba bl bc R FR SD BF _ (h.below b0) m).mono ?_
  rintro r u4 ⟨c1, c2, c3, c4, rfl, hC, k1⟩
  clear e0 e1 e2 e3
  replace b0 := btrans b0 k1
  replace X := X.below k1
  clear k1
  have hB := Ws.box (w := u4) #[.slice none 0 0, .slice none 0 0, .slice none 0 0, .slice none 0 0] 34
  have hth := hB.there (n := 4) rfl
  have k1 : Below u4.heap.size u4 ((u4.alloc (.cells #[.slice none 0 0, .slice none 0 0, .slice none 0 0, .slice none 0 0] 34)).setCells u4.heap.size 0 (#[.slice (some ⟨c1, 0, none⟩) nl nl, .slice (some ⟨c2, 0, none⟩) rl rl, .slice (some ⟨c3, 0, none⟩) sl sl, .slice (some ⟨c4, 0, none⟩) bl bl] : Array Value).toList) := below_cells _ _ _ _ (Nat.le_refl _) (balloc _ (Below.refl _ _))
  have hrg := World.rangeAt_setCells_same (u4.alloc (.cells #[.slice none 0 0, .slice none 0 0, .slice none 0 0, .slice none 0 0] 34)) u4.heap.size 0 (#[.slice (some ⟨c1, 0, none⟩) nl nl, .slice (some ⟨c2, 0, none⟩) rl rl, .slice (some ⟨c3, 0, none⟩) sl sl, .slice (some ⟨c4, 0, none⟩) bl bl] : Array Value).toList hth
  clear hB
  go_upto_region 7 with (refine wpList_store_mid rfl 34 _ _ rfl u4.heap.size 0 #[.slice (some ⟨c1, 0, none⟩) nl nl, .slice (some ⟨c2, 0, none⟩) rl rl, .slice (some ⟨c3, 0, none⟩) sl sl, .slice (some ⟨c4, 0, none⟩) bl bl] rfl rfl hth (by kernel_rfl) (by kernel_rfl) ?_)
  clear hth
  generalize (u4.alloc (.cells #[.slice none 0 0, .slice none 0 0, .slice none 0 0, .slice none 0 0] 34)).setCells u4.heap.size 0 (#[.slice (some ⟨c1, 0, none⟩) nl nl, .slice (some ⟨c2, 0, none⟩) rl rl, .slice (some ⟨c3, 0, none⟩) sl sl, .slice (some ⟨c4, 0, none⟩) bl bl] : Array Value).toList = u5 at *
  replace b0 := btrans b0 k1
  replace X := X.below k1
  replace hC := hC.below k1
  clear k1
  generalize u4.heap.size = KB at *
  have f0 := hrg 0 (.slice (some ⟨c1, 0, none⟩) nl nl) rfl
  have f1 := hrg 1 (.slice (some ⟨c2, 0, none⟩) rl rl) rfl
  have f2 := hrg 2 (.slice (some ⟨c3, 0, none⟩) sl sl) rfl
  have f3 := hrg 3 (.slice (some ⟨c4, 0, none⟩) bl bl) rfl
  simp only [Nat.zero_add] at f0 f1 f2 f3
  go_wp2_with fail
  refine (safI_any (some ⟨c1, 0, none⟩) nl nl (some ⟨c2, 0, none⟩) rl rl (some ⟨c3, 0, none⟩) sl sl (some ⟨c4, 0, none⟩) bl bl (fun k => (R k).nod) FR SD BF _ hC).mono ?_
  rintro r u6 ⟨rfl, k1⟩
  rw [saf_same, hv.out]
  clear f0 f1 f2 f3 hv
  replace b0 := btrans b0 k1
  replace X := X.below k1
  replace hC := hC.below k1
  replace hrg := range_below' hrg k1
  clear k1
  have e9 : (v != v) = false := by simp
  go_upto_region 10 with fail
  clear e9
  have hrX := X.range
  clear X
  refine wp_region_q s4_10 t4_10 (fun hbq => ?_)
  iterate 2 refine qR ?_
  refine qC (fun K hK => ?_)
  go_simp
  refine (toWld_any na nl nc ra rl rc sa sl sc ba bl bc R FR SD BF _ (h.below (btrans b0 hbq)) m).mono ?_; rintro r u7 ⟨d1, d2, d3, d4, rfl, hD, k7⟩
  go_wp2_with fail
  refine hK.out _ _ (btrans hbq k7) (.inl ?_)
  clear hK K
  replace hbq := btrans hbq k7
  clear k7
  try simp only [putQ]
  refine qC (fun K hK => ?_)
  go_simp
  refine (eqWld_same (some ⟨c1, 0, none⟩) nl nl (some ⟨c2, 0, none⟩) rl rl (some ⟨c3, 0, none⟩) sl sl (some ⟨c4, 0, none⟩) bl bl (fun k => (R k).nod) FR SD BF (some ⟨d1, 0, none⟩) nl (some ⟨d2, 0, none⟩) rl (some ⟨d3, 0, none⟩) sl (some ⟨d4, 0, none⟩) bl _ (hC.below hbq) hD).mono ?_; rintro r u8 ⟨rfl, k8⟩
  go_wp2_with fail
  refine hK.out _ _ (btrans hbq k8) (.inl ?_)
  clear hK K
  replace hbq := btrans hbq k8
  clear k8
  try simp only [putQ]
  refine qY ?_
  refine qE ?_
  replace b0 := btrans b0 hbq
  go_wp2
  go_ret
  exact ⟨rfl, b0⟩
end Go.Proofs.YthekjfdggfbelaaGreat
