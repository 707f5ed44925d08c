/- Worlds: whether a world is ok, as the document asks. -/
import Derived.Test.YthekjfdggfbelaaGreatWl
namespace Go.Proofs.YthekjfdggfbelaaGreat
open Go.ChangeShapes Go.WideShapes Go.ChangeAt Go.RowKit
/-- nodes in their places, sides -/
def sdnB (nl : Nat) (nd : Nat → Nod) (SD : Nat → Int) : Bool := decide (∀ k, k < nl → nokB k (nd k) = true ∧ inb (SD k) 0 2 = true)
theorem sdn_no {nl : Nat} {nd : Nat → Nod} {SD : Nat → Int} {k : Nat} (hk : k < nl) (q : (nokB k (nd k) && inb (SD k) 0 2) = false) : sdnB nl nd SD = false :=
  decide_eq_false fun hh => by
    rw [(hh k hk).1, (hh k hk).2] at q
    cases q
theorem sdn_yes {nl : Nat} {nd : Nat → Nod} {SD : Nat → Int} (h : ∀ k, k < nl → nokB k (nd k) = true ∧ inb (SD k) 0 2 = true) : sdnB nl nd SD = true := decide_eq_true h
theorem fta_no {rl : Nat} {FR : Nat → Ft} {k : Nat} (hk : k < rl) (q : ftB (FR k).t (FR k).x = false) : ftA rl FR = false :=
  decide_eq_false fun hh => by
    rw [hh k hk] at q
    cases q
theorem fta_yes {rl : Nat} {FR : Nat → Ft} (h : ∀ k, k < rl → ftB (FR k).t (FR k).x = true) : ftA rl FR = true := decide_eq_true h
theorem born_no {bl : Nat} {BF : Nat → Fc} {k : Nat} (hk : k < bl) (q : fokB (BF k).n (BF k).i (BF k).s = false) : bornS bl BF = false :=
  decide_eq_false fun hh => by
    rw [(hh k hk).1] at q
    cases q
theorem born_no2 {bl : Nat} {BF : Nat → Fc} {k : Nat} (hk : k + 1 < bl) (q : fle (BF k) (BF (k + 1)) = false) : bornS bl BF = false :=
  decide_eq_false fun hh => by
    have := (hh (k + 1) hk).2 (by omega)
    rw [Nat.add_sub_cancel, q] at this
    cases this
theorem born_yes {bl : Nat} {BF : Nat → Fc} (h : ∀ k, k < bl → fokB (BF k).n (BF k).i (BF k).s = true ∧ (0 < k → fle (BF (k - 1)) (BF k) = true)) : bornS bl BF = true := decide_eq_true h
/-- a world is ok -/
def wldB (nl : Nat) (nd : Nat → Nod) (rl : Nat) (FR : Nat → Ft) (sl : Nat) (SD : Nat → Int) (bl : Nat) (BF : Nat → Fc) : Bool :=
  decide (nl = 8) && decide (sl = 8) && decide (rl ≤ 60) && sdnB nl nd SD && ftA rl FR && bornS bl BF
/-- a world can be read -/
structure WdR (w : World) (na : Option Addr) (nl : Nat) (ra : Option Addr) (rl : Nat) (sa : Option Addr) (sl : Nat) (ba : Option Addr) (bl : Nat) (nd : Nat → Nod) (FR : Nat → Ft) (SD : Nat → Int) (BF : Nat → Fc) : Prop where
  n : NdL w na nl nd
  r : FtSl w ra rl FR
  s : ISl w sa sl SD
  b : FSl w ba bl BF
  hn : nl ≤ 1048576
  hr : rl ≤ 1048576
  hs : sl ≤ 1048576
  hb : bl ≤ 1048576
theorem WdR.below {w w' : World} {na : Option Addr} {nl : Nat} {ra : Option Addr} {rl : Nat} {sa : Option Addr} {sl : Nat} {ba : Option Addr} {bl : Nat} {nd : Nat → Nod} {FR : Nat → Ft} {SD : Nat → Int} {BF : Nat → Fc} (h : WdR w na nl ra rl sa sl ba bl nd FR SD BF) (k : Below w.heap.size w w') : WdR w' na nl ra rl sa sl ba bl nd FR SD BF :=
  ⟨h.n.below k, h.r.below k, h.s.below k, h.b.below k, h.hn, h.hr, h.hs, h.hb⟩
def s6_6 : List Stp := [⟨some 32, .fieldAddr 34 (.tmp 1) 0, 0, none, 0⟩, ⟨some 33, .load 30 (.tmp 32), 30, none, 0⟩, ⟨some 34, .move (.tmp 3), 3, none, 0⟩, ⟨some 35, .indexAddr 30 (.tmp 33) (.tmp 34), 0, none, 0⟩, ⟨some 36, .fieldAddr 51 (.tmp 35) 0, 0, none, 0⟩, ⟨some 37, .load 3 (.tmp 36), 3, none, 0⟩, ⟨some 38, .move (.tmp 3), 3, none, 0⟩, ⟨some 39, .binOp .neq 3 (.tmp 37) (.tmp 38) 3, 4, none, 2⟩, ⟨some 40, .move (.tmp 39), 4, none, 0⟩, ⟨some 41, .fieldAddr 34 (.tmp 1) 0, 0, some (40, false), 0⟩, ⟨some 42, .load 30 (.tmp 41), 30, some (40, false), 0⟩, ⟨some 43, .move (.tmp 3), 3, some (40, false), 0⟩, ⟨some 44, .indexAddr 30 (.tmp 42) (.tmp 43), 0, some (40, false), 0⟩, ⟨some 45, .fieldAddr 51 (.tmp 44) 3, 0, some (40, false), 0⟩, ⟨some 46, .load 4 (.tmp 45), 4, some (40, false), 0⟩, ⟨some 47, .move (.tmp 3), 3, some (40, false), 0⟩, ⟨some 48, .call { callee := .value (.func 16), args := #[.tmp 47], argTypes := #[3] }, 4, some (40, false), 1⟩, ⟨some 49, .binOp .neq 4 (.tmp 46) (.tmp 48) 4, 4, some (40, false), 2⟩, ⟨some 50, .pick (.tmp 40) (.const (.bool true)) (.tmp 49), 4, none, 0⟩, ⟨some 51, .move (.tmp 50), 4, none, 0⟩, ⟨some 52, .fieldAddr 34 (.tmp 1) 0, 0, some (51, false), 0⟩, ⟨some 53, .load 30 (.tmp 52), 30, some (51, false), 0⟩, ⟨some 54, .move (.tmp 3), 3, some (51, false), 0⟩, ⟨some 55, .indexAddr 30 (.tmp 53) (.tmp 54), 0, some (51, false), 0⟩, ⟨some 56, .load 51 (.tmp 55), 51, some (51, false), 0⟩, ⟨some 57, .call { callee := .value (.func 17), args := #[.tmp 56], argTypes := #[51] }, 4, some (51, false), 1⟩, ⟨some 58, .unOp .not 4 (.tmp 57), 4, some (51, false), 2⟩, ⟨some 59, .pick (.tmp 51) (.const (.bool true)) (.tmp 58), 4, none, 0⟩, ⟨some 60, .move (.tmp 59), 4, none, 0⟩, ⟨some 61, .fieldAddr 34 (.tmp 1) 2, 0, some (60, false), 0⟩, ⟨some 62, .load 24 (.tmp 61), 24, some (60, false), 0⟩, ⟨some 63, .move (.tmp 3), 3, some (60, false), 0⟩, ⟨some 64, .indexAddr 24 (.tmp 62) (.tmp 63), 0, some (60, false), 0⟩, ⟨some 65, .load 3 (.tmp 64), 3, some (60, false), 0⟩, ⟨some 66, .call { callee := .value (.func 18), args := #[.tmp 65, .const (.int .i64 0), .const (.int .i64 2)], argTypes := #[3, 3, 3] }, 4, some (60, false), 1⟩, ⟨some 67, .unOp .not 4 (.tmp 66), 4, some (60, false), 2⟩, ⟨some 68, .pick (.tmp 60) (.const (.bool true)) (.tmp 67), 4, none, 0⟩]
def t6_6 : List (Nat × Nat) := [(0, 0), (1, 0), (2, 0), (3, 0), (4, 0), (5, 0), (6, 0), (7, 2), (8, 0), (9, 0), (10, 0), (11, 0), (12, 0), (13, 0), (14, 0), (15, 0), (16, 1), (17, 2), (18, 0), (19, 0), (20, 0), (21, 0), (22, 0), (23, 0), (24, 0), (25, 1), (26, 2), (27, 0), (28, 0), (29, 0), (30, 0), (31, 0), (32, 0), (33, 0), (34, 1), (35, 2), (36, 0)]
def s6_16 : List Stp := [⟨some 101, .fieldAddr 34 (.tmp 1) 3, 0, none, 0⟩, ⟨some 102, .load 32 (.tmp 101), 32, none, 0⟩, ⟨some 103, .move (.tmp 5), 3, none, 0⟩, ⟨some 104, .indexAddr 32 (.tmp 102) (.tmp 103), 0, none, 0⟩, ⟨some 105, .load 59 (.tmp 104), 59, none, 0⟩, ⟨some 106, .call { callee := .value (.func 19), args := #[.tmp 105], argTypes := #[59] }, 4, none, 1⟩, ⟨some 107, .unOp .not 4 (.tmp 106), 4, none, 2⟩, ⟨some 108, .move (.tmp 107), 4, none, 0⟩, ⟨some 109, .move (.tmp 5), 3, some (108, false), 0⟩, ⟨some 110, .binOp .gtr 3 (.tmp 109) (.const (.int .i64 0)) 3, 4, some (108, false), 2⟩, ⟨some 111, .move (.tmp 110), 4, some (108, false), 0⟩, ⟨some 112, .fieldAddr 34 (.tmp 1) 3, 0, some (111, true), 0⟩, ⟨some 113, .load 32 (.tmp 112), 32, some (111, true), 0⟩, ⟨some 114, .move (.tmp 5), 3, some (111, true), 0⟩, ⟨some 115, .binOp .sub 3 (.tmp 114) (.const (.int .i64 1)) 3, 3, some (111, true), 0⟩, ⟨some 116, .indexAddr 32 (.tmp 113) (.tmp 115), 0, some (111, true), 0⟩, ⟨some 117, .load 59 (.tmp 116), 59, some (111, true), 0⟩, ⟨some 118, .fieldAddr 34 (.tmp 1) 3, 0, some (111, true), 0⟩, ⟨some 119, .load 32 (.tmp 118), 32, some (111, true), 0⟩, ⟨some 120, .move (.tmp 5), 3, some (111, true), 0⟩, ⟨some 121, .indexAddr 32 (.tmp 119) (.tmp 120), 0, some (111, true), 0⟩, ⟨some 122, .load 59 (.tmp 121), 59, some (111, true), 0⟩, ⟨some 123, .call { callee := .value (.func 20), args := #[.tmp 117, .tmp 122], argTypes := #[59, 59] }, 4, some (111, true), 1⟩, ⟨some 124, .unOp .not 4 (.tmp 123), 4, some (111, true), 2⟩, ⟨some 125, .pick (.tmp 111) (.tmp 124) (.const (.bool false)), 4, some (108, false), 0⟩, ⟨some 126, .pick (.tmp 108) (.const (.bool true)) (.tmp 125), 4, none, 0⟩]
def t6_16 : List (Nat × Nat) := [(0, 0), (1, 0), (2, 0), (3, 0), (4, 0), (5, 1), (6, 2), (7, 0), (8, 0), (9, 2), (10, 0), (11, 0), (12, 0), (13, 0), (14, 0), (15, 0), (16, 0), (17, 0), (18, 0), (19, 0), (20, 0), (21, 0), (22, 1), (23, 2), (24, 0), (25, 0)]
set_option maxRecDepth 20000 in
set_option maxHeartbeats 8000000 in
theorem wldS_any (na : Option Addr) (nl nc : Nat) (ra : Option Addr) (rl rc : Nat) (sa : Option Addr) (sl sc : Nat) (ba : Option Addr) (bl bc : Nat) (nd : Nat → Nod) (FR : Nat → Ft) (SD : Nat → Int) (BF : Nat → Fc) (w : World) (h : WdR w na nl ra rl sa sl ba bl nd FR SD BF) :
    Calls Tryz.prog 6 #[.agg #[.slice na nl nc, .slice ra rl rc, .slice sa sl sc, .slice ba bl bc]] w fun e w' => e = .returned (.bool (wldB nl nd rl FR sl SD bl BF)) ∧ Below w.heap.size w w' := by
  have b0 := balloc (.cells #[.slice na nl nc, .slice ra rl rc, .slice sa sl sc, .slice ba bl bc] 34) (Below.refl w.heap.size w)
  have X := Ws.box (w := w) #[.slice na nl nc, .slice ra rl rc, .slice sa sl sc, .slice ba bl bc] 34
  have h0 := h.below b0
  go_enter Tryz.func6, Tryz.ntmps6
  go_upto_region 1 with fail
  generalize w.alloc (.cells #[.slice na nl nc, .slice ra rl rc, .slice sa sl sc, .slice ba bl bc] 34) = u at *
  have e0 := X.c 0 (.slice na nl nc) rfl
  have e1 := X.c 1 (.slice ra rl rc) rfl
  have e2 := X.c 2 (.slice sa sl sc) rfl
  have e3 := X.c 3 (.slice ba bl bc) rfl
  clear X h
  obtain ⟨KB, hKB⟩ : ∃ K, Hid (w.heap.size = K) := ⟨_, rfl⟩
  by_cases h1 : nl = 8
  case neg =>
    have h1' : ¬ (nl : Int) = 8 := by omega
    have hno : Hid (wldB nl nd rl FR sl SD bl BF = false) := by
      unfold Hid wldB
      rw [decide_eq_false h1]
      simp
    clear h1
    go_wp2
    go_ret
    exact ⟨ret_bool hno.out.symm, b0⟩
  subst h1
  by_cases h2 : sl = 8
  case neg =>
    have h2' : ¬ (sl : Int) = 8 := by omega
    have hno : Hid (wldB 8 nd rl FR sl SD bl BF = false) := by
      unfold Hid wldB
      rw [decide_eq_false h2]
      simp
    clear h2
    go_wp2
    go_ret
    exact ⟨ret_bool hno.out.symm, b0⟩
  subst h2
  by_cases h3 : rl ≤ 60
  case neg =>
    have h3' : (60 : Int) < (rl : Int) := by omega
    have hno : Hid (wldB 8 nd rl FR 8 SD bl BF = false) := by
      unfold Hid wldB
      rw [decide_eq_false h3]
      simp
    clear h3
    go_wp2
    go_ret
    exact ⟨ret_bool hno.out.symm, b0⟩
  have h3' : ¬ (60 : Int) < (rl : Int) := by omega
  go_wp2
  go_loopw [3] (fun i wr => ∃ k : Nat, k ≤ 8 ∧ i = .int .i64 k ∧ Below u.heap.size u wr ∧ ∀ j, j < k → nokB j (nd j) = true ∧ inb (SD j) 0 2 = true) (fun i _ => 8 - (intOf i).toNat)
  case atStart => exact ⟨0, Nat.zero_le _, rfl, Below.refl _ _, fun j hj => by omega⟩
  case round =>
    obtain ⟨k, hk, rfl, hb, hall⟩ := hrel
    have x0 := keep_below hb e0
    have x2 := keep_below hb e2
    by_cases hlt : k < 8
    · obtain ⟨b, off, rfl, _, hf⟩ := (h0.n.below hb) (by omega)
      obtain ⟨L, c1, c2⟩ := hf k hlt
      obtain ⟨sb, so, rfl, hsl, hsf⟩ := (h0.s.below hb) (by omega)
      have d0 := hsf k hlt
      have i0 : (0 : Int) ≤ (k : Int) := by omega
      have i1 : (k : Int) < 8 := by omega
      have hno' : Hid ((nokB k (nd k) && inb (SD k) 0 2) = false → wldB 8 nd rl FR 8 SD bl BF = false) := fun q => by
        unfold wldB
        rw [sdn_no hlt q]
        simp
      have hyes : Hid ((nokB k (nd k) && inb (SD k) 0 2) = true → ∀ j, j < k + 1 → nokB j (nd j) = true ∧ inb (SD j) 0 2 = true) := fun q j hj => by
        by_cases e : j = k
        · subst e; simpa using q
        · exact hall j (by omega)
      clear hall hf hsf
      obtain ⟨n, hn⟩ : ∃ n, Hid (nd k = n) := ⟨_, rfl⟩
      obtain ⟨y, hy⟩ : ∃ y, Hid (SD k = y) := ⟨_, rfl⟩
      rw [hn.out, hy.out] at hno' hyes
      rw [hn.out] at c1 c2
      rw [hy.out] at d0
      clear hn hy
      have c0 := c1 0 (.int .i64 n.me) rfl
      have c3 := c1 3 (.bool n.gate) rfl
      simp only [Nat.add_zero] at c0
      obtain ⟨gv, hgv⟩ : ∃ g, Hid (gtB k = g) := ⟨_, rfl⟩
      have gS : ∀ w1, Calls Tryz.prog 16 #[.int .i64 (k : Int)] w1 fun r w' => r = .returned (.bool gv) ∧ Below w1.heap.size w1 w' := fun w1 => (gateS_any k w1).mono (by rintro r w' ⟨rfl, rfl⟩; exact ⟨by rw [hgv.out], Below.refl _ _⟩)
      obtain ⟨qv, hqv⟩ : ∃ g, Hid (nodQ n = g) := ⟨_, rfl⟩
      have ct : ∀ w1, Below wr.heap.size wr w1 → Calls Tryz.prog 17 #[.agg (ndC n L)] w1 fun r w' => r = .returned (.bool qv) ∧ Below w1.heap.size w1 w' := fun w1 q => by
        rw [← hqv.out]
        exact okS_nod n L w1 (c2.below q)
      obtain ⟨sv, hsv⟩ : ∃ g, Hid (inb y 0 2 = g) := ⟨_, rfl⟩
      have li : ∀ w1, Calls Tryz.prog 18 #[.int .i64 y, .int .i64 0, .int .i64 2] w1 fun r w' => r = .returned (.bool sv) ∧ Below w1.heap.size w1 w' := fun w1 => (lin_any y 0 2 w1).mono (by rintro r w' ⟨rfl, rfl⟩; exact ⟨by rw [hsv.out], Below.refl _ _⟩)
      have hnok : Hid ((nokB k n && inb y 0 2) = (decide (n.me = (k : Int)) && decide (n.gate = gv) && qv && sv)) := by
        unfold Hid nokB
        rw [hgv.out, hqv.out, hsv.out]
      clear hgv hqv hsv c2
      rw [hnok.out] at hno' hyes
      clear hnok
      go_upto_region 6 with fail
      by_cases e1 : n.me = (k : Int)
      · have y1 : Hid (n.me = (k : Int)) := e1
        clear e1
        by_cases e2 : n.gate = gv
        · have y2 : Hid (n.gate = gv) := e2
          clear e2
          cases qv
          · have hno : Hid (wldB 8 nd rl FR 8 SD bl BF = false) := hno'.out (by simp)
            clear hno' hyes
            refine wp_region_q s6_6 t6_6 (fun hbq => ?_)
            refine qY ?_
            refine qL ?_
            iterate 3 refine qY ?_
            refine qL ?_
            refine qY ?_
            refine qV (.bool false) ?_ (by (intro w; go_simp; all_goals (first | with_reducible rfl | (simp [y1.out]; done) | assumption | (simp; done) | (simp; omega))))
            iterate 2 refine qY ?_
            refine qL ?_
            iterate 3 refine qY ?_
            refine qL ?_
            refine qY ?_
            refine qC (fun K hK => ?_)
            go_simp
            refine (gS _).mono ?_; rintro r w1 ⟨rfl, k1⟩
            go_wp2_with fail
            refine hK.out _ _ (btrans hbq k1) (.inl ?_)
            clear hK K
            replace hbq := btrans hbq k1
            clear k1
            try simp only [putQ]
            refine qV (.bool false) ?_ (by (intro w; go_simp; all_goals (first | with_reducible rfl | (simp [y2.out]; done) | assumption | (simp; done) | (simp; omega))))
            iterate 3 refine qY ?_
            refine qL ?_
            iterate 2 refine qY ?_
            refine qR ?_
            refine qC (fun K hK => ?_)
            go_simp
            refine (ct _ hbq).mono ?_; rintro r w2 ⟨rfl, k2⟩
            go_wp2_with fail
            refine hK.out _ _ (btrans hbq k2) (.inl ?_)
            clear hK K
            replace hbq := btrans hbq k2
            clear k2
            try simp only [putQ]
            refine qV (.bool true) ?_
            iterate 2 refine qY ?_
            iterate 7 refine qN ?_
            refine qY ?_
            refine qE ?_
            have hb1 := btrans hb hbq
            clear ct gS li c0 c3 c1 d0 x0 x2
            go_wp2
            go_ret
            exact ⟨ret_bool hno.out.symm, btrans b0 hb1⟩
          · cases sv
            · have hno : Hid (wldB 8 nd rl FR 8 SD bl BF = false) := hno'.out (by simp)
              clear hno' hyes
              refine wp_region_q s6_6 t6_6 (fun hbq => ?_)
              refine qY ?_
              refine qL ?_
              iterate 3 refine qY ?_
              refine qL ?_
              refine qY ?_
              refine qV (.bool false) ?_ (by (intro w; go_simp; all_goals (first | with_reducible rfl | (simp [y1.out]; done) | assumption | (simp; done) | (simp; omega))))
              iterate 2 refine qY ?_
              refine qL ?_
              iterate 3 refine qY ?_
              refine qL ?_
              refine qY ?_
              refine qC (fun K hK => ?_)
              go_simp
              refine (gS _).mono ?_; rintro r w1 ⟨rfl, k1⟩
              go_wp2_with fail
              refine hK.out _ _ (btrans hbq k1) (.inl ?_)
              clear hK K
              replace hbq := btrans hbq k1
              clear k1
              try simp only [putQ]
              refine qV (.bool false) ?_ (by (intro w; go_simp; all_goals (first | with_reducible rfl | (simp [y2.out]; done) | assumption | (simp; done) | (simp; omega))))
              iterate 3 refine qY ?_
              refine qL ?_
              iterate 2 refine qY ?_
              refine qR ?_
              refine qC (fun K hK => ?_)
              go_simp
              refine (ct _ hbq).mono ?_; rintro r w2 ⟨rfl, k2⟩
              go_wp2_with fail
              refine hK.out _ _ (btrans hbq k2) (.inl ?_)
              clear hK K
              replace hbq := btrans hbq k2
              clear k2
              try simp only [putQ]
              refine qV (.bool false) ?_
              iterate 3 refine qY ?_
              refine qL ?_
              iterate 2 refine qY ?_
              refine qL ?_
              refine qC (fun K hK => ?_)
              go_simp
              refine (li _).mono ?_; rintro r w3 ⟨rfl, k3⟩
              go_wp2_with fail
              refine hK.out _ _ (btrans hbq k3) (.inl ?_)
              clear hK K
              replace hbq := btrans hbq k3
              clear k3
              try simp only [putQ]
              refine qV (.bool true) ?_
              refine qY ?_
              refine qE ?_
              have hb1 := btrans hb hbq
              clear ct gS li c0 c3 c1 d0 x0 x2
              go_wp2
              go_ret
              exact ⟨ret_bool hno.out.symm, btrans b0 hb1⟩
            · have hya := hyes.out (by rw [y1.out, y2.out]; simp)
              clear hno' hyes
              refine wp_region_q s6_6 t6_6 (fun hbq => ?_)
              refine qY ?_
              refine qL ?_
              iterate 3 refine qY ?_
              refine qL ?_
              refine qY ?_
              refine qV (.bool false) ?_ (by (intro w; go_simp; all_goals (first | with_reducible rfl | (simp [y1.out]; done) | assumption | (simp; done) | (simp; omega))))
              iterate 2 refine qY ?_
              refine qL ?_
              iterate 3 refine qY ?_
              refine qL ?_
              refine qY ?_
              refine qC (fun K hK => ?_)
              go_simp
              refine (gS _).mono ?_; rintro r w1 ⟨rfl, k1⟩
              go_wp2_with fail
              refine hK.out _ _ (btrans hbq k1) (.inl ?_)
              clear hK K
              replace hbq := btrans hbq k1
              clear k1
              try simp only [putQ]
              refine qV (.bool false) ?_ (by (intro w; go_simp; all_goals (first | with_reducible rfl | (simp [y2.out]; done) | assumption | (simp; done) | (simp; omega))))
              iterate 3 refine qY ?_
              refine qL ?_
              iterate 2 refine qY ?_
              refine qR ?_
              refine qC (fun K hK => ?_)
              go_simp
              refine (ct _ hbq).mono ?_; rintro r w2 ⟨rfl, k2⟩
              go_wp2_with fail
              refine hK.out _ _ (btrans hbq k2) (.inl ?_)
              clear hK K
              replace hbq := btrans hbq k2
              clear k2
              try simp only [putQ]
              refine qV (.bool false) ?_
              iterate 3 refine qY ?_
              refine qL ?_
              iterate 2 refine qY ?_
              refine qL ?_
              refine qC (fun K hK => ?_)
              go_simp
              refine (li _).mono ?_; rintro r w3 ⟨rfl, k3⟩
              go_wp2_with fail
              refine hK.out _ _ (btrans hbq k3) (.inl ?_)
              clear hK K
              replace hbq := btrans hbq k3
              clear k3
              try simp only [putQ]
              refine qV (.bool false) ?_
              refine qY ?_
              refine qE ?_
              have hb1 := btrans hb hbq
              clear ct gS li c0 c3 c1 d0 x0 x2
              go_wp2
              go_roundw
              case rel => exact ⟨k + 1, by omega, by go_num, hb1, hya⟩
              case measure => simp [intOf]; omega
        · have hno : Hid (wldB 8 nd rl FR 8 SD bl BF = false) := hno'.out (by simp [e2])
          clear hno' hyes
          refine wp_region_q s6_6 t6_6 (fun hbq => ?_)
          refine qY ?_
          refine qL ?_
          iterate 3 refine qY ?_
          refine qL ?_
          refine qY ?_
          refine qV (.bool false) ?_ (by (intro w; go_simp; all_goals (first | with_reducible rfl | (simp [y1.out]; done) | assumption | (simp; done) | (simp; omega))))
          iterate 2 refine qY ?_
          refine qL ?_
          iterate 3 refine qY ?_
          refine qL ?_
          refine qY ?_
          refine qC (fun K hK => ?_)
          go_simp
          refine (gS _).mono ?_; rintro r w1 ⟨rfl, k1⟩
          go_wp2_with fail
          refine hK.out _ _ (btrans hbq k1) (.inl ?_)
          clear hK K
          replace hbq := btrans hbq k1
          clear k1
          try simp only [putQ]
          refine qV (.bool true) ?_ (by (intro w; go_simp; all_goals (first | with_reducible rfl | (simp [e2]; done) | assumption | (simp; done) | (simp; omega))))
          iterate 2 refine qY ?_
          iterate 7 refine qN ?_
          iterate 2 refine qY ?_
          iterate 7 refine qN ?_
          refine qY ?_
          refine qE ?_
          have hb1 := btrans hb hbq
          clear ct gS li c0 c3 c1 d0 x0 x2
          go_wp2
          go_ret
          exact ⟨ret_bool hno.out.symm, btrans b0 hb1⟩
      · have hno : Hid (wldB 8 nd rl FR 8 SD bl BF = false) := hno'.out (by simp [e1])
        clear hno' hyes
        refine wp_region_q s6_6 t6_6 (fun hbq => ?_)
        refine qY ?_
        refine qL ?_
        iterate 3 refine qY ?_
        refine qL ?_
        refine qY ?_
        refine qV (.bool true) ?_ (by (intro w; go_simp; all_goals (first | with_reducible rfl | (simp [e1]; done) | assumption | (simp; done) | (simp; omega))))
        refine qY ?_
        iterate 9 refine qN ?_
        iterate 2 refine qY ?_
        iterate 7 refine qN ?_
        iterate 2 refine qY ?_
        iterate 7 refine qN ?_
        refine qY ?_
        refine qE ?_
        have hb1 := btrans hb hbq
        clear ct gS li c0 c3 c1 d0 x0 x2
        go_wp2
        go_ret
        exact ⟨ret_bool hno.out.symm, btrans b0 hb1⟩
    · have e : k = 8 := by omega
      subst e
      rw [show ((8 : Nat) : Int) = (8 : Int) from rfl]
      clear hlt hk
      have hN : Hid (∀ j, j < 8 → nokB j (nd j) = true ∧ inb (SD j) 0 2 = true) := hall
      clear hall
      have y1 := keep_below hb e1
      go_wp2
      clear x0 x2 y1
      go_loopw [4] (fun i w2 => ∃ k : Nat, k ≤ rl ∧ i = .int .i64 k ∧ Below u.heap.size u w2 ∧ ∀ j, j < k → ftB (FR j).t (FR j).x = true) (fun i _ => rl - (intOf i).toNat)
      case atStart => exact ⟨0, Nat.zero_le _, rfl, hb, fun j hj => by omega⟩
      case round =>
        obtain ⟨k, hk, rfl, hb2, hall⟩ := hrel
        clear hb
        have x1 := keep_below hb2 e1
        by_cases hlt : k < rl
        · obtain ⟨b, off, rfl, _, hf⟩ := (h0.r.below hb2) (by omega)
          obtain ⟨c0, c1, c2⟩ := hf k hlt
          have i0 : (0 : Int) ≤ (k : Int) := by omega
          have i1 : (k : Int) < (rl : Int) := by omega
          have hno' : Hid (ftB (FR k).t (FR k).x = false → wldB 8 nd rl FR 8 SD bl BF = false) := fun q => by
            unfold wldB
            rw [fta_no hlt q]
            simp
          have hyes : Hid (ftB (FR k).t (FR k).x = true → ∀ j, j < k + 1 → ftB (FR j).t (FR j).x = true) := fun q j hj => by
            by_cases e : j = k
            · subst e; exact q
            · exact hall j (by omega)
          clear hall hf
          obtain ⟨x, hx⟩ : ∃ x, Hid (FR k = x) := ⟨_, rfl⟩
          rw [hx.out] at hno' hyes c0 c1 c2
          clear hx
          obtain ⟨t, x, s⟩ := x
          dsimp only at hno' hyes c0 c1 c2
          obtain ⟨tv, htv⟩ : ∃ g, Hid (inb t 0 7 = g) := ⟨_, rfl⟩
          have li : ∀ w1, Calls Tryz.prog 18 #[.int .i64 t, .int .i64 0, .int .i64 7] w1 fun r w' => r = .returned (.bool tv) ∧ w' = w1 := fun w1 => (lin_any t 0 7 w1).mono (by rintro r w' ⟨rfl, rfl⟩; exact ⟨by rw [htv.out], rfl⟩)
          have hft : Hid (ftB t x = (tv && decide (x.size ≤ 300))) := by
            unfold Hid ftB
            rw [htv.out]
          clear htv
          rw [hft.out] at hno' hyes
          clear hft
          go_wp2_with fail
          refine (li _).mono ?_
          rintro r w3 ⟨rfl, rfl⟩
          cases tv
          · have hno : Hid (wldB 8 nd rl FR 8 SD bl BF = false) := hno'.out (by simp)
            clear hno' hyes
            go_wp2
            go_ret
            exact ⟨ret_bool hno.out.symm, btrans b0 hb2⟩
          · by_cases h300 : x.size ≤ 300
            · have h3a : ¬ (300 : Int) < (x.size : Int) := by omega
              have hya := hyes.out (by simp [h300])
              clear hno' hyes h300
              go_wp2
              go_roundw
              case rel => exact ⟨k + 1, by omega, by go_num, hb2, hya⟩
              case measure => simp [intOf]; omega
            · have h3a : (300 : Int) < (x.size : Int) := by omega
              have hno : Hid (wldB 8 nd rl FR 8 SD bl BF = false) := hno'.out (by simp [h300])
              clear hno' hyes h300
              go_wp2
              go_ret
              exact ⟨ret_bool hno.out.symm, btrans b0 hb2⟩
        · have e : k = rl := by omega
          subst e
          clear hlt hk
          have hT : Hid (∀ j, j < k → ftB (FR j).t (FR j).x = true) := hall
          clear hall
          have y3 := keep_below hb2 e3
          go_wp2
          clear x1 y3
          go_loopw [5] (fun i w2 => ∃ k : Nat, k ≤ bl ∧ i = .int .i64 k ∧ Below u.heap.size u w2 ∧ ∀ j, j < k → fokB (BF j).n (BF j).i (BF j).s = true ∧ (0 < j → fle (BF (j - 1)) (BF j) = true)) (fun i _ => bl - (intOf i).toNat)
          case atStart => exact ⟨0, Nat.zero_le _, rfl, hb2, fun j hj => by omega⟩
          case round =>
            obtain ⟨m, hm, rfl, hb, hall⟩ := hrel
            clear hb2
            have x3 := keep_below hb e3
            by_cases hlt : m < bl
            · obtain ⟨b, off, rfl, _, hf⟩ := (h0.b.below hb) (by omega)
              obtain ⟨c0, c1, c2, c3⟩ := hf m hlt
              have hno' : Hid (fokB (BF m).n (BF m).i (BF m).s = false → wldB 8 nd k FR 8 SD bl BF = false) := fun q => by
                unfold wldB
                rw [born_no hlt q]
                simp
              cases m with
              | zero =>
                have hyes : Hid (fokB (BF 0).n (BF 0).i (BF 0).s = true → ∀ j, j < 0 + 1 → fokB (BF j).n (BF j).i (BF j).s = true ∧ (0 < j → fle (BF (j - 1)) (BF j) = true)) := fun q j hj => by
                  obtain rfl : j = 0 := by omega
                  exact ⟨q, fun z => by omega⟩
                clear hall hf
                obtain ⟨x, hx⟩ : ∃ x, Hid (BF 0 = x) := ⟨_, rfl⟩
                rw [hx.out] at hno' hyes c0 c1 c2 c3
                clear hx
                obtain ⟨n, i, s, g⟩ := x
                dsimp only at hno' hyes c0 c1 c2 c3
                obtain ⟨fv, hfv⟩ : ∃ g, Hid (fokB n i s = g) := ⟨_, rfl⟩
                have fk : ∀ w1, Calls Tryz.prog 19 #[.agg #[.int .i64 n, .int .i64 i, .int .i64 s, .bool g]] w1 fun r w' => r = .returned (.bool fv) ∧ Below w1.heap.size w1 w' := fun w1 => sfok_lit n i s g fv hfv.out w1
                rw [hfv.out] at hno' hyes
                clear hfv
                simp only [Nat.zero_mul, Nat.add_zero] at c0 c1 c2 c3
                have hrg := range4 c0 c1 c2 c3
                have i1 : (0 : Int) < (bl : Int) := by omega
                rw [show ((0 : Nat) : Int) = (0 : Int) from rfl]
                go_upto_region 16 with fail
                cases fv
                · have hno : Hid (wldB 8 nd k FR 8 SD bl BF = false) := hno'.out rfl
                  clear hno' hyes
                  refine wp_region_q s6_16 t6_16 (fun hbq => ?_)
                  refine qY ?_
                  refine qL ?_
                  iterate 2 refine qY ?_
                  refine qR ?_
                  refine qC (fun K hK => ?_)
                  go_simp
                  refine (fk _).mono ?_; rintro r w1 ⟨rfl, k1⟩
                  go_wp2_with fail
                  refine hK.out _ _ (btrans hbq k1) (.inl ?_)
                  clear hK K
                  replace hbq := btrans hbq k1
                  clear k1
                  try simp only [putQ]
                  refine qV (.bool true) ?_
                  refine qY ?_
                  iterate 17 refine qN ?_
                  refine qY ?_
                  refine qE ?_
                  have hb1 := btrans hb hbq
                  clear fk x3 c0 c1 c2 c3 hrg
                  go_wp2
                  go_ret
                  exact ⟨ret_bool hno.out.symm, btrans b0 hb1⟩
                · have hya := hyes.out rfl
                  clear hno' hyes
                  refine wp_region_q s6_16 t6_16 (fun hbq => ?_)
                  refine qY ?_
                  refine qL ?_
                  iterate 2 refine qY ?_
                  refine qR ?_
                  refine qC (fun K hK => ?_)
                  go_simp
                  refine (fk _).mono ?_; rintro r w1 ⟨rfl, k1⟩
                  go_wp2_with fail
                  refine hK.out _ _ (btrans hbq k1) (.inl ?_)
                  clear hK K
                  replace hbq := btrans hbq k1
                  clear k1
                  try simp only [putQ]
                  refine qV (.bool false) ?_
                  iterate 2 refine qY ?_
                  refine qV (.bool false) ?_
                  refine qY ?_
                  iterate 13 refine qN ?_
                  iterate 2 refine qY ?_
                  refine qE ?_
                  have hb1 := btrans hb hbq
                  clear fk x3 c0 c1 c2 c3 hrg
                  go_wp2
                  go_roundw
                  case rel => exact ⟨1, by omega, by go_num, hb1, hya⟩
                  case measure => simp [intOf]; omega
              | succ m =>
                obtain ⟨d0, d1, d2, d3⟩ := hf m (by omega)
                have hno2 : Hid (fle (BF m) (BF (m + 1)) = false → wldB 8 nd k FR 8 SD bl BF = false) := fun q => by
                  unfold wldB
                  rw [born_no2 hlt q]
                  simp
                have hyes : Hid (fokB (BF (m + 1)).n (BF (m + 1)).i (BF (m + 1)).s = true → fle (BF m) (BF (m + 1)) = true → ∀ j, j < m + 1 + 1 → fokB (BF j).n (BF j).i (BF j).s = true ∧ (0 < j → fle (BF (j - 1)) (BF j) = true)) := fun q q2 j hj => by
                  by_cases e : j = m + 1
                  · subst e; exact ⟨q, fun _ => by rw [Nat.add_sub_cancel]; exact q2⟩
                  · exact hall j (by omega)
                clear hall hf
                obtain ⟨x, hx⟩ : ∃ x, Hid (BF (m + 1) = x) := ⟨_, rfl⟩
                obtain ⟨y, hy⟩ : ∃ x, Hid (BF m = x) := ⟨_, rfl⟩
                rw [hx.out] at hno' hno2 hyes c0 c1 c2 c3
                rw [hy.out] at hno2 hyes d0 d1 d2 d3
                clear hx hy
                unfold fle at hno2 hyes
                obtain ⟨n, i, s, g⟩ := x
                obtain ⟨n', i', s', g'⟩ := y
                dsimp only at hno' hno2 hyes c0 c1 c2 c3 d0 d1 d2 d3
                obtain ⟨fv, hfv⟩ : ∃ g, Hid (fokB n i s = g) := ⟨_, rfl⟩
                have fk : ∀ w1, Calls Tryz.prog 19 #[.agg #[.int .i64 n, .int .i64 i, .int .i64 s, .bool g]] w1 fun r w' => r = .returned (.bool fv) ∧ Below w1.heap.size w1 w' := fun w1 => sfok_lit n i s g fv hfv.out w1
                obtain ⟨lv, hlv⟩ : ∃ l, Hid (lessB n' i' s' g' n i s g = l) := ⟨_, rfl⟩
                have ls : ∀ w1, Calls Tryz.prog 20 #[.agg #[.int .i64 n', .int .i64 i', .int .i64 s', .bool g'], .agg #[.int .i64 n, .int .i64 i, .int .i64 s, .bool g]] w1 fun r w' => r = .returned (.bool lv) ∧ Below w1.heap.size w1 w' := fun w1 => by
                  rw [← hlv.out]
                  exact less_any n' i' s' g' n i s g w1
                have hyes' : Hid (fv = true → lv = true → ∀ j, j < m + 1 + 1 → fokB (BF j).n (BF j).i (BF j).s = true ∧ (0 < j → fle (BF (j - 1)) (BF j) = true)) := fun q q2 => hyes.out (hfv.out.trans q) (hlv.out.trans q2)
                rw [hfv.out] at hno'
                rw [hlv.out] at hno2
                clear hfv hlv hyes
                have hrg := range4 c0 c1 c2 c3
                have hrd := range4 d0 d1 d2 d3
                have e9 : ((m + 1 : Nat) : Int) = (m : Int) + 1 := by omega
                rw [e9]
                clear e9
                have hbl := h0.hb
                have i0 : (0 : Int) ≤ (m : Int) := by omega
                have i1 : (m : Int) < (bl : Int) := by omega
                have i2 : (0 : Int) ≤ (m : Int) + 1 := by omega
                have i3 : (m : Int) + 1 < (bl : Int) := by omega
                have i4 : IntKind.i64.wrap (m : Int) = (m : Int) := by have := h0.hb; rw [IntKind.wrap_i64]; omega
                have i5 : IntKind.i64.wrap ((m : Int) + 1 - 1) = (m : Int) := by have := h0.hb; rw [IntKind.wrap_i64]; omega
                have i6 : (0 : Int) < (m : Int) + 1 := by omega
                go_upto_region 16 with fail
                cases fv
                · have hno : Hid (wldB 8 nd k FR 8 SD bl BF = false) := hno'.out rfl
                  clear hno' hno2 hyes'
                  refine wp_region_q s6_16 t6_16 (fun hbq => ?_)
                  refine qY ?_
                  refine qL ?_
                  iterate 2 refine qY ?_
                  refine qR ?_
                  refine qC (fun K hK => ?_)
                  go_simp
                  refine (fk _).mono ?_; rintro r w1 ⟨rfl, k1⟩
                  go_wp2_with fail
                  refine hK.out _ _ (btrans hbq k1) (.inl ?_)
                  clear hK K
                  replace hbq := btrans hbq k1
                  clear k1
                  try simp only [putQ]
                  refine qV (.bool true) ?_
                  refine qY ?_
                  iterate 17 refine qN ?_
                  refine qY ?_
                  refine qE ?_
                  have hb1 := btrans hb hbq
                  clear fk ls x3 c0 c1 c2 c3 d0 d1 d2 d3 hrg hrd
                  go_wp2
                  go_ret
                  exact ⟨ret_bool hno.out.symm, btrans b0 hb1⟩
                · cases lv
                  · have hno : Hid (wldB 8 nd k FR 8 SD bl BF = false) := hno2.out rfl
                    clear hno' hno2 hyes'
                    refine wp_region_q s6_16 t6_16 (fun hbq => ?_)
                    refine qY ?_
                    refine qL ?_
                    iterate 2 refine qY ?_
                    refine qR ?_
                    refine qC (fun K hK => ?_)
                    go_simp
                    refine (fk _).mono ?_; rintro r w1 ⟨rfl, k1⟩
                    go_wp2_with fail
                    refine hK.out _ _ (btrans hbq k1) (.inl ?_)
                    clear hK K
                    replace hbq := btrans hbq k1
                    clear k1
                    try simp only [putQ]
                    refine qV (.bool false) ?_
                    iterate 2 refine qY ?_
                    refine qV (.bool true) ?_
                    iterate 2 refine qY ?_
                    refine qL ?_
                    iterate 3 refine qY ?_
                    refine qR ?_
                    refine qY ?_
                    refine qL ?_
                    iterate 2 refine qY ?_
                    refine qR ?_
                    refine qC (fun K hK => ?_)
                    go_simp
                    refine (ls _).mono ?_; rintro r w2 ⟨rfl, k2⟩
                    go_wp2_with fail
                    refine hK.out _ _ (btrans hbq k2) (.inl ?_)
                    clear hK K
                    replace hbq := btrans hbq k2
                    clear k2
                    try simp only [putQ]
                    refine qV (.bool true) ?_
                    iterate 2 refine qY ?_
                    refine qE ?_
                    have hb1 := btrans hb hbq
                    clear fk ls x3 c0 c1 c2 c3 d0 d1 d2 d3 hrg hrd
                    go_wp2
                    go_ret
                    exact ⟨ret_bool hno.out.symm, btrans b0 hb1⟩
                  · have hya := hyes'.out rfl rfl
                    clear hno' hno2 hyes'
                    refine wp_region_q s6_16 t6_16 (fun hbq => ?_)
                    refine qY ?_
                    refine qL ?_
                    iterate 2 refine qY ?_
                    refine qR ?_
                    refine qC (fun K hK => ?_)
                    go_simp
                    refine (fk _).mono ?_; rintro r w1 ⟨rfl, k1⟩
                    go_wp2_with fail
                    refine hK.out _ _ (btrans hbq k1) (.inl ?_)
                    clear hK K
                    replace hbq := btrans hbq k1
                    clear k1
                    try simp only [putQ]
                    refine qV (.bool false) ?_
                    iterate 2 refine qY ?_
                    refine qV (.bool true) ?_
                    iterate 2 refine qY ?_
                    refine qL ?_
                    iterate 3 refine qY ?_
                    refine qR ?_
                    refine qY ?_
                    refine qL ?_
                    iterate 2 refine qY ?_
                    refine qR ?_
                    refine qC (fun K hK => ?_)
                    go_simp
                    refine (ls _).mono ?_; rintro r w2 ⟨rfl, k2⟩
                    go_wp2_with fail
                    refine hK.out _ _ (btrans hbq k2) (.inl ?_)
                    clear hK K
                    replace hbq := btrans hbq k2
                    clear k2
                    try simp only [putQ]
                    refine qV (.bool false) ?_
                    iterate 2 refine qY ?_
                    refine qE ?_
                    have hb1 := btrans hb hbq
                    clear fk ls x3 c0 c1 c2 c3 d0 d1 d2 d3 hrg hrd
                    go_wp2
                    go_roundw
                    case rel => exact ⟨m + 1 + 1, by omega, by go_num, hb1, hya⟩
                    case measure => simp [intOf]; omega
            · have e : m = bl := by omega
              subst e
              clear hlt hm
              have hyy : Hid (wldB 8 nd k FR 8 SD m BF = true) := by
                unfold Hid wldB
                rw [sdn_yes hN.out, fta_yes hT.out, born_yes hall, decide_eq_true h3]
                rfl
              clear hall hN hT
              go_wp2
              go_ret
              exact ⟨ret_bool hyy.out.symm, btrans b0 hb⟩
end Go.Proofs.YthekjfdggfbelaaGreat
/- Worlds: whether a world is ok, as the program asks; how great a world is; whether worlds are equal. -/
namespace Go.Proofs.YthekjfdggfbelaaGreat
open Go.ChangeShapes Go.WideShapes Go.ChangeAt Go.RowKit
theorem sdn_split (m : Nat) (nd : Nat → Nod) (SD : Nat → Int) : sdnB m nd SD = (decide (∀ k, k < m → nokB k (nd k) = true) && sdA m SD) := by
  unfold sdnB sdA
  rw [← Bool.decide_and]
  congr 1
  apply propext
  exact ⟨fun q => ⟨fun k hk => (q k hk).1, fun k hk => (q k hk).2⟩, fun q k hk => ⟨q.1 k hk, q.2 k hk⟩⟩
theorem wld_same {nl : Nat} {nd : Nat → Nod} {rl : Nat} {FR : Nat → Ft} {sl : Nat} {SD : Nat → Int} {bl : Nat} {BF : Nat → Fc} : (nodesB nl nd && radB rl FR && sidB sl SD && bornB bl BF) = wldB nl nd rl FR sl SD bl BF := by
  rw [born_same]
  unfold wldB nodesB radB sidB
  by_cases h2 : sl = nl
  · subst h2
    rw [sdn_split]
    generalize bornS bl BF = a
    generalize ftA rl FR = b
    generalize sdA sl SD = c
    generalize decide (rl ≤ 60) = d
    generalize decide (∀ k, k < sl → nokB k (nd k) = true) = f
    generalize decide (sl = 8) = e
    revert a b c d f e
    decide
  · by_cases h1 : nl = 8
    · have h3 : ¬ sl = 8 := by omega
      rw [decide_eq_false h3]
      simp
    · rw [decide_eq_false h1]
      simp
set_option maxHeartbeats 1000000 in
theorem wldI_any (na : Option Addr) (nl nc : Nat) (ra : Option Addr) (rl rc : Nat) (sa : Option Addr) (sl sc : Nat) (ba : Option Addr) (bl bc : Nat) (nd : Nat → Nod) (FR : Nat → Ft) (SD : Nat → Int) (BF : Nat → Fc) (w : World) (h : WdR w na nl ra rl sa sl ba bl nd FR SD BF) :
    Calls Tryz.prog 8 #[.agg #[.slice na nl nc, .slice ra rl rc, .slice sa sl sc, .slice ba bl bc]] w fun e w' => e = .returned (.bool (wldB nl nd rl FR sl SD bl BF)) ∧ Below w.heap.size w w' := by
  have hsm := wld_same (nl := nl) (nd := nd) (rl := rl) (FR := FR) (sl := sl) (SD := SD) (bl := bl) (BF := BF)
  obtain ⟨v, hv⟩ : ∃ v, Hid (wldB nl nd rl FR sl SD bl BF = v) := ⟨_, rfl⟩
  rw [hv.out] at hsm
  rw [hv.out]
  clear hv
  have b0 := balloc (.cells #[.slice na nl nc, .slice ra rl rc, .slice sa sl sc, .slice ba bl bc] 34) (Below.refl w.heap.size w)
  have X := Ws.box (w := w) #[.slice na nl nc, .slice ra rl rc, .slice sa sl sc, .slice ba bl bc] 34
  have h0 := h.below b0
  go_enter Tryz.func8, Tryz.ntmps8
  go_upto_region 1 with fail
  generalize w.alloc (.cells #[.slice na nl nc, .slice ra rl rc, .slice sa sl sc, .slice ba bl bc] 34) = u at *
  have e0 := X.c 0 (.slice na nl nc) rfl
  have e1 := X.c 1 (.slice ra rl rc) rfl
  have e2 := X.c 2 (.slice sa sl sc) rfl
  have e3 := X.c 3 (.slice ba bl bc) rfl
  clear X h
  obtain ⟨v0, hv0⟩ : ∃ v, Hid (nodesB nl nd = v) := ⟨_, rfl⟩
  obtain ⟨v1, hv1⟩ : ∃ v, Hid (radB rl FR = v) := ⟨_, rfl⟩
  obtain ⟨v2, hv2⟩ : ∃ v, Hid (sidB sl SD = v) := ⟨_, rfl⟩
  obtain ⟨v3, hv3⟩ : ∃ v, Hid (bornB bl BF = v) := ⟨_, rfl⟩
  rw [hv0.out, hv1.out, hv2.out, hv3.out] at hsm
  have hsm' : Hid ((v0 && v1 && v2 && v3) = v) := hsm
  clear hsm
  go_wp2_with fail
  refine (nodes_any na nl nc nd _ h0.n h0.hn).mono ?_
  rintro r u1 ⟨rfl, k1⟩
  rw [hv0.out]
  have b1 := btrans b0 k1
  have h1 := h0.below k1
  replace e1 := keep_below k1 e1
  replace e2 := keep_below k1 e2
  replace e3 := keep_below k1 e3
  clear e0 hv0 h0 b0 k1
  cases v0
  · clear e1 e2 e3
    go_wp2
    go_ret
    exact ⟨ret_bool (by rw [← hsm'.out]; simp), b1⟩
  go_wp2_with fail
  refine (radio_any ra rl rc FR _ h1.r h1.hr).mono ?_
  rintro r u2 ⟨rfl, k1⟩
  rw [hv1.out]
  have b2 := btrans b1 k1
  have h2 := h1.below k1
  replace e2 := keep_below k1 e2
  replace e3 := keep_below k1 e3
  clear e1 hv1 h1 b1 k1
  cases v1
  · clear e2 e3
    go_wp2
    go_ret
    exact ⟨ret_bool (by rw [← hsm'.out]; simp), b2⟩
  go_wp2_with fail
  refine (sides_any sa sl sc SD _ h2.s h2.hs).mono ?_
  rintro r u3 ⟨rfl, k1⟩
  rw [hv2.out]
  have b3 := btrans b2 k1
  have h3 := h2.below k1
  replace e3 := keep_below k1 e3
  clear e2 hv2 h2 b2 k1
  cases v2
  · clear e3
    go_wp2
    go_ret
    exact ⟨ret_bool (by rw [← hsm'.out]; simp), b3⟩
  go_wp2_with fail
  refine (born_any ba bl bc BF _ h3.b h3.hb).mono ?_
  rintro r u4 ⟨rfl, k1⟩
  rw [hv3.out]
  have b4 := btrans b3 k1
  clear e3 hv3 h3 b3 k1
  go_wp2
  go_ret
  exact ⟨ret_bool (by rw [← hsm'.out]; simp), b4⟩
/-- a world that came in -/
structure WdRaw (w : World) (na : Option Addr) (nl : Nat) (ra : Option Addr) (rl : Nat) (sa : Option Addr) (sl sc : Nat) (ba : Option Addr) (bl bc : Nat) (R : Nat → Rn) (FR : Nat → Ft) (SD : Nat → Int) (BF : Nat → Fc) : Prop where
  n : NSl w na nl R
  nr : ∀ k, k < nl → (R k).Raw w
  r : FtSl w ra rl FR
  rx : ∀ k, k < rl → (FR k).x.size ≤ maxLen
  s : ISl w sa sl SD
  b : FSl w ba bl BF
  hn : nl ≤ maxLen
  hr : rl ≤ maxLen
  hs : sl ≤ maxLen
  hb : bl ≤ maxLen
  cs : sl ≤ sc
  cb : bl ≤ bc
/-- no part of it is too great -/
structure WdMax (nl : Nat) (R : Nat → Rn) (rl sl bl : Nat) : Prop where
  n : nl ≤ 1048576
  nm : ∀ k, k < nl → (R k).Max
  r : rl ≤ 1048576
  s : sl ≤ 1048576
  b : bl ≤ 1048576
theorem WdRaw.below {w w' : World} {na : Option Addr} {nl : Nat} {ra : Option Addr} {rl : Nat} {sa : Option Addr} {sl sc : Nat} {ba : Option Addr} {bl bc : Nat} {R : Nat → Rn} {FR : Nat → Ft} {SD : Nat → Int} {BF : Nat → Fc} (h : WdRaw w na nl ra rl sa sl sc ba bl bc R FR SD BF) (k : Below w.heap.size w w') : WdRaw w' na nl ra rl sa sl sc ba bl bc R FR SD BF :=
  ⟨h.n.below k, fun j hj => NdRaw.below (h.nr j hj) k, h.r.below k, h.rx, h.s.below k, h.b.below k, h.hn, h.hr, h.hs, h.hb, h.cs, h.cb⟩
set_option maxHeartbeats 2000000 in
theorem szWld_any (na : Option Addr) (nl nc : Nat) (ra : Option Addr) (rl rc : Nat) (sa : Option Addr) (sl sc : Nat) (ba : Option Addr) (bl bc : Nat) (R : Nat → Rn) (FR : Nat → Ft) (SD : Nat → Int) (BF : Nat → Fc) (w : World) (h : WdRaw w na nl ra rl sa sl sc ba bl bc R FR SD BF) :
    Calls Tryz.prog 5 #[.agg #[.slice na nl nc, .slice ra rl rc, .slice sa sl sc, .slice ba bl bc], .int .i64 1048576] w fun e w' => (∃ z : Int, e = .returned (.int .i64 z) ∧ (z = -1 ∨ (0 ≤ z ∧ WdMax nl R rl sl bl))) ∧ Below w.heap.size w w' := by
  have b0 := balloc (.cells #[.slice na nl nc, .slice ra rl rc, .slice sa sl sc, .slice ba bl bc] 27) (Below.refl w.heap.size w)
  have X := Ws.box (w := w) #[.slice na nl nc, .slice ra rl rc, .slice sa sl sc, .slice ba bl bc] 27
  have h0 := h.below b0
  go_enter Tryz.func5, Tryz.ntmps5
  go_upto_region 1 with fail
  generalize w.alloc (.cells #[.slice na nl nc, .slice ra rl rc, .slice sa sl sc, .slice ba bl bc] 27) = u at *
  have e0 := X.c 0 (.slice na nl nc) rfl
  have e1 := X.c 1 (.slice ra rl rc) rfl
  have e2 := X.c 2 (.slice sa sl sc) rfl
  have e3 := X.c 3 (.slice ba bl bc) rfl
  clear X h
  go_wp2_with fail
  refine (szNodeS_any na nl nc R 1048576 (by omega) (by omega) _ h0.n h0.nr h0.hn).mono ?_
  rintro r u1 ⟨⟨z1, rfl, hz1⟩, k1⟩
  have b1 := btrans b0 k1
  have h1 := h0.below k1
  replace e1 := keep_below k1 e1
  replace e2 := keep_below k1 e2
  replace e3 := keep_below k1 e3
  clear e0 h0 b0 k1
  rcases hz1 with rfl | ⟨⟨p1, q1⟩, m1, m2⟩
  · clear e1 e2 e3
    go_wp2
    go_ret
    exact ⟨⟨-1, rfl, .inl rfl⟩, b1⟩
  have n1 : ¬ z1 < 0 := by omega
  go_wp2_with fail
  refine (szFts_any ra rl rc FR z1 _ h1.r p1 q1 h1.hr h1.rx).mono ?_
  rintro r u2 ⟨⟨z2, rfl, hz2⟩, k1⟩
  have b2 := btrans b1 k1
  have h2 := h1.below k1
  replace e2 := keep_below k1 e2
  replace e3 := keep_below k1 e3
  clear e1 h1 b1 k1
  rcases hz2 with rfl | ⟨p2, q2, m3, _⟩
  · clear e2 e3
    go_wp2
    go_ret
    exact ⟨⟨-1, rfl, .inl rfl⟩, b2⟩
  have n2 : ¬ z2 < 0 := by omega
  have q2' : z2 ≤ 1048576 := by omega
  clear q2 n1
  go_wp2_with fail
  refine (szInts_any sa sl sc z2 _ p2 q2' h2.hs).mono ?_
  rintro r u3 ⟨rfl, rfl⟩
  clear e2
  by_cases l3 : z2 < (sl : Int)
  · rw [if_pos l3]
    clear e3
    go_wp2
    go_ret
    exact ⟨⟨-1, rfl, .inl rfl⟩, b2⟩
  rw [if_neg l3]
  have m4 : sl ≤ 1048576 := by omega
  obtain ⟨z3, hz3⟩ : ∃ z, Hid (z2 - (sl : Int) = z) := ⟨_, rfl⟩
  have p3 : 0 ≤ z3 := by rw [← hz3.out]; omega
  have q3 : z3 ≤ 1048576 := by rw [← hz3.out]; omega
  rw [hz3.out]
  have n3 : ¬ z3 < 0 := by omega
  clear hz3 l3 n2
  go_wp2_with fail
  refine (szFactS_any ba bl bc z3 _ p3 q3 h2.hb).mono ?_
  rintro r u4 ⟨rfl, rfl⟩
  clear e3
  by_cases l4 : z3 < (bl : Int)
  · rw [if_pos l4]
    go_wp2
    go_ret
    exact ⟨⟨-1, rfl, .inl rfl⟩, b2⟩
  rw [if_neg l4]
  have m5 : bl ≤ 1048576 := by omega
  obtain ⟨z4, hz4⟩ : ∃ z, Hid (z3 - (bl : Int) = z) := ⟨_, rfl⟩
  have p4 : 0 ≤ z4 := by rw [← hz4.out]; omega
  rw [hz4.out]
  have n4 : ¬ z4 < 0 := by omega
  clear hz4 l4
  go_wp2
  go_ret
  exact ⟨⟨z4, rfl, .inr ⟨p4, ⟨m1, m2, m3, m4, m5⟩⟩⟩, b2⟩
set_option maxHeartbeats 2000000 in
theorem eqWld_same (na : Option Addr) (nl nc : Nat) (ra : Option Addr) (rl rc : Nat) (sa : Option Addr) (sl sc : Nat) (ba : Option Addr) (bl bc : Nat) (nd : Nat → Nod) (FR : Nat → Ft) (SD : Nat → Int) (BF : Nat → Fc) (na' : Option Addr) (nc' : Nat) (ra' : Option Addr) (rc' : Nat) (sa' : Option Addr) (sc' : Nat) (ba' : Option Addr) (bc' : Nat) (w : World) (h : WdR w na nl ra rl sa sl ba bl nd FR SD BF) (h' : WdR w na' nl ra' rl sa' sl ba' bl nd FR SD BF) :
    Calls Tryz.prog 9 #[.agg #[.slice na nl nc, .slice ra rl rc, .slice sa sl sc, .slice ba bl bc], .agg #[.slice na' nl nc', .slice ra' rl rc', .slice sa' sl sc', .slice ba' bl bc']] w fun e w' => e = .returned (.bool true) ∧ Below w.heap.size w w' := by
  have b0 := balloc (.cells #[.slice na' nl nc', .slice ra' rl rc', .slice sa' sl sc', .slice ba' bl bc'] 34) (balloc (.cells #[.slice na nl nc, .slice ra rl rc, .slice sa sl sc, .slice ba bl bc] 34) (Below.refl w.heap.size w))
  have X := (Ws.box (w := w) #[.slice na nl nc, .slice ra rl rc, .slice sa sl sc, .slice ba bl bc] 34).alloc (.cells #[.slice na' nl nc', .slice ra' rl rc', .slice sa' sl sc', .slice ba' bl bc'] 34)
  have Y := Ws.box (w := w.alloc (.cells #[.slice na nl nc, .slice ra rl rc, .slice sa sl sc, .slice ba bl bc] 34)) #[.slice na' nl nc', .slice ra' rl rc', .slice sa' sl sc', .slice ba' bl bc'] 34
  have hs : (w.alloc (.cells #[.slice na nl nc, .slice ra rl rc, .slice sa sl sc, .slice ba bl bc] 34)).heap.size = w.heap.size + 1 := by simp [go_sem]
  rw [hs] at Y
  have h0 := h.below b0
  have g0 := h'.below b0
  go_enter Tryz.func9, Tryz.ntmps9
  go_upto_region 1 with fail
  generalize (w.alloc (.cells #[.slice na nl nc, .slice ra rl rc, .slice sa sl sc, .slice ba bl bc] 34)).alloc (.cells #[.slice na' nl nc', .slice ra' rl rc', .slice sa' sl sc', .slice ba' bl bc'] 34) = u at *
  clear hs h h'
  have e0 := X.c 0 (.slice na nl nc) rfl
  have f0 := Y.c 0 (.slice na' nl nc') rfl
  have e1 := X.c 1 (.slice ra rl rc) rfl
  have f1 := Y.c 1 (.slice ra' rl rc') rfl
  have e2 := X.c 2 (.slice sa sl sc) rfl
  have f2 := Y.c 2 (.slice sa' sl sc') rfl
  have e3 := X.c 3 (.slice ba bl bc) rfl
  have f3 := Y.c 3 (.slice ba' bl bc') rfl
  clear X Y
  go_wp2_with fail
  refine (eqNodeS_same na na' nl nc nc' nd _ h0.n g0.n h0.hn).mono ?_
  rintro r u1 ⟨rfl, k1⟩
  replace b0 := btrans b0 k1
  replace h0 := h0.below k1
  replace g0 := g0.below k1
  replace e1 := keep_below k1 e1
  replace f1 := keep_below k1 f1
  replace e2 := keep_below k1 e2
  replace f2 := keep_below k1 f2
  replace e3 := keep_below k1 e3
  replace f3 := keep_below k1 f3
  clear e0 f0 k1
  go_wp2_with fail
  refine (eqFts_same ra ra' rl rc rc' FR _ h0.r g0.r h0.hr).mono ?_
  rintro r u1 ⟨rfl, k1⟩
  replace b0 := btrans b0 k1
  replace h0 := h0.below k1
  replace g0 := g0.below k1
  replace e2 := keep_below k1 e2
  replace f2 := keep_below k1 f2
  replace e3 := keep_below k1 e3
  replace f3 := keep_below k1 f3
  clear e1 f1 k1
  go_wp2_with fail
  refine (eqInts_same sa sa' sl sc sc' SD _ h0.s g0.s h0.hs).mono ?_
  rintro r u1 ⟨rfl, k1⟩
  replace b0 := btrans b0 k1
  replace h0 := h0.below k1
  replace g0 := g0.below k1
  replace e3 := keep_below k1 e3
  replace f3 := keep_below k1 f3
  clear e2 f2 k1
  go_wp2_with fail
  refine (eqFactS_same ba ba' bl bc bc' BF _ h0.b g0.b h0.hb).mono ?_
  rintro r u1 ⟨rfl, k1⟩
  replace b0 := btrans b0 k1
  replace h0 := h0.below k1
  replace g0 := g0.below k1
  clear e3 f3 k1
  go_wp2
  go_ret
  exact ⟨rfl, b0⟩
end Go.Proofs.YthekjfdggfbelaaGreat
/- Worlds: copies of worlds. -/
namespace Go.Proofs.YthekjfdggfbelaaGreat
open Go.ChangeShapes Go.WideShapes Go.ChangeAt Go.RowKit
set_option maxRecDepth 20000 in
set_option maxHeartbeats 2000000 in
theorem toWld_any (na : Option Addr) (nl nc : Nat) (ra : Option Addr) (rl rc : Nat) (sa : Option Addr) (sl sc : Nat) (ba : Option Addr) (bl bc : Nat) (R : Nat → Rn) (FR : Nat → Ft) (SD : Nat → Int) (BF : Nat → Fc) (w : World) (h : WdRaw w na nl ra rl sa sl sc ba bl bc R FR SD BF) (m : WdMax nl R rl sl bl) :
    Calls Tryz.prog 7 #[.agg #[.slice na nl nc, .slice ra rl rc, .slice sa sl sc, .slice ba bl bc]] w fun e w' => ∃ b1 b2 b3 b4, e = .returned (.agg #[.slice (some ⟨b1, 0, none⟩) nl nl, .slice (some ⟨b2, 0, none⟩) rl rl, .slice (some ⟨b3, 0, none⟩) sl sl, .slice (some ⟨b4, 0, none⟩) bl bl]) ∧ WdR w' (some ⟨b1, 0, none⟩) nl (some ⟨b2, 0, none⟩) rl (some ⟨b3, 0, none⟩) sl (some ⟨b4, 0, none⟩) bl (fun k => (R k).nod) FR SD BF ∧ Below w.heap.size w w' := by
  have hs1 : (w.alloc (.cells #[.slice na nl nc, .slice ra rl rc, .slice sa sl sc, .slice ba bl bc] 27)).heap.size = w.heap.size + 1 := by simp [go_sem]
  have hs2 : ((w.alloc (.cells #[.slice na nl nc, .slice ra rl rc, .slice sa sl sc, .slice ba bl bc] 27)).alloc (.cells #[.slice none 0 0, .slice none 0 0, .slice none 0 0, .slice none 0 0] 34)).heap.size = w.heap.size + 1 + 1 := by simp [go_sem]
  have X := ((Ws.box (w := w) #[.slice na nl nc, .slice ra rl rc, .slice sa sl sc, .slice ba bl bc] 27).alloc (.cells #[.slice none 0 0, .slice none 0 0, .slice none 0 0, .slice none 0 0] 34)).alloc (.cells #[.slice none 0 0, .slice none 0 0, .slice none 0 0, .slice none 0 0] 34)
  have K := (Ws.box (w := w.alloc (.cells #[.slice na nl nc, .slice ra rl rc, .slice sa sl sc, .slice ba bl bc] 27)) #[.slice none 0 0, .slice none 0 0, .slice none 0 0, .slice none 0 0] 34).alloc (.cells #[.slice none 0 0, .slice none 0 0, .slice none 0 0, .slice none 0 0] 34)
  have Y := Ws.box (w := (w.alloc (.cells #[.slice na nl nc, .slice ra rl rc, .slice sa sl sc, .slice ba bl bc] 27)).alloc (.cells #[.slice none 0 0, .slice none 0 0, .slice none 0 0, .slice none 0 0] 34)) #[.slice none 0 0, .slice none 0 0, .slice none 0 0, .slice none 0 0] 34
  rw [hs1] at K
  rw [hs2] at Y
  have b0 := balloc (.cells #[.slice none 0 0, .slice none 0 0, .slice none 0 0, .slice none 0 0] 34) (balloc (.cells #[.slice none 0 0, .slice none 0 0, .slice none 0 0, .slice none 0 0] 34) (balloc (.cells #[.slice na nl nc, .slice ra rl rc, .slice sa sl sc, .slice ba bl bc] 27) (Below.refl w.heap.size w)))
  clear hs1 hs2
  go_enter Tryz.func7, Tryz.ntmps7
  go_upto_region 2 with fail
  generalize ((w.alloc (.cells #[.slice na nl nc, .slice ra rl rc, .slice sa sl sc, .slice ba bl bc] 27)).alloc (.cells #[.slice none 0 0, .slice none 0 0, .slice none 0 0, .slice none 0 0] 34)).alloc (.cells #[.slice none 0 0, .slice none 0 0, .slice none 0 0, .slice none 0 0] 34) = u at *
  have n1 : w.heap.size ≠ w.heap.size + 1 + 1 := by omega
  have n2 : w.heap.size + 1 ≠ w.heap.size + 1 + 1 := by omega
  have g1 : w.heap.size ≤ w.heap.size + 1 := by omega
  have g2 : w.heap.size ≤ w.heap.size + 1 + 1 := by omega
  have n3 : w.heap.size + 1 < w.heap.size + 1 + 1 := by omega
  generalize w.heap.size + 1 + 1 = KO at *
  generalize w.heap.size + 1 = KR at *
  have dx := X.c 0 (.slice na nl nc) rfl
  go_wp2_with fail
  refine (toNodeS_any na nl nc R _ (h.below b0).n (h.below b0).nr m.nm m.n).mono ?_
  rintro r w2 ⟨b1, C, rfl, hD0, k1⟩
  have lt0KO : KO < u.heap.size := Y.lt
  have lt0KR : KR < u.heap.size := K.lt
  replace X := X.below k1
  replace K := K.below k1
  replace Y := Y.below k1
  replace b0 := btrans b0 k1
  clear k1 dx
  have yy := Y.c 0 (.slice none 0 0) rfl
  have zz := Y.z 0
  go_upto_region 3 with fail
  have X' := X.far (k := 0) (v := (.slice (some ⟨b1, 0, none⟩) nl nl)) n1
  have K' := K.far (k := 0) (v := (.slice (some ⟨b1, 0, none⟩) nl nl)) n2
  have Y' : Ws _ KO [.slice (some ⟨b1, 0, none⟩) nl nl, .slice none 0 0, .slice none 0 0, .slice none 0 0] := Y.set 0 (by simp) (.slice (some ⟨b1, 0, none⟩) nl nl)
  have b0' := b0.setCell (p := ⟨KO, 0, none⟩) g2 (.slice (some ⟨b1, 0, none⟩) nl nl)
  have hD0' := hD0.but (But2.set (c := KO) (d := KO) (k := 0) (.slice (some ⟨b1, 0, none⟩) nl nl)) lt0KO
  clear yy zz X K Y b0 hD0
  generalize w2.setCell ⟨KO, 0, none⟩ (.slice (some ⟨b1, 0, none⟩) nl nl) = u1 at *
  have X := X'
  have K := K'
  have Y := Y'
  have b0 := b0'
  have hD0 := hD0'
  clear X' K' Y' b0' hD0'
  have dx := X.c 1 (.slice ra rl rc) rfl
  go_wp2_with fail
  refine (toFts_any ra rl rc FR _ (h.below b0).r m.r).mono ?_
  rintro r w2 ⟨b2, rfl, hD1, lb1, k1⟩
  have q1KO : b2 ≠ KO := fun q => by have := Y.lt; omega
  have q1KR : b2 ≠ KR := fun q => by have := K.lt; omega
  clear lb1
  replace hD0 := hD0.below k1
  replace X := X.below k1
  replace K := K.below k1
  replace Y := Y.below k1
  replace b0 := btrans b0 k1
  clear k1 dx
  have yy := Y.c 1 (.slice none 0 0) rfl
  have zz := Y.z 1
  go_upto_region 4 with fail
  have X' := X.far (k := 1) (v := (.slice (some ⟨b2, 0, none⟩) rl rl)) n1
  have K' := K.far (k := 1) (v := (.slice (some ⟨b2, 0, none⟩) rl rl)) n2
  have Y' : Ws _ KO [.slice (some ⟨b1, 0, none⟩) nl nl, .slice (some ⟨b2, 0, none⟩) rl rl, .slice none 0 0, .slice none 0 0] := Y.set 1 (by simp) (.slice (some ⟨b2, 0, none⟩) rl rl)
  have b0' := b0.setCell (p := ⟨KO, 1, none⟩) g2 (.slice (some ⟨b2, 0, none⟩) rl rl)
  have hD0' := hD0.but (But2.set (c := KO) (d := KO) (k := 1) (.slice (some ⟨b2, 0, none⟩) rl rl)) lt0KO
  have hD1' := row_but hD1 (But2.set (c := KO) (d := KO) (k := 1) (.slice (some ⟨b2, 0, none⟩) rl rl)) q1KO q1KO
  clear yy zz X K Y b0 hD0 hD1
  generalize w2.setCell ⟨KO, 1, none⟩ (.slice (some ⟨b2, 0, none⟩) rl rl) = u2 at *
  have X := X'
  have K := K'
  have Y := Y'
  have b0 := b0'
  have hD0 := hD0'
  have hD1 := hD1'
  clear X' K' Y' b0' hD0' hD1'
  have dx := X.c 2 (.slice sa sl sc) rfl
  go_wp2_with fail
  refine (toInts_any sa sl sc SD _ (h.below b0).s m.s h.cs).mono ?_
  rintro r w2 ⟨b3, rfl, hD2, lb2, k1⟩
  have q2KO : b3 ≠ KO := fun q => by have := Y.lt; omega
  have q2KR : b3 ≠ KR := fun q => by have := K.lt; omega
  clear lb2
  replace hD0 := hD0.below k1
  replace hD1 := row_below hD1 k1
  replace X := X.below k1
  replace K := K.below k1
  replace Y := Y.below k1
  replace b0 := btrans b0 k1
  clear k1 dx
  have yy := Y.c 2 (.slice none 0 0) rfl
  have zz := Y.z 2
  go_upto_region 5 with fail
  have X' := X.far (k := 2) (v := (.slice (some ⟨b3, 0, none⟩) sl sl)) n1
  have K' := K.far (k := 2) (v := (.slice (some ⟨b3, 0, none⟩) sl sl)) n2
  have Y' : Ws _ KO [.slice (some ⟨b1, 0, none⟩) nl nl, .slice (some ⟨b2, 0, none⟩) rl rl, .slice (some ⟨b3, 0, none⟩) sl sl, .slice none 0 0] := Y.set 2 (by simp) (.slice (some ⟨b3, 0, none⟩) sl sl)
  have b0' := b0.setCell (p := ⟨KO, 2, none⟩) g2 (.slice (some ⟨b3, 0, none⟩) sl sl)
  have hD0' := hD0.but (But2.set (c := KO) (d := KO) (k := 2) (.slice (some ⟨b3, 0, none⟩) sl sl)) lt0KO
  have hD1' := row_but hD1 (But2.set (c := KO) (d := KO) (k := 2) (.slice (some ⟨b3, 0, none⟩) sl sl)) q1KO q1KO
  have hD2' := hD2.far (b' := KO) (k := 2) (v := (.slice (some ⟨b3, 0, none⟩) sl sl)) q2KO
  clear yy zz X K Y b0 hD0 hD1 hD2
  generalize w2.setCell ⟨KO, 2, none⟩ (.slice (some ⟨b3, 0, none⟩) sl sl) = u3 at *
  have X := X'
  have K := K'
  have Y := Y'
  have b0 := b0'
  have hD0 := hD0'
  have hD1 := hD1'
  have hD2 := hD2'
  clear X' K' Y' b0' hD0' hD1' hD2'
  have dx := X.c 3 (.slice ba bl bc) rfl
  go_wp2_with fail
  refine (toFactsR_any ba bl bc BF _ (h.below b0).b m.b h.cb).mono ?_
  rintro r w2 ⟨b4, rfl, hD3, lb3, k1⟩
  have q3KO : b4 ≠ KO := fun q => by have := Y.lt; omega
  have q3KR : b4 ≠ KR := fun q => by have := K.lt; omega
  clear lb3
  replace hD0 := hD0.below k1
  replace hD1 := row_below hD1 k1
  replace hD2 := hD2.below k1
  replace X := X.below k1
  replace K := K.below k1
  replace Y := Y.below k1
  replace b0 := btrans b0 k1
  clear k1 dx
  have yy := Y.c 3 (.slice none 0 0) rfl
  have zz := Y.z 3
  go_upto_region 6 with fail
  have X' := X.far (k := 3) (v := (.slice (some ⟨b4, 0, none⟩) bl bl)) n1
  have K' := K.far (k := 3) (v := (.slice (some ⟨b4, 0, none⟩) bl bl)) n2
  have Y' : Ws _ KO [.slice (some ⟨b1, 0, none⟩) nl nl, .slice (some ⟨b2, 0, none⟩) rl rl, .slice (some ⟨b3, 0, none⟩) sl sl, .slice (some ⟨b4, 0, none⟩) bl bl] := Y.set 3 (by simp) (.slice (some ⟨b4, 0, none⟩) bl bl)
  have b0' := b0.setCell (p := ⟨KO, 3, none⟩) g2 (.slice (some ⟨b4, 0, none⟩) bl bl)
  have hD0' := hD0.but (But2.set (c := KO) (d := KO) (k := 3) (.slice (some ⟨b4, 0, none⟩) bl bl)) lt0KO
  have hD1' := row_but hD1 (But2.set (c := KO) (d := KO) (k := 3) (.slice (some ⟨b4, 0, none⟩) bl bl)) q1KO q1KO
  have hD2' := hD2.far (b' := KO) (k := 3) (v := (.slice (some ⟨b4, 0, none⟩) bl bl)) q2KO
  have hD3' := hD3.far (b' := KO) (k := 3) (v := (.slice (some ⟨b4, 0, none⟩) bl bl)) q3KO
  clear yy zz X K Y b0 hD0 hD1 hD2 hD3
  generalize w2.setCell ⟨KO, 3, none⟩ (.slice (some ⟨b4, 0, none⟩) bl bl) = u4 at *
  have X := X'
  have K := K'
  have Y := Y'
  have b0 := b0'
  have hD0 := hD0'
  have hD1 := hD1'
  have hD2 := hD2'
  have hD3 := hD3'
  clear X' K' Y' b0' hD0' hD1' hD2' hD3'
  have y0 := Y.c 0 (.slice (some ⟨b1, 0, none⟩) nl nl) rfl
  have r0 := K.c 0 (.slice none 0 0) rfl
  have z0 := K.z 0
  have y1 := Y.c 1 (.slice (some ⟨b2, 0, none⟩) rl rl) rfl
  have r1 := K.c 1 (.slice none 0 0) rfl
  have z1 := K.z 1
  have y2 := Y.c 2 (.slice (some ⟨b3, 0, none⟩) sl sl) rfl
  have r2 := K.c 2 (.slice none 0 0) rfl
  have z2 := K.z 2
  have y3 := Y.c 3 (.slice (some ⟨b4, 0, none⟩) bl bl) rfl
  have r3 := K.c 3 (.slice none 0 0) rfl
  have z3 := K.z 3
  go_wp2
  have R2 : Ws _ KR [.slice (some ⟨b1, 0, none⟩) nl nl, .slice (some ⟨b2, 0, none⟩) rl rl, .slice (some ⟨b3, 0, none⟩) sl sl, .slice (some ⟨b4, 0, none⟩) bl bl] := ((((K.set 0 (by simp) (.slice (some ⟨b1, 0, none⟩) nl nl)).set 1 (by simp) (.slice (some ⟨b2, 0, none⟩) rl rl)).set 2 (by simp) (.slice (some ⟨b3, 0, none⟩) sl sl)).set 3 (by simp) (.slice (some ⟨b4, 0, none⟩) bl bl))
  refine bodyPost_ret (v := .agg #[.slice (some ⟨b1, 0, none⟩) nl nl, .slice (some ⟨b2, 0, none⟩) rl rl, .slice (some ⟨b3, 0, none⟩) sl sl, .slice (some ⟨b4, 0, none⟩) bl bl]) (by simp [results, Tryz.results7, go_sem, R2.c 0 (.slice (some ⟨b1, 0, none⟩) nl nl) rfl, R2.c 1 (.slice (some ⟨b2, 0, none⟩) rl rl) rfl, R2.c 2 (.slice (some ⟨b3, 0, none⟩) sl sl) rfl, R2.c 3 (.slice (some ⟨b4, 0, none⟩) bl bl) rfl]) rfl ⟨b1, b2, b3, b4, rfl, ⟨((((hD0.but (But2.set (c := KR) (d := KR) (k := 0) (.slice (some ⟨b1, 0, none⟩) nl nl)) lt0KR).but (But2.set (c := KR) (d := KR) (k := 1) (.slice (some ⟨b2, 0, none⟩) rl rl)) lt0KR).but (But2.set (c := KR) (d := KR) (k := 2) (.slice (some ⟨b3, 0, none⟩) sl sl)) lt0KR).but (But2.set (c := KR) (d := KR) (k := 3) (.slice (some ⟨b4, 0, none⟩) bl bl)) lt0KR).toL m.nm, ftrow_sl (row_but (row_but (row_but (row_but hD1 (But2.set (c := KR) (d := KR) (k := 0) (.slice (some ⟨b1, 0, none⟩) nl nl)) q1KR q1KR) (But2.set (c := KR) (d := KR) (k := 1) (.slice (some ⟨b2, 0, none⟩) rl rl)) q1KR q1KR) (But2.set (c := KR) (d := KR) (k := 2) (.slice (some ⟨b3, 0, none⟩) sl sl)) q1KR q1KR) (But2.set (c := KR) (d := KR) (k := 3) (.slice (some ⟨b4, 0, none⟩) bl bl)) q1KR q1KR), ((((hD2.far (b' := KR) (k := 0) (v := (.slice (some ⟨b1, 0, none⟩) nl nl)) q2KR).far (b' := KR) (k := 1) (v := (.slice (some ⟨b2, 0, none⟩) rl rl)) q2KR).far (b' := KR) (k := 2) (v := (.slice (some ⟨b3, 0, none⟩) sl sl)) q2KR).far (b' := KR) (k := 3) (v := (.slice (some ⟨b4, 0, none⟩) bl bl)) q2KR).sl, ((((hD3.far (b' := KR) (k := 0) (v := (.slice (some ⟨b1, 0, none⟩) nl nl)) q3KR).far (b' := KR) (k := 1) (v := (.slice (some ⟨b2, 0, none⟩) rl rl)) q3KR).far (b' := KR) (k := 2) (v := (.slice (some ⟨b3, 0, none⟩) sl sl)) q3KR).far (b' := KR) (k := 3) (v := (.slice (some ⟨b4, 0, none⟩) bl bl)) q3KR).sl, m.n, m.r, m.s, m.b⟩, ((((b0.setCell (p := ⟨KR, 0, none⟩) g1 (.slice (some ⟨b1, 0, none⟩) nl nl)).setCell (p := ⟨KR, 1, none⟩) g1 (.slice (some ⟨b2, 0, none⟩) rl rl)).setCell (p := ⟨KR, 2, none⟩) g1 (.slice (some ⟨b3, 0, none⟩) sl sl)).setCell (p := ⟨KR, 3, none⟩) g1 (.slice (some ⟨b4, 0, none⟩) bl bl))⟩
end Go.Proofs.YthekjfdggfbelaaGreat
