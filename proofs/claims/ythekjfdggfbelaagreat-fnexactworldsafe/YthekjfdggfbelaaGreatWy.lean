/- Worlds: whether a world is ok, as the document asks. -/
import Derived.Test.YthekjfdggfbelaaGreatWl
import Derived.Test.YthekjfdggfbelaaGreatFacts
import Derived.Deep.Slices
import Derived.Deep.SlicePairs
import Derived.ChangeSame
import Derived.Lib.SmallJoins
import Derived.Test.YthekjfdggfbelaaGreatItems
import Derived.Test.YthekjfdggfbelaaGreatNd24
import Derived.Deep.Strs
namespace Go.Proofs.YthekjfdggfbelaaGreat
open Go.ChangeShapes Go.WideShapes Go.ChangeAt Go.RowKit
/-- nodes in their places, sides -/
def sdnB (nl : Nat) (nd : Nat → Nod) (SD : Nat → Int) : Bool := decide (∀ k, k < nl → nokB k (nd k) = true ∧ inb (SD k) 0 2 = true)
theorem sdn_no {nl : Nat} {nd : Nat → Nod} {SD : Nat → Int} {k : Nat} (hk : k < nl) (q : (nokB k (nd k) && inb (SD k) 0 2) = false) : sdnB nl nd SD = false :=
  decide_eq_false fun hh => by
    rw [(hh k hk).1, (hh k hk).2] at q
    cases q
theorem sdn_yes {nl : Nat} {nd : Nat → Nod} {SD : Nat → Int} (h : ∀ k, k < nl → nokB k (nd k) = true ∧ inb (SD k) 0 2 = true) : sdnB nl nd SD = true := decide_eq_true h
theorem fta_no {rl : Nat} {FR : Nat → Ft} {k : Nat} (hk : k < rl) (q : ftB (FR k).t (FR k).x = false) : ftA rl FR = false :=
  decide_eq_false fun hh => by
    rw [hh k hk] at q
    cases q
theorem fta_yes {rl : Nat} {FR : Nat → Ft} (h : ∀ k, k < rl → ftB (FR k).t (FR k).x = true) : ftA rl FR = true := decide_eq_true h
theorem born_no {bl : Nat} {BF : Nat → Fc} {k : Nat} (hk : k < bl) (q : fokB (BF k).n (BF k).i (BF k).s = false) : bornS bl BF = false :=
  decide_eq_false fun hh => by
    rw [(hh k hk).1] at q
    cases q
theorem born_no2 {bl : Nat} {BF : Nat → Fc} {k : Nat} (hk : k + 1 < bl) (q : fle (BF k) (BF (k + 1)) = false) : bornS bl BF = false :=
  decide_eq_false fun hh => by
    have := (hh (k + 1) hk).2 (by omega)
    rw [Nat.add_sub_cancel, q] at this
    cases this
theorem born_yes {bl : Nat} {BF : Nat → Fc} (h : ∀ k, k < bl → fokB (BF k).n (BF k).i (BF k).s = true ∧ (0 < k → fle (BF (k - 1)) (BF k) = true)) : bornS bl BF = true := decide_eq_true h
/-- a world is ok -/
def wldB (nl : Nat) (nd : Nat → Nod) (rl : Nat) (FR : Nat → Ft) (sl : Nat) (SD : Nat → Int) (bl : Nat) (BF : Nat → Fc) : Bool :=
  decide (nl = 8) && decide (sl = 8) && decide (rl ≤ 60) && sdnB nl nd SD && ftA rl FR && bornS bl BF
/-- a world can be read -/
structure WdR (w : World) (na : Option Addr) (nl : Nat) (ra : Option Addr) (rl : Nat) (sa : Option Addr) (sl : Nat) (ba : Option Addr) (bl : Nat) (nd : Nat → Nod) (FR : Nat → Ft) (SD : Nat → Int) (BF : Nat → Fc) : Prop where
  n : NdL w na nl nd
  r : FtSl w ra rl FR
  s : ISl w sa sl SD
  b : FSl w ba bl BF
  hn : nl ≤ 1048576
  hr : rl ≤ 1048576
  hs : sl ≤ 1048576
  hb : bl ≤ 1048576
theorem WdR.below {w w' : World} {na : Option Addr} {nl : Nat} {ra : Option Addr} {rl : Nat} {sa : Option Addr} {sl : Nat} {ba : Option Addr} {bl : Nat} {nd : Nat → Nod} {FR : Nat → Ft} {SD : Nat → Int} {BF : Nat → Fc} (h : WdR w na nl ra rl sa sl ba bl nd FR SD BF) (k : Below w.heap.size w w') : WdR w' na nl ra rl sa sl ba bl nd FR SD BF :=
  ⟨h.n.below k, h.r.below k, h.s.below k, h.b.below k, h.hn, h.hr, h.hs, h.hb⟩
def s6_6 : List Stp := [⟨some 32, .fieldAddr 34 (.tmp 1) 0, 0, none, 0⟩, ⟨some 33, .load 30 (.tmp 32), 30, none, 0⟩, ⟨some 34, .move (.tmp 3), 3, none, 0⟩, ⟨some 35, .indexAddr 30 (.tmp 33) (.tmp 34), 0, none, 0⟩, ⟨some 36, .fieldAddr 51 (.tmp 35) 0, 0, none, 0⟩, ⟨some 37, .load 3 (.tmp 36), 3, none, 0⟩, ⟨some 38, .move (.tmp 3), 3, none, 0⟩, ⟨some 39, .binOp .neq 3 (.tmp 37) (.tmp 38) 3, 4, none, 2⟩, ⟨some 40, .move (.tmp 39), 4, none, 0⟩, ⟨some 41, .fieldAddr 34 (.tmp 1) 0, 0, some (40, false), 0⟩, ⟨some 42, .load 30 (.tmp 41), 30, some (40, false), 0⟩, ⟨some 43, .move (.tmp 3), 3, some (40, false), 0⟩, ⟨some 44, .indexAddr 30 (.tmp 42) (.tmp 43), 0, some (40, false), 0⟩, ⟨some 45, .fieldAddr 51 (.tmp 44) 3, 0, some (40, false), 0⟩, ⟨some 46, .load 4 (.tmp 45), 4, some (40, false), 0⟩, ⟨some 47, .move (.tmp 3), 3, some (40, false), 0⟩, ⟨some 48, .call { callee := .value (.func 16), args := #[.tmp 47], argTypes := #[3] }, 4, some (40, false), 1⟩, ⟨some 49, .binOp .neq 4 (.tmp 46) (.tmp 48) 4, 4, some (40, false), 2⟩, ⟨some 50, .pick (.tmp 40) (.const (.bool true)) (.tmp 49), 4, none, 0⟩, ⟨some 51, .move (.tmp 50), 4, none, 0⟩, ⟨some 52, .fieldAddr 34 (.tmp 1) 0, 0, some (51, false), 0⟩, ⟨some 53, .load 30 (.tmp 52), 30, some (51, false), 0⟩, ⟨some 54, .move (.tmp 3), 3, some (51, false), 0⟩, ⟨some 55, .indexAddr 30 (.tmp 53) (.tmp 54), 0, some (51, false), 0⟩, ⟨some 56, .load 51 (.tmp 55), 51, some (51, false), 0⟩, ⟨some 57, .call { callee := .value (.func 17), args := #[.tmp 56], argTypes := #[51] }, 4, some (51, false), 1⟩, ⟨some 58, .unOp .not 4 (.tmp 57), 4, some (51, false), 2⟩, ⟨some 59, .pick (.tmp 51) (.const (.bool true)) (.tmp 58), 4, none, 0⟩, ⟨some 60, .move (.tmp 59), 4, none, 0⟩, ⟨some 61, .fieldAddr 34 (.tmp 1) 2, 0, some (60, false), 0⟩, ⟨some 62, .load 24 (.tmp 61), 24, some (60, false), 0⟩, ⟨some 63, .move (.tmp 3), 3, some (60, false), 0⟩, ⟨some 64, .indexAddr 24 (.tmp 62) (.tmp 63), 0, some (60, false), 0⟩, ⟨some 65, .load 3 (.tmp 64), 3, some (60, false), 0⟩, ⟨some 66, .call { callee := .value (.func 18), args := #[.tmp 65, .const (.int .i64 0), .const (.int .i64 2)], argTypes := #[3, 3, 3] }, 4, some (60, false), 1⟩, ⟨some 67, .unOp .not 4 (.tmp 66), 4, some (60, false), 2⟩, ⟨some 68, .pick (.tmp 60) (.const (.bool true)) (.tmp 67), 4, none, 0⟩]
def t6_6 : List (Nat × Nat) := [(0, 0), (1, 0), (2, 0), (3, 0), (4, 0), (5, 0), (6, 0), (7, 2), (8, 0), (9, 0), (10, 0), (11, 0), (12, 0), (13, 0), (14, 0), (15, 0), (16, 1), (17, 2), (18, 0), (19, 0), (20, 0), (21, 0), (22, 0), (23, 0), (24, 0), (25, 1), (26, 2), (27, 0), (28, 0), (29, 0), (30, 0), (31, 0), (32, 0), (33, 0), (34, 1), (35, 2), (36, 0)]
def s6_16 : List Stp := [⟨some 101, .fieldAddr 34 (.tmp 1) 3, 0, none, 0⟩, ⟨some 102, .load 32 (.tmp 101), 32, none, 0⟩, ⟨some 103, .move (.tmp 5), 3, none, 0⟩, ⟨some 104, .indexAddr 32 (.tmp 102) (.tmp 103), 0, none, 0⟩, ⟨some 105, .load 59 (.tmp 104), 59, none, 0⟩, ⟨some 106, .call { callee := .value (.func 19), args := #[.tmp 105], argTypes := #[59] }, 4, none, 1⟩, ⟨some 107, .unOp .not 4 (.tmp 106), 4, none, 2⟩, ⟨some 108, .move (.tmp 107), 4, none, 0⟩, ⟨some 109, .move (.tmp 5), 3, some (108, false), 0⟩, ⟨some 110, .binOp .gtr 3 (.tmp 109) (.const (.int .i64 0)) 3, 4, some (108, false), 2⟩, ⟨some 111, .move (.tmp 110), 4, some (108, false), 0⟩, ⟨some 112, .fieldAddr 34 (.tmp 1) 3, 0, some (111, true), 0⟩, ⟨some 113, .load 32 (.tmp 112), 32, some (111, true), 0⟩, ⟨some 114, .move (.tmp 5), 3, some (111, true), 0⟩, ⟨some 115, .binOp .sub 3 (.tmp 114) (.const (.int .i64 1)) 3, 3, some (111, true), 0⟩, ⟨some 116, .indexAddr 32 (.tmp 113) (.tmp 115), 0, some (111, true), 0⟩, ⟨some 117, .load 59 (.tmp 116), 59, some (111, true), 0⟩, ⟨some 118, .fieldAddr 34 (.tmp 1) 3, 0, some (111, true), 0⟩, ⟨some 119, .load 32 (.tmp 118), 32, some (111, true), 0⟩, ⟨some 120, .move (.tmp 5), 3, some (111, true), 0⟩, ⟨some 121, .indexAddr 32 (.tmp 119) (.tmp 120), 0, some (111, true), 0⟩, ⟨some 122, .load 59 (.tmp 121), 59, some (111, true), 0⟩, ⟨some 123, .call { callee := .value (.func 20), args := #[.tmp 117, .tmp 122], argTypes := #[59, 59] }, 4, some (111, true), 1⟩, ⟨some 124, .unOp .not 4 (.tmp 123), 4, some (111, true), 2⟩, ⟨some 125, .pick (.tmp 111) (.tmp 124) (.const (.bool false)), 4, some (108, false), 0⟩, ⟨some 126, .pick (.tmp 108) (.const (.bool true)) (.tmp 125), 4, none, 0⟩]
def t6_16 : List (Nat × Nat) := [(0, 0), (1, 0), (2, 0), (3, 0), (4, 0), (5, 1), (6, 2), (7, 0), (8, 0), (9, 2), (10, 0), (11, 0), (12, 0), (13, 0), (14, 0), (15, 0), (16, 0), (17, 0), (18, 0), (19, 0), (20, 0), (21, 0), (22, 1), (23, 2), (24, 0), (25, 0)]
set_option maxRecDepth 20000 in
set_option maxHeartbeats 8000000 in
theorem wldS_any (na : Option Addr) (nl nc : Nat) (ra : Option Addr) (rl rc : Nat) (sa : Option Addr) (sl sc : Nat) (ba : Option Addr) (bl bc : Nat) (nd : Nat → Nod) (FR : Nat → Ft) (SD : Nat → Int) (BF : Nat → Fc) (w : World) (h : WdR w na nl ra rl sa sl ba bl nd FR SD BF) :
    Calls Tryz.prog 6 #[.agg #[.slice na nl nc, .slice ra rl rc, .slice sa sl sc, .slice ba bl bc]] w fun e w' => e = .returned (.bool (wldB nl nd rl FR sl SD bl BF)) ∧ Below w.heap.size w w' := by
  have b0 := balloc (.cells #[.slice na nl nc, .slice ra rl rc, .slice sa sl sc, .slice ba bl bc] 34) (Below.refl w.heap.size w)
  have X := Ws.box (w := w) #[.slice na nl nc, .slice ra rl rc, .slice sa sl sc, .slice ba bl bc] 34
  have h0 := h.below b0
  go_enter Tryz.func6, Tryz.ntmps6
  go_upto_region 1 with fail
  generalize w.alloc (.cells #[.slice na nl nc, .slice ra rl rc, .slice sa sl sc, .slice ba bl bc] 34) = u at *
  have e0 := X.c 0 (.slice na nl nc) rfl
  have e1 := X.c 1 (.slice ra rl rc) rfl
  have e2 := X.c 2 (.slice sa sl sc) rfl
  have e3 := X.c 3 (.slice ba bl bc) rfl
  clear X h
  obtain ⟨KB, hKB⟩ : ∃ K, Hid (w.heap.size = K) := ⟨_, rfl⟩
  by_cases h1 : nl = 8
  case neg =>
    have h1' : ¬ (nl : Int) = 8 := by omega
    have hno : Hid (wldB nl nd rl FR sl SD bl BF = false) := by
      unfold Hid wldB
      rw [decide_eq_false h1]
      simp
    clear h1
    go_wp2
    go_ret
    exact ⟨ret_bool hno.out.symm, b0⟩
  subst h1
  by_cases h2 : sl = 8
  case neg =>
    have h2' : ¬ (sl : Int) = 8 := by omega
    have hno : Hid (wldB 8 nd rl FR sl SD bl BF = false) := by
      unfold Hid wldB
      rw [decide_eq_false h2]
      simp
    clear h2
    go_wp2
    go_ret
    exact ⟨ret_bool hno.out.symm, b0⟩
  subst h2
  by_cases h3 : rl ≤ 60
  case neg =>
    have h3' : (60 : Int) < (rl : Int) := by omega
    have hno : Hid (wldB 8 nd rl FR 8 SD bl BF = false) := by
      unfold Hid wldB
      rw [decide_eq_false h3]
      simp
    clear h3
    go_wp2
    go_ret
    exact ⟨ret_bool hno.out.symm, b0⟩
  have h3' : ¬ (60 : Int) < (rl : Int) := by omega
  go_wp2
  go_loopw [3] (fun i wr => ∃ k : Nat, k ≤ 8 ∧ i = .int .i64 k ∧ Below u.heap.size u wr ∧ ∀ j, j < k → nokB j (nd j) = true ∧ inb (SD j) 0 2 = true) (fun i _ => 8 - (intOf i).toNat)
  case atStart => exact ⟨0, Nat.zero_le _, rfl, Below.refl _ _, fun j hj => by omega⟩
  case round =>
    obtain ⟨k, hk, rfl, hb, hall⟩ := hrel
    have x0 := keep_below hb e0
    have x2 := keep_below hb e2
    by_cases hlt : k < 8
    · obtain ⟨b, off, rfl, _, hf⟩ := (h0.n.below hb) (by omega)
      obtain ⟨L, c1, c2⟩ := hf k hlt
      obtain ⟨sb, so, rfl, hsl, hsf⟩ := (h0.s.below hb) (by omega)
      have d0 := hsf k hlt
      have i0 : (0 : Int) ≤ (k : Int) := by omega
      have i1 : (k : Int) < 8 := by omega
      have hno' : Hid ((nokB k (nd k) && inb (SD k) 0 2) = false → wldB 8 nd rl FR 8 SD bl BF = false) := fun q => by
        unfold wldB
        rw [sdn_no hlt q]
        simp
      have hyes : Hid ((nokB k (nd k) && inb (SD k) 0 2) = true → ∀ j, j < k + 1 → nokB j (nd j) = true ∧ inb (SD j) 0 2 = true) := fun q j hj => by
        by_cases e : j = k
        · subst e; simpa using q
        · exact hall j (by omega)
      clear hall hf hsf
      obtain ⟨n, hn⟩ : ∃ n, Hid (nd k = n) := ⟨_, rfl⟩
      obtain ⟨y, hy⟩ : ∃ y, Hid (SD k = y) := ⟨_, rfl⟩
      rw [hn.out, hy.out] at hno' hyes
      rw [hn.out] at c1 c2
      rw [hy.out] at d0
      clear hn hy
      have c0 := c1 0 (.int .i64 n.me) rfl
      have c3 := c1 3 (.bool n.gate) rfl
      simp only [Nat.add_zero] at c0
      obtain ⟨gv, hgv⟩ : ∃ g, Hid (gtB k = g) := ⟨_, rfl⟩
      have gS : ∀ w1, Calls Tryz.prog 16 #[.int .i64 (k : Int)] w1 fun r w' => r = .returned (.bool gv) ∧ Below w1.heap.size w1 w' := fun w1 => (gateS_any k w1).mono (by rintro r w' ⟨rfl, rfl⟩; exact ⟨by rw [hgv.out], Below.refl _ _⟩)
      obtain ⟨qv, hqv⟩ : ∃ g, Hid (nodQ n = g) := ⟨_, rfl⟩
      have ct : ∀ w1, Below wr.heap.size wr w1 → Calls Tryz.prog 17 #[.agg (ndC n L)] w1 fun r w' => r = .returned (.bool qv) ∧ Below w1.heap.size w1 w' := fun w1 q => by
        rw [← hqv.out]
        exact okS_nod n L w1 (c2.below q)
      obtain ⟨sv, hsv⟩ : ∃ g, Hid (inb y 0 2 = g) := ⟨_, rfl⟩
      have li : ∀ w1, Calls Tryz.prog 18 #[.int .i64 y, .int .i64 0, .int .i64 2] w1 fun r w' => r = .returned (.bool sv) ∧ Below w1.heap.size w1 w' := fun w1 => (lin_any y 0 2 w1).mono (by rintro r w' ⟨rfl, rfl⟩; exact ⟨by rw [hsv.out], Below.refl _ _⟩)
      have hnok : Hid ((nokB k n && inb y 0 2) = (decide (n.me = (k : Int)) && decide (n.gate = gv) && qv && sv)) := by
        unfold Hid nokB
        rw [hgv.out, hqv.out, hsv.out]
      clear hgv hqv hsv c2
      rw [hnok.out] at hno' hyes
      clear hnok
      go_upto_region 6 with fail
      by_cases e1 : n.me = (k : Int)
      · have y1 : Hid (n.me = (k : Int)) := e1
        clear e1
        by_cases e2 : n.gate = gv
        · have y2 : Hid (n.gate = gv) := e2
          clear e2
          cases qv
          · have hno : Hid (wldB 8 nd rl FR 8 SD bl BF = false) := hno'.out (by simp)
            clear hno' hyes
            refine wp_region_q s6_6 t6_6 (fun hbq => ?_)
            refine qY ?_
            refine qL ?_
            iterate 3 refine qY ?_
            refine qL ?_
            refine qY ?_
            refine qV (.bool false) ?_ (by (intro w; go_simp; all_goals (first | with_reducible rfl | (simp [y1.out]; done) | assumption | (simp; done) | (simp; omega))))
            iterate 2 refine qY ?_
            refine qL ?_
            iterate 3 refine qY ?_
            refine qL ?_
            refine qY ?_
            refine qC (fun K hK => ?_)
            go_simp
            refine (gS _).mono ?_; rintro r w1 ⟨rfl, k1⟩
            go_wp2_with fail
            refine hK.out _ _ (btrans hbq k1) (.inl ?_)
            clear hK K
            replace hbq := btrans hbq k1
            clear k1
            try simp only [putQ]
            refine qV (.bool false) ?_ (by (intro w; go_simp; all_goals (first | with_reducible rfl | (simp [y2.out]; done) | assumption | (simp; done) | (simp; omega))))
            iterate 3 refine qY ?_
            refine qL ?_
            iterate 2 refine qY ?_
            refine qR ?_
            refine qC (fun K hK => ?_)
            go_simp
            refine (ct _ hbq).mono ?_; rintro r w2 ⟨rfl, k2⟩
            go_wp2_with fail
            refine hK.out _ _ (btrans hbq k2) (.inl ?_)
            clear hK K
            replace hbq := btrans hbq k2
            clear k2
            try simp only [putQ]
            refine qV (.bool true) ?_
            iterate 2 refine qY ?_
            iterate 7 refine qN ?_
            refine qY ?_
            refine qE ?_
            have hb1 := btrans hb hbq
            clear ct gS li c0 c3 c1 d0 x0 x2
            go_wp2
            go_ret
            exact ⟨ret_bool hno.out.symm, btrans b0 hb1⟩
          · cases sv
            · have hno : Hid (wldB 8 nd rl FR 8 SD bl BF = false) := hno'.out (by simp)
              clear hno' hyes
              refine wp_region_q s6_6 t6_6 (fun hbq => ?_)
              refine qY ?_
              refine qL ?_
              iterate 3 refine qY ?_
              refine qL ?_
              refine qY ?_
              refine qV (.bool false) ?_ (by (intro w; go_simp; all_goals (first | with_reducible rfl | (simp [y1.out]; done) | assumption | (simp; done) | (simp; omega))))
              iterate 2 refine qY ?_
              refine qL ?_
              iterate 3 refine qY ?_
              refine qL ?_
              refine qY ?_
              refine qC (fun K hK => ?_)
              go_simp
              refine (gS _).mono ?_; rintro r w1 ⟨rfl, k1⟩
              go_wp2_with fail
              refine hK.out _ _ (btrans hbq k1) (.inl ?_)
              clear hK K
              replace hbq := btrans hbq k1
              clear k1
              try simp only [putQ]
              refine qV (.bool false) ?_ (by (intro w; go_simp; all_goals (first | with_reducible rfl | (simp [y2.out]; done) | assumption | (simp; done) | (simp; omega))))
              iterate 3 refine qY ?_
              refine qL ?_
              iterate 2 refine qY ?_
              refine qR ?_
              refine qC (fun K hK => ?_)
              go_simp
              refine (ct _ hbq).mono ?_; rintro r w2 ⟨rfl, k2⟩
              go_wp2_with fail
              refine hK.out _ _ (btrans hbq k2) (.inl ?_)
              clear hK K
              replace hbq := btrans hbq k2
              clear k2
              try simp only [putQ]
              refine qV (.bool false) ?_
              iterate 3 refine qY ?_
              refine qL ?_
              iterate 2 refine qY ?_
              refine qL ?_
              refine qC (fun K hK => ?_)
              go_simp
              refine (li _).mono ?_; rintro r w3 ⟨rfl, k3⟩
              go_wp2_with fail
              refine hK.out _ _ (btrans hbq k3) (.inl ?_)
              clear hK K
              replace hbq := btrans hbq k3
              clear k3
              try simp only [putQ]
              refine qV (.bool true) ?_
              refine qY ?_
              refine qE ?_
              have hb1 := btrans hb hbq
              clear ct gS li c0 c3 c1 d0 x0 x2
              go_wp2
              go_ret
              exact ⟨ret_bool hno.out.symm, btrans b0 hb1⟩
            · have hya := hyes.out (by rw [y1.out, y2.out]; simp)
              clear hno' hyes
              refine wp_region_q s6_6 t6_6 (fun hbq => ?_)
              refine qY ?_
              refine qL ?_
              iterate 3 refine qY ?_
              refine qL ?_
              refine qY ?_
              refine qV (.bool false) ?_ (by (intro w; go_simp; all_goals (first | with_reducible rfl | (simp [y1.out]; done) | assumption | (simp; done) | (simp; omega))))
              iterate 2 refine qY ?_
              refine qL ?_
              iterate 3 refine qY ?_
              refine qL ?_
              refine qY ?_
              refine qC (fun K hK => ?_)
              go_simp
              refine (gS _).mono ?_; rintro r w1 ⟨rfl, k1⟩
              go_wp2_with fail
              refine hK.out _ _ (btrans hbq k1) (.inl ?_)
              clear hK K
              replace hbq := btrans hbq k1
              clear k1
              try simp only [putQ]
              refine qV (.bool false) ?_ (by (intro w; go_simp; all_goals (first | with_reducible rfl | (simp [y2.out]; done) | assumption | (simp; done) | (simp; omega))))
              iterate 3 refine qY ?_
              refine qL ?_
              iterate 2 refine qY ?_
              refine qR ?_
              refine qC (fun K hK => ?_)
              go_simp
              refine (ct _ hbq).mono ?_; rintro r w2 ⟨rfl, k2⟩
              go_wp2_with fail
              refine hK.out _ _ (btrans hbq k2) (.inl ?_)
              clear hK K
              replace hbq := btrans hbq k2
              clear k2
              try simp only [putQ]
              refine qV (.bool false) ?_
              iterate 3 refine qY ?_
              refine qL ?_
              iterate 2 refine qY ?_
              refine qL ?_
              refine qC (fun K hK => ?_)
              go_simp
              refine (li _).mono ?_; rintro r w3 ⟨rfl, k3⟩
              go_wp2_with fail
              refine hK.out _ _ (btrans hbq k3) (.inl ?_)
              clear hK K
              replace hbq := btrans hbq k3
              clear k3
              try simp only [putQ]
              refine qV (.bool false) ?_
              refine qY ?_
              refine qE ?_
              have hb1 := btrans hb hbq
              clear ct gS li c0 c3 c1 d0 x0 x2
              go_wp2
              go_roundw
              case rel => exact ⟨k + 1, by omega, by go_num, hb1, hya⟩
              case measure => simp [intOf]; omega
        · have hno : Hid (wldB 8 nd rl FR 8 SD bl BF = false) := hno'.out (by simp [e2])
          clear hno' hyes
          refine wp_region_q s6_6 t6_6 (fun hbq => ?_)
          refine qY ?_
          refine qL ?_
          iterate 3 refine qY ?_
          refine qL ?_
          refine qY ?_
          refine qV (.bool false) ?_ (by (intro w; go_simp; all_goals (first | with_reducible rfl | (simp [y1.out]; done) | assumption | (simp; done) | (simp; omega))))
          iterate 2 refine qY ?_
          refine qL ?_
          iterate 3 refine qY ?_
          refine qL ?_
          refine qY ?_
          refine qC (fun K hK => ?_)
          go_simp
          refine (gS _).mono ?_; rintro r w1 ⟨rfl, k1⟩
          go_wp2_with fail
          refine hK.out _ _ (btrans hbq k1) (.inl ?_)
          clear hK K
          replace hbq := btrans hbq k1
          clear k1
          try simp only [putQ]
          refine qV (.bool true) ?_ (by (intro w; go_simp; all_goals (first | with_reducible rfl | (simp [e2]; done) | assumption | (simp; done) | (simp; omega))))
          iterate 2 refine qY ?_
          iterate 7 refine qN ?_
          iterate 2 refine qY ?_
          iterate 7 refine qN ?_
          refine qY ?_
          refine qE ?_
          have hb1 := btrans hb hbq
          clear ct gS li c0 c3 c1 d0 x0 x2
          go_wp2
          go_ret
          exact ⟨ret_bool hno.out.symm, btrans b0 hb1⟩
      · have hno : Hid (wldB 8 nd rl FR 8 SD bl BF = false) := hno'.out (by simp [e1])
        clear hno' hyes
        refine wp_region_q s6_6 t6_6 (fun hbq => ?_)
        refine qY ?_
        refine qL ?_
        iterate 3 refine qY ?_
        refine qL ?_
        refine qY ?_
        refine qV (.bool true) ?_ (by (intro w; go_simp; all_goals (first | with_reducible rfl | (simp [e1]; done) | assumption | (simp; done) | (simp; omega))))
        refine qY ?_
        iterate 9 refine qN ?_
        iterate 2 refine qY ?_
        iterate 7 refine qN ?_
        iterate 2 refine qY ?_
        iterate 7 refine qN ?_
        refine qY ?_
        refine qE ?_
        have hb1 := btrans hb hbq
        clear ct gS li c0 c3 c1 d0 x0 x2
        go_wp2
        go_ret
        exact ⟨ret_bool hno.out.symm, btrans b0 hb1⟩
    · have e : k = 8 := by omega
      subst e
      rw [show ((8 : Nat) : Int) = (8 : Int) from rfl]
      clear hlt hk
      have hN : Hid (∀ j, j < 8 → nokB j (nd j) = true ∧ inb (SD j) 0 2 = true) := hall
      clear hall
      have y1 := keep_below hb e1
      go_wp2
      clear x0 x2 y1
      go_loopw [4] (fun i w2 => ∃ k : Nat, k ≤ rl ∧ i = .int .i64 k ∧ Below u.heap.size u w2 ∧ ∀ j, j < k → ftB (FR j).t (FR j).x = true) (fun i _ => rl - (intOf i).toNat)
      case atStart => exact ⟨0, Nat.zero_le _, rfl, hb, fun j hj => by omega⟩
      case round =>
        obtain ⟨k, hk, rfl, hb2, hall⟩ := hrel
        clear hb
        have x1 := keep_below hb2 e1
        by_cases hlt : k < rl
        · obtain ⟨b, off, rfl, _, hf⟩ := (h0.r.below hb2) (by omega)
          obtain ⟨c0, c1, c2⟩ := hf k hlt
          have i0 : (0 : Int) ≤ (k : Int) := by omega
          have i1 : (k : Int) < (rl : Int) := by omega
          have hno' : Hid (ftB (FR k).t (FR k).x = false → wldB 8 nd rl FR 8 SD bl BF = false) := fun q => by
            unfold wldB
            rw [fta_no hlt q]
            simp
          have hyes : Hid (ftB (FR k).t (FR k).x = true → ∀ j, j < k + 1 → ftB (FR j).t (FR j).x = true) := fun q j hj => by
            by_cases e : j = k
            · subst e; exact q
            · exact hall j (by omega)
          clear hall hf
          obtain ⟨x, hx⟩ : ∃ x, Hid (FR k = x) := ⟨_, rfl⟩
          rw [hx.out] at hno' hyes c0 c1 c2
          clear hx
          obtain ⟨t, x, s⟩ := x
          dsimp only at hno' hyes c0 c1 c2
          obtain ⟨tv, htv⟩ : ∃ g, Hid (inb t 0 7 = g) := ⟨_, rfl⟩
          have li : ∀ w1, Calls Tryz.prog 18 #[.int .i64 t, .int .i64 0, .int .i64 7] w1 fun r w' => r = .returned (.bool tv) ∧ w' = w1 := fun w1 => (lin_any t 0 7 w1).mono (by rintro r w' ⟨rfl, rfl⟩; exact ⟨by rw [htv.out], rfl⟩)
          have hft : Hid (ftB t x = (tv && decide (x.size ≤ 300))) := by
            unfold Hid ftB
            rw [htv.out]
          clear htv
          rw [hft.out] at hno' hyes
          clear hft
          go_wp2_with fail
          refine (li _).mono ?_
          rintro r w3 ⟨rfl, rfl⟩
          cases tv
          · have hno : Hid (wldB 8 nd rl FR 8 SD bl BF = false) := hno'.out (by simp)
            clear hno' hyes
            go_wp2
            go_ret
            exact ⟨ret_bool hno.out.symm, btrans b0 hb2⟩
          · by_cases h300 : x.size ≤ 300
            · have h3a : ¬ (300 : Int) < (x.size : Int) := by omega
              have hya := hyes.out (by simp [h300])
              clear hno' hyes h300
              go_wp2
              go_roundw
              case rel => exact ⟨k + 1, by omega, by go_num, hb2, hya⟩
              case measure => simp [intOf]; omega
            · have h3a : (300 : Int) < (x.size : Int) := by omega
              have hno : Hid (wldB 8 nd rl FR 8 SD bl BF = false) := hno'.out (by simp [h300])
              clear hno' hyes h300
              go_wp2
              go_ret
              exact ⟨ret_bool hno.out.symm, btrans b0 hb2⟩
        · have e : k = rl := by omega
          subst e
          clear hlt hk
          have hT : Hid (∀ j, j < k → ftB (FR j).t (FR j).x = true) := hall
          clear hall
          have y3 := keep_below hb2 e3
          go_wp2
          clear x1 y3
          go_loopw [5] (fun i w2 => ∃ k : Nat, k ≤ bl ∧ i = .int .i64 k ∧ Below u.heap.size u w2 ∧ ∀ j, j < k → fokB (BF j).n (BF j).i (BF j).s = true ∧ (0 < j → fle (BF (j - 1)) (BF j) = true)) (fun i _ => bl - (intOf i).toNat)
          case atStart => exact ⟨0, Nat.zero_le _, rfl, hb2, fun j hj => by omega⟩
          case round =>
            obtain ⟨m, hm, rfl, hb, hall⟩ := hrel
            clear hb2
            have x3 := keep_below hb e3
            by_cases hlt : m < bl
            · obtain ⟨b, off, rfl, _, hf⟩ := (h0.b.below hb) (by omega)
              obtain ⟨c0, c1, c2, c3⟩ := hf m hlt
              have hno' : Hid (fokB (BF m).n (BF m).i (BF m).s = false → wldB 8 nd k FR 8 SD bl BF = false) := fun q => by
                unfold wldB
                rw [born_no hlt q]
                simp
              cases m with
              | zero =>
                have hyes : Hid (fokB (BF 0).n (BF 0).i (BF 0).s = true → ∀ j, j < 0 + 1 → fokB (BF j).n (BF j).i (BF j).s = true ∧ (0 < j → fle (BF (j - 1)) (BF j) = true)) := fun q j hj => by
                  obtain rfl : j = 0 := by omega
                  exact ⟨q, fun z => by omega⟩
                clear hall hf
                obtain ⟨x, hx⟩ : ∃ x, Hid (BF 0 = x) := ⟨_, rfl⟩
                rw [hx.out] at hno' hyes c0 c1 c2 c3
                clear hx
                obtain ⟨n, i, s, g⟩ := x
                dsimp only at hno' hyes c0 c1 c2 c3
                obtain ⟨fv, hfv⟩ : ∃ g, Hid (fokB n i s = g) := ⟨_, rfl⟩
                have fk : ∀ w1, Calls Tryz.prog 19 #[.agg #[.int .i64 n, .int .i64 i, .int .i64 s, .bool g]] w1 fun r w' => r = .returned (.bool fv) ∧ Below w1.heap.size w1 w' := fun w1 => sfok_lit n i s g fv hfv.out w1
                rw [hfv.out] at hno' hyes
                clear hfv
                simp only [Nat.zero_mul, Nat.add_zero] at c0 c1 c2 c3
                have hrg := range4 c0 c1 c2 c3
                have i1 : (0 : Int) < (bl : Int) := by omega
                rw [show ((0 : Nat) : Int) = (0 : Int) from rfl]
                go_upto_region 16 with fail
                cases fv
                · have hno : Hid (wldB 8 nd k FR 8 SD bl BF = false) := hno'.out rfl
                  clear hno' hyes
                  refine wp_region_q s6_16 t6_16 (fun hbq => ?_)
                  refine qY ?_
                  refine qL ?_
                  iterate 2 refine qY ?_
                  refine qR ?_
                  refine qC (fun K hK => ?_)
                  go_simp
                  refine (fk _).mono ?_; rintro r w1 ⟨rfl, k1⟩
                  go_wp2_with fail
                  refine hK.out _ _ (btrans hbq k1) (.inl ?_)
                  clear hK K
                  replace hbq := btrans hbq k1
                  clear k1
                  try simp only [putQ]
                  refine qV (.bool true) ?_
                  refine qY ?_
                  iterate 17 refine qN ?_
                  refine qY ?_
                  refine qE ?_
                  have hb1 := btrans hb hbq
                  clear fk x3 c0 c1 c2 c3 hrg
                  go_wp2
                  go_ret
                  exact ⟨ret_bool hno.out.symm, btrans b0 hb1⟩
                · have hya := hyes.out rfl
                  clear hno' hyes
                  refine wp_region_q s6_16 t6_16 (fun hbq => ?_)
                  refine qY ?_
                  refine qL ?_
                  iterate 2 refine qY ?_
                  refine qR ?_
                  refine qC (fun K hK => ?_)
                  go_simp
                  refine (fk _).mono ?_; rintro r w1 ⟨rfl, k1⟩
                  go_wp2_with fail
                  refine hK.out _ _ (btrans hbq k1) (.inl ?_)
                  clear hK K
                  replace hbq := btrans hbq k1
                  clear k1
                  try simp only [putQ]
                  refine qV (.bool false) ?_
                  iterate 2 refine qY ?_
                  refine qV (.bool false) ?_
                  refine qY ?_
                  iterate 13 refine qN ?_
                  iterate 2 refine qY ?_
                  refine qE ?_
                  have hb1 := btrans hb hbq
                  clear fk x3 c0 c1 c2 c3 hrg
                  go_wp2
                  go_roundw
                  case rel => exact ⟨1, by omega, by go_num, hb1, hya⟩
                  case measure => simp [intOf]; omega
              | succ m =>
                obtain ⟨d0, d1, d2, d3⟩ := hf m (by omega)
                have hno2 : Hid (fle (BF m) (BF (m + 1)) = false → wldB 8 nd k FR 8 SD bl BF = false) := fun q => by
                  unfold wldB
                  rw [born_no2 hlt q]
                  simp
                have hyes : Hid (fokB (BF (m + 1)).n (BF (m + 1)).i (BF (m + 1)).s = true → fle (BF m) (BF (m + 1)) = true → ∀ j, j < m + 1 + 1 → fokB (BF j).n (BF j).i (BF j).s = true ∧ (0 < j → fle (BF (j - 1)) (BF j) = true)) := fun q q2 j hj => by
                  by_cases e : j = m + 1
                  · subst e; exact ⟨q, fun _ => by rw [Nat.add_sub_cancel]; exact q2⟩
                  · exact hall j (by omega)
                clear hall hf
                obtain ⟨x, hx⟩ : ∃ x, Hid (BF (m + 1) = x) := ⟨_, rfl⟩
                obtain ⟨y, hy⟩ : ∃ x, Hid (BF m = x) := ⟨_, rfl⟩
                rw [hx.out] at hno' hno2 hyes c0 c1 c2 c3
                rw [hy.out] at hno2 hyes d0 d1 d2 d3
                clear hx hy
                unfold fle at hno2 hyes
                obtain ⟨n, i, s, g⟩ := x
                obtain ⟨n', i', s', g'⟩ := y
                dsimp only at hno' hno2 hyes c0 c1 c2 c3 d0 d1 d2 d3
                obtain ⟨fv, hfv⟩ : ∃ g, Hid (fokB n i s = g) := ⟨_, rfl⟩
                have fk : ∀ w1, Calls Tryz.prog 19 #[.agg #[.int .i64 n, .int .i64 i, .int .i64 s, .bool g]] w1 fun r w' => r = .returned (.bool fv) ∧ Below w1.heap.size w1 w' := fun w1 => sfok_lit n i s g fv hfv.out w1
                obtain ⟨lv, hlv⟩ : ∃ l, Hid (lessB n' i' s' g' n i s g = l) := ⟨_, rfl⟩
                have ls : ∀ w1, Calls Tryz.prog 20 #[.agg #[.int .i64 n', .int .i64 i', .int .i64 s', .bool g'], .agg #[.int .i64 n, .int .i64 i, .int .i64 s, .bool g]] w1 fun r w' => r = .returned (.bool lv) ∧ Below w1.heap.size w1 w' := fun w1 => by
                  rw [← hlv.out]
                  exact less_any n' i' s' g' n i s g w1
                have hyes' : Hid (fv = true → lv = true → ∀ j, j < m + 1 + 1 → fokB (BF j).n (BF j).i (BF j).s = true ∧ (0 < j → fle (BF (j - 1)) (BF j) = true)) := fun q q2 => hyes.out (hfv.out.trans q) (hlv.out.trans q2)
                rw [hfv.out] at hno'
                rw [hlv.out] at hno2
                clear hfv hlv hyes
                have hrg := range4 c0 c1 c2 c3
                have hrd := range4 d0 d1 d2 d3
                have e9 : ((m + 1 : Nat) : Int) = (m : Int) + 1 := by omega
                rw [e9]
                clear e9
                have hbl := h0.hb
                have i0 : (0 : Int) ≤ (m : Int) := by omega
                have i1 : (m : Int) < (bl : Int) := by omega
                have i2 : (0 : Int) ≤ (m : Int) + 1 := by omega
                have i3 : (m : Int) + 1 < (bl : Int) := by omega
                have i4 : IntKind.i64.wrap (m : Int) = (m : Int) := by have := h0.hb; rw [IntKind.wrap_i64]; omega
                have i5 : IntKind.i64.wrap ((m : Int) + 1 - 1) = (m : Int) := by have := h0.hb; rw [IntKind.wrap_i64]; omega
                have i6 : (0 : Int) < (m : Int) + 1 := by omega
                go_upto_region 16 with fail
                cases fv
                · have hno : Hid (wldB 8 nd k FR 8 SD bl BF = false) := hno'.out rfl
                  clear hno' hno2 hyes'
                  refine wp_region_q s6_16 t6_16 (fun hbq => ?_)
                  refine qY ?_
                  refine qL ?_
                  iterate 2 refine qY ?_
                  refine qR ?_
                  refine qC (fun K hK => ?_)
                  go_simp
                  refine (fk _).mono ?_; rintro r w1 ⟨rfl, k1⟩
                  go_wp2_with fail
                  refine hK.out _ _ (btrans hbq k1) (.inl ?_)
                  clear hK K
                  replace hbq := btrans hbq k1
                  clear k1
                  try simp only [putQ]
                  refine qV (.bool true) ?_
                  refine qY ?_
                  iterate 17 refine qN ?_
                  refine qY ?_
                  refine qE ?_
                  have hb1 := btrans hb hbq
                  clear fk ls x3 c0 c1 c2 c3 d0 d1 d2 d3 hrg hrd
                  go_wp2
                  go_ret
                  exact ⟨ret_bool hno.out.symm, btrans b0 hb1⟩
                · cases lv
                  · have hno : Hid (wldB 8 nd k FR 8 SD bl BF = false) := hno2.out rfl
                    clear hno' hno2 hyes'
                    refine wp_region_q s6_16 t6_16 (fun hbq => ?_)
                    refine qY ?_
                    refine qL ?_
                    iterate 2 refine qY ?_
                    refine qR ?_
                    refine qC (fun K hK => ?_)
                    go_simp
                    refine (fk _).mono ?_; rintro r w1 ⟨rfl, k1⟩
                    go_wp2_with fail
                    refine hK.out _ _ (btrans hbq k1) (.inl ?_)
                    clear hK K
                    replace hbq := btrans hbq k1
                    clear k1
                    try simp only [putQ]
                    refine qV (.bool false) ?_
                    iterate 2 refine qY ?_
                    refine qV (.bool true) ?_
                    iterate 2 refine qY ?_
                    refine qL ?_
                    iterate 3 refine qY ?_
                    refine qR ?_
                    refine qY ?_
                    refine qL ?_
                    iterate 2 refine qY ?_
                    refine qR ?_
                    refine qC (fun K hK => ?_)
                    go_simp
                    refine (ls _).mono ?_; rintro r w2 ⟨rfl, k2⟩
                    go_wp2_with fail
                    refine hK.out _ _ (btrans hbq k2) (.inl ?_)
                    clear hK K
                    replace hbq := btrans hbq k2
                    clear k2
                    try simp only [putQ]
                    refine qV (.bool true) ?_
                    iterate 2 refine qY ?_
                    refine qE ?_
                    have hb1 := btrans hb hbq
                    clear fk ls x3 c0 c1 c2 c3 d0 d1 d2 d3 hrg hrd
                    go_wp2
                    go_ret
                    exact ⟨ret_bool hno.out.symm, btrans b0 hb1⟩
                  · have hya := hyes'.out rfl rfl
                    clear hno' hno2 hyes'
                    refine wp_region_q s6_16 t6_16 (fun hbq => ?_)
                    refine qY ?_
                    refine qL ?_
                    iterate 2 refine qY ?_
                    refine qR ?_
                    refine qC (fun K hK => ?_)
                    go_simp
                    refine (fk _).mono ?_; rintro r w1 ⟨rfl, k1⟩
                    go_wp2_with fail
                    refine hK.out _ _ (btrans hbq k1) (.inl ?_)
                    clear hK K
                    replace hbq := btrans hbq k1
                    clear k1
                    try simp only [putQ]
                    refine qV (.bool false) ?_
                    iterate 2 refine qY ?_
                    refine qV (.bool true) ?_
                    iterate 2 refine qY ?_
                    refine qL ?_
                    iterate 3 refine qY ?_
                    refine qR ?_
                    refine qY ?_
                    refine qL ?_
                    iterate 2 refine qY ?_
                    refine qR ?_
                    refine qC (fun K hK => ?_)
                    go_simp
                    refine (ls _).mono ?_; rintro r w2 ⟨rfl, k2⟩
                    go_wp2_with fail
                    refine hK.out _ _ (btrans hbq k2) (.inl ?_)
                    clear hK K
                    replace hbq := btrans hbq k2
                    clear k2
                    try simp only [putQ]
                    refine qV (.bool false) ?_
                    iterate 2 refine qY ?_
                    refine qE ?_
                    have hb1 := btrans hb hbq
                    clear fk ls x3 c0 c1 c2 c3 d0 d1 d2 d3 hrg hrd
                    go_wp2
                    go_roundw
                    case rel => exact ⟨m + 1 + 1, by omega, by go_num, hb1, hya⟩
                    case measure => simp [intOf]; omega
            · have e : m = bl := by omega
              subst e
              clear hlt hm
              have hyy : Hid (wldB 8 nd k FR 8 SD m BF = true) := by
                unfold Hid wldB
                rw [sdn_yes hN.out, fta_yes hT.out, born_yes hall, decide_eq_true h3]
                rfl
              clear hall hN hT
              go_wp2
              go_ret
              exact ⟨ret_bool hyy.out.symm, btrans b0 hb⟩
end Go.Proofs.YthekjfdggfbelaaGreat
/- Worlds: whether a world is ok, as the program asks; how great a world is; whether worlds are equal. -/
namespace Go.Proofs.YthekjfdggfbelaaGreat
open Go.ChangeShapes Go.WideShapes Go.ChangeAt Go.RowKit
theorem sdn_split (m : Nat) (nd : Nat → Nod) (SD : Nat → Int) : sdnB m nd SD = (decide (∀ k, k < m → nokB k (nd k) = true) && sdA m SD) := by
  unfold sdnB sdA
  rw [← Bool.decide_and]
  congr 1
  apply propext
  exact ⟨fun q => ⟨fun k hk => (q k hk).1, fun k hk => (q k hk).2⟩, fun q k hk => ⟨q.1 k hk, q.2 k hk⟩⟩
theorem wld_same {nl : Nat} {nd : Nat → Nod} {rl : Nat} {FR : Nat → Ft} {sl : Nat} {SD : Nat → Int} {bl : Nat} {BF : Nat → Fc} : (nodesB nl nd && radB rl FR && sidB sl SD && bornB bl BF) = wldB nl nd rl FR sl SD bl BF := by
  rw [born_same]
  unfold wldB nodesB radB sidB
  by_cases h2 : sl = nl
  · subst h2
    rw [sdn_split]
    generalize bornS bl BF = a
    generalize ftA rl FR = b
    generalize sdA sl SD = c
    generalize decide (rl ≤ 60) = d
    generalize decide (∀ k, k < sl → nokB k (nd k) = true) = f
    generalize decide (sl = 8) = e
    revert a b c d f e
    decide
  · by_cases h1 : nl = 8
    · have h3 : ¬ sl = 8 := by omega
      rw [decide_eq_false h3]
      simp
    · rw [decide_eq_false h1]
      simp
set_option maxHeartbeats 1000000 in
theorem wldI_any (na : Option Addr) (nl nc : Nat) (ra : Option Addr) (rl rc : Nat) (sa : Option Addr) (sl sc : Nat) (ba : Option Addr) (bl bc : Nat) (nd : Nat → Nod) (FR : Nat → Ft) (SD : Nat → Int) (BF : Nat → Fc) (w : World) (h : WdR w na nl ra rl sa sl ba bl nd FR SD BF) :
    Calls Tryz.prog 8 #[.agg #[.slice na nl nc, .slice ra rl rc, .slice sa sl sc, .slice ba bl bc]] w fun e w' => e = .returned (.bool (wldB nl nd rl FR sl SD bl BF)) ∧ Below w.heap.size w w' := by
  have hsm := wld_same (nl := nl) (nd := nd) (rl := rl) (FR := FR) (sl := sl) (SD := SD) (bl := bl) (BF := BF)
  obtain ⟨v, hv⟩ : ∃ v, Hid (wldB nl nd rl FR sl SD bl BF = v) := ⟨_, rfl⟩
  rw [hv.out] at hsm
  rw [hv.out]
  clear hv
  have b0 := balloc (.cells #[.slice na nl nc, .slice ra rl rc, .slice sa sl sc, .slice ba bl bc] 34) (Below.refl w.heap.size w)
  have X := Ws.box (w := w) #[.slice na nl nc, .slice ra rl rc, .slice sa sl sc, .slice ba bl bc] 34
  have h0 := h.below b0
  go_enter Tryz.func8, Tryz.ntmps8
  go_upto_region 1 with fail
  generalize w.alloc (.cells #[.slice na nl nc, .slice ra rl rc, .slice sa sl sc, .slice ba bl bc] 34) = u at *
  have e0 := X.c 0 (.slice na nl nc) rfl
  have e1 := X.c 1 (.slice ra rl rc) rfl
  have e2 := X.c 2 (.slice sa sl sc) rfl
  have e3 := X.c 3 (.slice ba bl bc) rfl
  clear X h
  obtain ⟨v0, hv0⟩ : ∃ v, Hid (nodesB nl nd = v) := ⟨_, rfl⟩
  obtain ⟨v1, hv1⟩ : ∃ v, Hid (radB rl FR = v) := ⟨_, rfl⟩
  obtain ⟨v2, hv2⟩ : ∃ v, Hid (sidB sl SD = v) := ⟨_, rfl⟩
  obtain ⟨v3, hv3⟩ : ∃ v, Hid (bornB bl BF = v) := ⟨_, rfl⟩
  rw [hv0.out, hv1.out, hv2.out, hv3.out] at hsm
  have hsm' : Hid ((v0 && v1 && v2 && v3) = v) := hsm
  clear hsm
  go_wp2_with fail
  refine (nodes_any na nl nc nd _ h0.n h0.hn).mono ?_
  rintro r u1 ⟨rfl, k1⟩
  rw [hv0.out]
  have b1 := btrans b0 k1
  have h1 := h0.below k1
  replace e1 := keep_below k1 e1
  replace e2 := keep_below k1 e2
  replace e3 := keep_below k1 e3
  clear e0 hv0 h0 b0 k1
  cases v0
  · clear e1 e2 e3
    go_wp2
    go_ret
    exact ⟨ret_bool (by rw [← hsm'.out]; simp), b1⟩
  go_wp2_with fail
  refine (radio_any ra rl rc FR _ h1.r h1.hr).mono ?_
  rintro r u2 ⟨rfl, k1⟩
  rw [hv1.out]
  have b2 := btrans b1 k1
  have h2 := h1.below k1
  replace e2 := keep_below k1 e2
  replace e3 := keep_below k1 e3
  clear e1 hv1 h1 b1 k1
  cases v1
  · clear e2 e3
    go_wp2
    go_ret
    exact ⟨ret_bool (by rw [← hsm'.out]; simp), b2⟩
  go_wp2_with fail
  refine (sides_any sa sl sc SD _ h2.s h2.hs).mono ?_
  rintro r u3 ⟨rfl, k1⟩
  rw [hv2.out]
  have b3 := btrans b2 k1
  have h3 := h2.below k1
  replace e3 := keep_below k1 e3
  clear e2 hv2 h2 b2 k1
  cases v2
  · clear e3
    go_wp2
    go_ret
    exact ⟨ret_bool (by rw [← hsm'.out]; simp), b3⟩
  go_wp2_with fail
  refine (born_any ba bl bc BF _ h3.b h3.hb).mono ?_
  rintro r u4 ⟨rfl, k1⟩
  rw [hv3.out]
  have b4 := btrans b3 k1
  clear e3 hv3 h3 b3 k1
  go_wp2
  go_ret
  exact ⟨ret_bool (by rw [← hsm'.out]; simp), b4⟩
/-- a world that came in -/
structure WdRaw (w : World) (na : Option Addr) (nl : Nat) (ra : Option Addr) (rl : Nat) (sa : Option Addr) (sl sc : Nat) (ba : Option Addr) (bl bc : Nat) (R : Nat → Rn) (FR : Nat → Ft) (SD : Nat → Int) (BF : Nat → Fc) : Prop where
  n : NSl w na nl R
  nr : ∀ k, k < nl → (R k).Raw w
  r : FtSl w ra rl FR
  rx : ∀ k, k < rl → (FR k).x.size ≤ maxLen
  s : ISl w sa sl SD
  b : FSl w ba bl BF
  hn : nl ≤ maxLen
  hr : rl ≤ maxLen
  hs : sl ≤ maxLen
  hb : bl ≤ maxLen
  cs : sl ≤ sc
  cb : bl ≤ bc
/-- no part of it is too great -/
structure WdMax (nl : Nat) (R : Nat → Rn) (rl sl bl : Nat) : Prop where
  n : nl ≤ 1048576
  nm : ∀ k, k < nl → (R k).Max
  r : rl ≤ 1048576
  s : sl ≤ 1048576
  b : bl ≤ 1048576
theorem WdRaw.below {w w' : World} {na : Option Addr} {nl : Nat} {ra : Option Addr} {rl : Nat} {sa : Option Addr} {sl sc : Nat} {ba : Option Addr} {bl bc : Nat} {R : Nat → Rn} {FR : Nat → Ft} {SD : Nat → Int} {BF : Nat → Fc} (h : WdRaw w na nl ra rl sa sl sc ba bl bc R FR SD BF) (k : Below w.heap.size w w') : WdRaw w' na nl ra rl sa sl sc ba bl bc R FR SD BF :=
  ⟨h.n.below k, fun j hj => NdRaw.below (h.nr j hj) k, h.r.below k, h.rx, h.s.below k, h.b.below k, h.hn, h.hr, h.hs, h.hb, h.cs, h.cb⟩
set_option maxHeartbeats 2000000 in
theorem szWld_any (na : Option Addr) (nl nc : Nat) (ra : Option Addr) (rl rc : Nat) (sa : Option Addr) (sl sc : Nat) (ba : Option Addr) (bl bc : Nat) (R : Nat → Rn) (FR : Nat → Ft) (SD : Nat → Int) (BF : Nat → Fc) (w : World) (h : WdRaw w na nl ra rl sa sl sc ba bl bc R FR SD BF) :
    Calls Tryz.prog 5 #[.agg #[.slice na nl nc, .slice ra rl rc, .slice sa sl sc, .slice ba bl bc], .int .i64 1048576] w fun e w' => (∃ z : Int, e = .returned (.int .i64 z) ∧ (z = -1 ∨ (0 ≤ z ∧ WdMax nl R rl sl bl))) ∧ Below w.heap.size w w' := by
  have b0 := balloc (.cells #[.slice na nl nc, .slice ra rl rc, .slice sa sl sc, .slice ba bl bc] 27) (Below.refl w.heap.size w)
  have X := Ws.box (w := w) #[.slice na nl nc, .slice ra rl rc, .slice sa sl sc, .slice ba bl bc] 27
  have h0 := h.below b0
  go_enter Tryz.func5, Tryz.ntmps5
  go_upto_region 1 with fail
  generalize w.alloc (.cells #[.slice na nl nc, .slice ra rl rc, .slice sa sl sc, .slice ba bl bc] 27) = u at *
  have e0 := X.c 0 (.slice na nl nc) rfl
  have e1 := X.c 1 (.slice ra rl rc) rfl
  have e2 := X.c 2 (.slice sa sl sc) rfl
  have e3 := X.c 3 (.slice ba bl bc) rfl
  clear X h
  go_wp2_with fail
  refine (szNodeS_any na nl nc R 1048576 (by omega) (by omega) _ h0.n h0.nr h0.hn).mono ?_
  rintro r u1 ⟨⟨z1, rfl, hz1⟩, k1⟩
  have b1 := btrans b0 k1
  have h1 := h0.below k1
  replace e1 := keep_below k1 e1
  replace e2 := keep_below k1 e2
  replace e3 := keep_below k1 e3
  clear e0 h0 b0 k1
  rcases hz1 with rfl | ⟨⟨p1, q1⟩, m1, m2⟩
  · clear e1 e2 e3
    go_wp2
    go_ret
    exact ⟨⟨-1, rfl, .inl rfl⟩, b1⟩
  have n1 : ¬ z1 < 0 := by omega
  go_wp2_with fail
  refine (szFts_any ra rl rc FR z1 _ h1.r p1 q1 h1.hr h1.rx).mono ?_
  rintro r u2 ⟨⟨z2, rfl, hz2⟩, k1⟩
  have b2 := btrans b1 k1
  have h2 := h1.below k1
  replace e2 := keep_below k1 e2
  replace e3 := keep_below k1 e3
  clear e1 h1 b1 k1
  rcases hz2 with rfl | ⟨p2, q2, m3, _⟩
  · clear e2 e3
    go_wp2
    go_ret
    exact ⟨⟨-1, rfl, .inl rfl⟩, b2⟩
  have n2 : ¬ z2 < 0 := by omega
  have q2' : z2 ≤ 1048576 := by omega
  clear q2 n1
  go_wp2_with fail
  refine (szInts_any sa sl sc z2 _ p2 q2' h2.hs).mono ?_
  rintro r u3 ⟨rfl, rfl⟩
  clear e2
  by_cases l3 : z2 < (sl : Int)
  · rw [if_pos l3]
    clear e3
    go_wp2
    go_ret
    exact ⟨⟨-1, rfl, .inl rfl⟩, b2⟩
  rw [if_neg l3]
  have m4 : sl ≤ 1048576 := by omega
  obtain ⟨z3, hz3⟩ : ∃ z, Hid (z2 - (sl : Int) = z) := ⟨_, rfl⟩
  have p3 : 0 ≤ z3 := by rw [← hz3.out]; omega
  have q3 : z3 ≤ 1048576 := by rw [← hz3.out]; omega
  rw [hz3.out]
  have n3 : ¬ z3 < 0 := by omega
  clear hz3 l3 n2
  go_wp2_with fail
  refine (szFactS_any ba bl bc z3 _ p3 q3 h2.hb).mono ?_
  rintro r u4 ⟨rfl, rfl⟩
  clear e3
  by_cases l4 : z3 < (bl : Int)
  · rw [if_pos l4]
    go_wp2
    go_ret
    exact ⟨⟨-1, rfl, .inl rfl⟩, b2⟩
  rw [if_neg l4]
  have m5 : bl ≤ 1048576 := by omega
  obtain ⟨z4, hz4⟩ : ∃ z, Hid (z3 - (bl : Int) = z) := ⟨_, rfl⟩
  have p4 : 0 ≤ z4 := by rw [← hz4.out]; omega
  rw [hz4.out]
  have n4 : ¬ z4 < 0 := by omega
  clear hz4 l4
  go_wp2
  go_ret
  exact ⟨⟨z4, rfl, .inr ⟨p4, ⟨m1, m2, m3, m4, m5⟩⟩⟩, b2⟩
set_option maxHeartbeats 2000000 in
theorem eqWld_same (na : Option Addr) (nl nc : Nat) (ra : Option Addr) (rl rc : Nat) (sa : Option Addr) (sl sc : Nat) (ba : Option Addr) (bl bc : Nat) (nd : Nat → Nod) (FR : Nat → Ft) (SD : Nat → Int) (BF : Nat → Fc) (na' : Option Addr) (nc' : Nat) (ra' : Option Addr) (rc' : Nat) (sa' : Option Addr) (sc' : Nat) (ba' : Option Addr) (bc' : Nat) (w : World) (h : WdR w na nl ra rl sa sl ba bl nd FR SD BF) (h' : WdR w na' nl ra' rl sa' sl ba' bl nd FR SD BF) :
    Calls Tryz.prog 9 #[.agg #[.slice na nl nc, .slice ra rl rc, .slice sa sl sc, .slice ba bl bc], .agg #[.slice na' nl nc', .slice ra' rl rc', .slice sa' sl sc', .slice ba' bl bc']] w fun e w' => e = .returned (.bool true) ∧ Below w.heap.size w w' := by
  have b0 := balloc (.cells #[.slice na' nl nc', .slice ra' rl rc', .slice sa' sl sc', .slice ba' bl bc'] 34) (balloc (.cells #[.slice na nl nc, .slice ra rl rc, .slice sa sl sc, .slice ba bl bc] 34) (Below.refl w.heap.size w))
  have X := (Ws.box (w := w) #[.slice na nl nc, .slice ra rl rc, .slice sa sl sc, .slice ba bl bc] 34).alloc (.cells #[.slice na' nl nc', .slice ra' rl rc', .slice sa' sl sc', .slice ba' bl bc'] 34)
  have Y := Ws.box (w := w.alloc (.cells #[.slice na nl nc, .slice ra rl rc, .slice sa sl sc, .slice ba bl bc] 34)) #[.slice na' nl nc', .slice ra' rl rc', .slice sa' sl sc', .slice ba' bl bc'] 34
  have hs : (w.alloc (.cells #[.slice na nl nc, .slice ra rl rc, .slice sa sl sc, .slice ba bl bc] 34)).heap.size = w.heap.size + 1 := by simp [go_sem]
  rw [hs] at Y
  have h0 := h.below b0
  have g0 := h'.below b0
  go_enter Tryz.func9, Tryz.ntmps9
  go_upto_region 1 with fail
  generalize (w.alloc (.cells #[.slice na nl nc, .slice ra rl rc, .slice sa sl sc, .slice ba bl bc] 34)).alloc (.cells #[.slice na' nl nc', .slice ra' rl rc', .slice sa' sl sc', .slice ba' bl bc'] 34) = u at *
  clear hs h h'
  have e0 := X.c 0 (.slice na nl nc) rfl
  have f0 := Y.c 0 (.slice na' nl nc') rfl
  have e1 := X.c 1 (.slice ra rl rc) rfl
  have f1 := Y.c 1 (.slice ra' rl rc') rfl
  have e2 := X.c 2 (.slice sa sl sc) rfl
  have f2 := Y.c 2 (.slice sa' sl sc') rfl
  have e3 := X.c 3 (.slice ba bl bc) rfl
  have f3 := Y.c 3 (.slice ba' bl bc') rfl
  clear X Y
  go_wp2_with fail
  refine (eqNodeS_same na na' nl nc nc' nd _ h0.n g0.n h0.hn).mono ?_
  rintro r u1 ⟨rfl, k1⟩
  replace b0 := btrans b0 k1
  replace h0 := h0.below k1
  replace g0 := g0.below k1
  replace e1 := keep_below k1 e1
  replace f1 := keep_below k1 f1
  replace e2 := keep_below k1 e2
  replace f2 := keep_below k1 f2
  replace e3 := keep_below k1 e3
  replace f3 := keep_below k1 f3
  clear e0 f0 k1
  go_wp2_with fail
  refine (eqFts_same ra ra' rl rc rc' FR _ h0.r g0.r h0.hr).mono ?_
  rintro r u1 ⟨rfl, k1⟩
  replace b0 := btrans b0 k1
  replace h0 := h0.below k1
  replace g0 := g0.below k1
  replace e2 := keep_below k1 e2
  replace f2 := keep_below k1 f2
  replace e3 := keep_below k1 e3
  replace f3 := keep_below k1 f3
  clear e1 f1 k1
  go_wp2_with fail
  refine (eqInts_same sa sa' sl sc sc' SD _ h0.s g0.s h0.hs).mono ?_
  rintro r u1 ⟨rfl, k1⟩
  replace b0 := btrans b0 k1
  replace h0 := h0.below k1
  replace g0 := g0.below k1
  replace e3 := keep_below k1 e3
  replace f3 := keep_below k1 f3
  clear e2 f2 k1
  go_wp2_with fail
  refine (eqFactS_same ba ba' bl bc bc' BF _ h0.b g0.b h0.hb).mono ?_
  rintro r u1 ⟨rfl, k1⟩
  replace b0 := btrans b0 k1
  replace h0 := h0.below k1
  replace g0 := g0.below k1
  clear e3 f3 k1
  go_wp2
  go_ret
  exact ⟨rfl, b0⟩
end Go.Proofs.YthekjfdggfbelaaGreat
/- Worlds: copies of worlds. -/
namespace Go.Proofs.YthekjfdggfbelaaGreat
open Go.ChangeShapes Go.WideShapes Go.ChangeAt Go.RowKit
set_option maxRecDepth 20000 in
set_option maxHeartbeats 2000000 in
theorem toWld_any (na : Option Addr) (nl nc : Nat) (ra : Option Addr) (rl rc : Nat) (sa : Option Addr) (sl sc : Nat) (ba : Option Addr) (bl bc : Nat) (R : Nat → Rn) (FR : Nat → Ft) (SD : Nat → Int) (BF : Nat → Fc) (w : World) (h : WdRaw w na nl ra rl sa sl sc ba bl bc R FR SD BF) (m : WdMax nl R rl sl bl) :
    Calls Tryz.prog 7 #[.agg #[.slice na nl nc, .slice ra rl rc, .slice sa sl sc, .slice ba bl bc]] w fun e w' => ∃ b1 b2 b3 b4, e = .returned (.agg #[.slice (some ⟨b1, 0, none⟩) nl nl, .slice (some ⟨b2, 0, none⟩) rl rl, .slice (some ⟨b3, 0, none⟩) sl sl, .slice (some ⟨b4, 0, none⟩) bl bl]) ∧ WdR w' (some ⟨b1, 0, none⟩) nl (some ⟨b2, 0, none⟩) rl (some ⟨b3, 0, none⟩) sl (some ⟨b4, 0, none⟩) bl (fun k => (R k).nod) FR SD BF ∧ Below w.heap.size w w' := by
  have hs1 : (w.alloc (.cells #[.slice na nl nc, .slice ra rl rc, .slice sa sl sc, .slice ba bl bc] 27)).heap.size = w.heap.size + 1 := by simp [go_sem]
  have hs2 : ((w.alloc (.cells #[.slice na nl nc, .slice ra rl rc, .slice sa sl sc, .slice ba bl bc] 27)).alloc (.cells #[.slice none 0 0, .slice none 0 0, .slice none 0 0, .slice none 0 0] 34)).heap.size = w.heap.size + 1 + 1 := by simp [go_sem]
  have X := ((Ws.box (w := w) #[.slice na nl nc, .slice ra rl rc, .slice sa sl sc, .slice ba bl bc] 27).alloc (.cells #[.slice none 0 0, .slice none 0 0, .slice none 0 0, .slice none 0 0] 34)).alloc (.cells #[.slice none 0 0, .slice none 0 0, .slice none 0 0, .slice none 0 0] 34)
  have K := (Ws.box (w := w.alloc (.cells #[.slice na nl nc, .slice ra rl rc, .slice sa sl sc, .slice ba bl bc] 27)) #[.slice none 0 0, .slice none 0 0, .slice none 0 0, .slice none 0 0] 34).alloc (.cells #[.slice none 0 0, .slice none 0 0, .slice none 0 0, .slice none 0 0] 34)
  have Y := Ws.box (w := (w.alloc (.cells #[.slice na nl nc, .slice ra rl rc, .slice sa sl sc, .slice ba bl bc] 27)).alloc (.cells #[.slice none 0 0, .slice none 0 0, .slice none 0 0, .slice none 0 0] 34)) #[.slice none 0 0, .slice none 0 0, .slice none 0 0, .slice none 0 0] 34
  rw [hs1] at K
  rw [hs2] at Y
  have b0 := balloc (.cells #[.slice none 0 0, .slice none 0 0, .slice none 0 0, .slice none 0 0] 34) (balloc (.cells #[.slice none 0 0, .slice none 0 0, .slice none 0 0, .slice none 0 0] 34) (balloc (.cells #[.slice na nl nc, .slice ra rl rc, .slice sa sl sc, .slice ba bl bc] 27) (Below.refl w.heap.size w)))
  clear hs1 hs2
  go_enter Tryz.func7, Tryz.ntmps7
  go_upto_region 2 with fail
  generalize ((w.alloc (.cells #[.slice na nl nc, .slice ra rl rc, .slice sa sl sc, .slice ba bl bc] 27)).alloc (.cells #[.slice none 0 0, .slice none 0 0, .slice none 0 0, .slice none 0 0] 34)).alloc (.cells #[.slice none 0 0, .slice none 0 0, .slice none 0 0, .slice none 0 0] 34) = u at *
  have n1 : w.heap.size ≠ w.heap.size + 1 + 1 := by omega
  have n2 : w.heap.size + 1 ≠ w.heap.size + 1 + 1 := by omega
  have g1 : w.heap.size ≤ w.heap.size + 1 := by omega
  have g2 : w.heap.size ≤ w.heap.size + 1 + 1 := by omega
  have n3 : w.heap.size + 1 < w.heap.size + 1 + 1 := by omega
  generalize w.heap.size + 1 + 1 = KO at *
  generalize w.heap.size + 1 = KR at *
  have dx := X.c 0 (.slice na nl nc) rfl
  go_wp2_with fail
  refine (toNodeS_any na nl nc R _ (h.below b0).n (h.below b0).nr m.nm m.n).mono ?_
  rintro r w2 ⟨b1, C, rfl, hD0, k1⟩
  have lt0KO : KO < u.heap.size := Y.lt
  have lt0KR : KR < u.heap.size := K.lt
  replace X := X.below k1
  replace K := K.below k1
  replace Y := Y.below k1
  replace b0 := btrans b0 k1
  clear k1 dx
  have yy := Y.c 0 (.slice none 0 0) rfl
  have zz := Y.z 0
  go_upto_region 3 with fail
  have X' := X.far (k := 0) (v := (.slice (some ⟨b1, 0, none⟩) nl nl)) n1
  have K' := K.far (k := 0) (v := (.slice (some ⟨b1, 0, none⟩) nl nl)) n2
  have Y' : Ws _ KO [.slice (some ⟨b1, 0, none⟩) nl nl, .slice none 0 0, .slice none 0 0, .slice none 0 0] := Y.set 0 (by simp) (.slice (some ⟨b1, 0, none⟩) nl nl)
  have b0' := b0.setCell (p := ⟨KO, 0, none⟩) g2 (.slice (some ⟨b1, 0, none⟩) nl nl)
  have hD0' := hD0.but (But2.set (c := KO) (d := KO) (k := 0) (.slice (some ⟨b1, 0, none⟩) nl nl)) lt0KO
  clear yy zz X K Y b0 hD0
  generalize w2.setCell ⟨KO, 0, none⟩ (.slice (some ⟨b1, 0, none⟩) nl nl) = u1 at *
  have X := X'
  have K := K'
  have Y := Y'
  have b0 := b0'
  have hD0 := hD0'
  clear X' K' Y' b0' hD0'
  have dx := X.c 1 (.slice ra rl rc) rfl
  go_wp2_with fail
  refine (toFts_any ra rl rc FR _ (h.below b0).r m.r).mono ?_
  rintro r w2 ⟨b2, rfl, hD1, lb1, k1⟩
  have q1KO : b2 ≠ KO := fun q => by have := Y.lt; omega
  have q1KR : b2 ≠ KR := fun q => by have := K.lt; omega
  clear lb1
  replace hD0 := hD0.below k1
  replace X := X.below k1
  replace K := K.below k1
  replace Y := Y.below k1
  replace b0 := btrans b0 k1
  clear k1 dx
  have yy := Y.c 1 (.slice none 0 0) rfl
  have zz := Y.z 1
  go_upto_region 4 with fail
  have X' := X.far (k := 1) (v := (.slice (some ⟨b2, 0, none⟩) rl rl)) n1
  have K' := K.far (k := 1) (v := (.slice (some ⟨b2, 0, none⟩) rl rl)) n2
  have Y' : Ws _ KO [.slice (some ⟨b1, 0, none⟩) nl nl, .slice (some ⟨b2, 0, none⟩) rl rl, .slice none 0 0, .slice none 0 0] := Y.set 1 (by simp) (.slice (some ⟨b2, 0, none⟩) rl rl)
  have b0' := b0.setCell (p := ⟨KO, 1, none⟩) g2 (.slice (some ⟨b2, 0, none⟩) rl rl)
  have hD0' := hD0.but (But2.set (c := KO) (d := KO) (k := 1) (.slice (some ⟨b2, 0, none⟩) rl rl)) lt0KO
  have hD1' := row_but hD1 (But2.set (c := KO) (d := KO) (k := 1) (.slice (some ⟨b2, 0, none⟩) rl rl)) q1KO q1KO
  clear yy zz X K Y b0 hD0 hD1
  generalize w2.setCell ⟨KO, 1, none⟩ (.slice (some ⟨b2, 0, none⟩) rl rl) = u2 at *
  have X := X'
  have K := K'
  have Y := Y'
  have b0 := b0'
  have hD0 := hD0'
  have hD1 := hD1'
  clear X' K' Y' b0' hD0' hD1'
  have dx := X.c 2 (.slice sa sl sc) rfl
  go_wp2_with fail
  refine (toInts_any sa sl sc SD _ (h.below b0).s m.s h.cs).mono ?_
  rintro r w2 ⟨b3, rfl, hD2, lb2, k1⟩
  have q2KO : b3 ≠ KO := fun q => by have := Y.lt; omega
  have q2KR : b3 ≠ KR := fun q => by have := K.lt; omega
  clear lb2
  replace hD0 := hD0.below k1
  replace hD1 := row_below hD1 k1
  replace X := X.below k1
  replace K := K.below k1
  replace Y := Y.below k1
  replace b0 := btrans b0 k1
  clear k1 dx
  have yy := Y.c 2 (.slice none 0 0) rfl
  have zz := Y.z 2
  go_upto_region 5 with fail
  have X' := X.far (k := 2) (v := (.slice (some ⟨b3, 0, none⟩) sl sl)) n1
  have K' := K.far (k := 2) (v := (.slice (some ⟨b3, 0, none⟩) sl sl)) n2
  have Y' : Ws _ KO [.slice (some ⟨b1, 0, none⟩) nl nl, .slice (some ⟨b2, 0, none⟩) rl rl, .slice (some ⟨b3, 0, none⟩) sl sl, .slice none 0 0] := Y.set 2 (by simp) (.slice (some ⟨b3, 0, none⟩) sl sl)
  have b0' := b0.setCell (p := ⟨KO, 2, none⟩) g2 (.slice (some ⟨b3, 0, none⟩) sl sl)
  have hD0' := hD0.but (But2.set (c := KO) (d := KO) (k := 2) (.slice (some ⟨b3, 0, none⟩) sl sl)) lt0KO
  have hD1' := row_but hD1 (But2.set (c := KO) (d := KO) (k := 2) (.slice (some ⟨b3, 0, none⟩) sl sl)) q1KO q1KO
  have hD2' := hD2.far (b' := KO) (k := 2) (v := (.slice (some ⟨b3, 0, none⟩) sl sl)) q2KO
  clear yy zz X K Y b0 hD0 hD1 hD2
  generalize w2.setCell ⟨KO, 2, none⟩ (.slice (some ⟨b3, 0, none⟩) sl sl) = u3 at *
  have X := X'
  have K := K'
  have Y := Y'
  have b0 := b0'
  have hD0 := hD0'
  have hD1 := hD1'
  have hD2 := hD2'
  clear X' K' Y' b0' hD0' hD1' hD2'
  have dx := X.c 3 (.slice ba bl bc) rfl
  go_wp2_with fail
  refine (toFactsR_any ba bl bc BF _ (h.below b0).b m.b h.cb).mono ?_
  rintro r w2 ⟨b4, rfl, hD3, lb3, k1⟩
  have q3KO : b4 ≠ KO := fun q => by have := Y.lt; omega
  have q3KR : b4 ≠ KR := fun q => by have := K.lt; omega
  clear lb3
  replace hD0 := hD0.below k1
  replace hD1 := row_below hD1 k1
  replace hD2 := hD2.below k1
  replace X := X.below k1
  replace K := K.below k1
  replace Y := Y.below k1
  replace b0 := btrans b0 k1
  clear k1 dx
  have yy := Y.c 3 (.slice none 0 0) rfl
  have zz := Y.z 3
  go_upto_region 6 with fail
  have X' := X.far (k := 3) (v := (.slice (some ⟨b4, 0, none⟩) bl bl)) n1
  have K' := K.far (k := 3) (v := (.slice (some ⟨b4, 0, none⟩) bl bl)) n2
  have Y' : Ws _ KO [.slice (some ⟨b1, 0, none⟩) nl nl, .slice (some ⟨b2, 0, none⟩) rl rl, .slice (some ⟨b3, 0, none⟩) sl sl, .slice (some ⟨b4, 0, none⟩) bl bl] := Y.set 3 (by simp) (.slice (some ⟨b4, 0, none⟩) bl bl)
  have b0' := b0.setCell (p := ⟨KO, 3, none⟩) g2 (.slice (some ⟨b4, 0, none⟩) bl bl)
  have hD0' := hD0.but (But2.set (c := KO) (d := KO) (k := 3) (.slice (some ⟨b4, 0, none⟩) bl bl)) lt0KO
  have hD1' := row_but hD1 (But2.set (c := KO) (d := KO) (k := 3) (.slice (some ⟨b4, 0, none⟩) bl bl)) q1KO q1KO
  have hD2' := hD2.far (b' := KO) (k := 3) (v := (.slice (some ⟨b4, 0, none⟩) bl bl)) q2KO
  have hD3' := hD3.far (b' := KO) (k := 3) (v := (.slice (some ⟨b4, 0, none⟩) bl bl)) q3KO
  clear yy zz X K Y b0 hD0 hD1 hD2 hD3
  generalize w2.setCell ⟨KO, 3, none⟩ (.slice (some ⟨b4, 0, none⟩) bl bl) = u4 at *
  have X := X'
  have K := K'
  have Y := Y'
  have b0 := b0'
  have hD0 := hD0'
  have hD1 := hD1'
  have hD2 := hD2'
  have hD3 := hD3'
  clear X' K' Y' b0' hD0' hD1' hD2' hD3'
  have y0 := Y.c 0 (.slice (some ⟨b1, 0, none⟩) nl nl) rfl
  have r0 := K.c 0 (.slice none 0 0) rfl
  have z0 := K.z 0
  have y1 := Y.c 1 (.slice (some ⟨b2, 0, none⟩) rl rl) rfl
  have r1 := K.c 1 (.slice none 0 0) rfl
  have z1 := K.z 1
  have y2 := Y.c 2 (.slice (some ⟨b3, 0, none⟩) sl sl) rfl
  have r2 := K.c 2 (.slice none 0 0) rfl
  have z2 := K.z 2
  have y3 := Y.c 3 (.slice (some ⟨b4, 0, none⟩) bl bl) rfl
  have r3 := K.c 3 (.slice none 0 0) rfl
  have z3 := K.z 3
  go_wp2
  have R2 : Ws _ KR [.slice (some ⟨b1, 0, none⟩) nl nl, .slice (some ⟨b2, 0, none⟩) rl rl, .slice (some ⟨b3, 0, none⟩) sl sl, .slice (some ⟨b4, 0, none⟩) bl bl] := ((((K.set 0 (by simp) (.slice (some ⟨b1, 0, none⟩) nl nl)).set 1 (by simp) (.slice (some ⟨b2, 0, none⟩) rl rl)).set 2 (by simp) (.slice (some ⟨b3, 0, none⟩) sl sl)).set 3 (by simp) (.slice (some ⟨b4, 0, none⟩) bl bl))
  refine bodyPost_ret (v := .agg #[.slice (some ⟨b1, 0, none⟩) nl nl, .slice (some ⟨b2, 0, none⟩) rl rl, .slice (some ⟨b3, 0, none⟩) sl sl, .slice (some ⟨b4, 0, none⟩) bl bl]) (by simp [results, Tryz.results7, go_sem, R2.c 0 (.slice (some ⟨b1, 0, none⟩) nl nl) rfl, R2.c 1 (.slice (some ⟨b2, 0, none⟩) rl rl) rfl, R2.c 2 (.slice (some ⟨b3, 0, none⟩) sl sl) rfl, R2.c 3 (.slice (some ⟨b4, 0, none⟩) bl bl) rfl]) rfl ⟨b1, b2, b3, b4, rfl, ⟨((((hD0.but (But2.set (c := KR) (d := KR) (k := 0) (.slice (some ⟨b1, 0, none⟩) nl nl)) lt0KR).but (But2.set (c := KR) (d := KR) (k := 1) (.slice (some ⟨b2, 0, none⟩) rl rl)) lt0KR).but (But2.set (c := KR) (d := KR) (k := 2) (.slice (some ⟨b3, 0, none⟩) sl sl)) lt0KR).but (But2.set (c := KR) (d := KR) (k := 3) (.slice (some ⟨b4, 0, none⟩) bl bl)) lt0KR).toL m.nm, ftrow_sl (row_but (row_but (row_but (row_but hD1 (But2.set (c := KR) (d := KR) (k := 0) (.slice (some ⟨b1, 0, none⟩) nl nl)) q1KR q1KR) (But2.set (c := KR) (d := KR) (k := 1) (.slice (some ⟨b2, 0, none⟩) rl rl)) q1KR q1KR) (But2.set (c := KR) (d := KR) (k := 2) (.slice (some ⟨b3, 0, none⟩) sl sl)) q1KR q1KR) (But2.set (c := KR) (d := KR) (k := 3) (.slice (some ⟨b4, 0, none⟩) bl bl)) q1KR q1KR), ((((hD2.far (b' := KR) (k := 0) (v := (.slice (some ⟨b1, 0, none⟩) nl nl)) q2KR).far (b' := KR) (k := 1) (v := (.slice (some ⟨b2, 0, none⟩) rl rl)) q2KR).far (b' := KR) (k := 2) (v := (.slice (some ⟨b3, 0, none⟩) sl sl)) q2KR).far (b' := KR) (k := 3) (v := (.slice (some ⟨b4, 0, none⟩) bl bl)) q2KR).sl, ((((hD3.far (b' := KR) (k := 0) (v := (.slice (some ⟨b1, 0, none⟩) nl nl)) q3KR).far (b' := KR) (k := 1) (v := (.slice (some ⟨b2, 0, none⟩) rl rl)) q3KR).far (b' := KR) (k := 2) (v := (.slice (some ⟨b3, 0, none⟩) sl sl)) q3KR).far (b' := KR) (k := 3) (v := (.slice (some ⟨b4, 0, none⟩) bl bl)) q3KR).sl, m.n, m.r, m.s, m.b⟩, ((((b0.setCell (p := ⟨KR, 0, none⟩) g1 (.slice (some ⟨b1, 0, none⟩) nl nl)).setCell (p := ⟨KR, 1, none⟩) g1 (.slice (some ⟨b2, 0, none⟩) rl rl)).setCell (p := ⟨KR, 2, none⟩) g1 (.slice (some ⟨b3, 0, none⟩) sl sl)).setCell (p := ⟨KR, 3, none⟩) g1 (.slice (some ⟨b4, 0, none⟩) bl bl))⟩
end Go.Proofs.YthekjfdggfbelaaGreat
/- A list of facts that came in, opened. -/
namespace Go.Proofs.YthekjfdggfbelaaGreat
open Go.ChangeShapes Go.WideShapes Go.ChangeAt Go.RowKit Go.Joins Go.Deep
theorem plain_of_cell {w : World} {a : Addr} {v : Value} (h : w.cell? a = some v) : a = ⟨a.block, a.off, none⟩ := by
  unfold World.cell? at h
  obtain ⟨b, o, s⟩ := a
  cases s with
  | none => rfl
  | some s => split at h <;> simp at h
section
variable {H : Type} {enc : TypeId × Value → H} {W : World} {base : Nat} {spare : Nat → Bool} {held : Bool}
set_option maxRecDepth 20000 in
theorem open_facts {fuel : Nat} {a : Option Addr} {len cap : Nat} {x : DataW H × List MemPlace} (t e : TypeId) (ht : Tryz.prog.underlying t = some (.slice e)) {f0 f1 f2 f3 : Field} (he : Tryz.prog.underlying e = some (.struct #[f0, f1, f2, f3])) (hone : oneCellFields Tryz.prog #[f0, f1, f2, f3] = true) (ce : Tryz.prog.cellsOf e = 4)
    (t0 : Tryz.prog.underlying f0.type = some (.int .i64)) (t1 : Tryz.prog.underlying f1.type = some (.int .i64)) (t2 : Tryz.prog.underlying f2.type = some (.int .i64)) (t3 : Tryz.prog.underlying f3.type = some .bool)
    (h : DataW.trod enc Tryz.prog W base spare held fuel t [.slice a len cap] = some x) :
    ∃ F : Nat → Fc, len ≤ cap ∧ len ≤ maxLen ∧ FSl W a len F := by
  rcases open_slice ht h with ⟨hcs, _⟩ | ⟨a', len', cap', m, n, D, Pl, hcs, hb, hl, hm, hmm, rfl, hx⟩
  · simp at hcs
    obtain ⟨rfl, rfl, rfl⟩ := hcs
    exact ⟨fun _ => Fc.zero, by omega, by omega, fun h => by omega⟩
  · simp at hcs
    obtain ⟨rfl, rfl, rfl⟩ := hcs
    have hlm : len ≤ m := by rw [hmm]; split <;> omega
    have each : ∀ i, i < m → ∃ q : Fc, W.cell? (a'.add (i * 4)) = some (.int .i64 q.n) ∧ W.cell? (a'.add (i * 4 + 1)) = some (.int .i64 q.i) ∧ W.cell? (a'.add (i * 4 + 2)) = some (.int .i64 q.s) ∧ W.cell? (a'.add (i * 4 + 3)) = some (.bool q.g) := by
      intro i hi
      obtain ⟨cs', h1, h2⟩ := hx i hi
      rw [ce] at h1
      obtain ⟨_, hlen, hcell⟩ := World.cells?_some h1
      obtain ⟨y0, y1, y2, y3, k, _, _, g0, g1, g2, g3⟩ := trod_struct4 he h2
      obtain ⟨o0, k0⟩ := hone_of hone 0 f0 rfl
      obtain ⟨o1, k1⟩ := hone_of hone 1 f1 rfl
      obtain ⟨o2, k2⟩ := hone_of hone 2 f2 rfl
      obtain ⟨o3, k3⟩ := hone_of hone 3 f3 rfl
      match cs', hlen with
      | [v0, v1, v2, v3], _ =>
        simp [o0, k0] at g0
        simp [o1, k1] at g1
        simp [o2, k2] at g2
        simp [o3, k3] at g3
        obtain ⟨x0, ea, _, _⟩ := DataW.trod_int t0 g0
        obtain ⟨x1, eb, _, _⟩ := DataW.trod_int t1 g1
        obtain ⟨x2, ec, _, _⟩ := DataW.trod_int t2 g2
        obtain ⟨x3, ed, _, _⟩ := DataW.trod_bool t3 g3
        simp at ea eb ec ed
        subst ea eb ec ed
        have e0 := hcell 0 (by omega)
        have e1 := hcell 1 (by omega)
        have e2 := hcell 2 (by omega)
        have e3 := hcell 3 (by omega)
        rw [add_add] at e0 e1 e2 e3
        exact ⟨⟨x0, x1, x2, x3⟩, by simpa using e0, by simpa using e1, by simpa using e2, by simpa using e3⟩
    have inh : Inhabited Fc := ⟨Fc.zero⟩
    obtain ⟨F, hF⟩ := choose_lt each
    refine ⟨F, hl, by omega, fun h0 => ?_⟩
    have hp := plain_of_cell (hF 0 (by omega)).1
    simp [Addr.add] at hp
    obtain ⟨b, off, sp⟩ := a'
    obtain rfl : sp = none := by simpa using hp
    refine ⟨b, off, rfl, ?_, fun k hk => ?_⟩
    · have := World.block_lt_of_cell? W _ (hF 0 (by omega)).1
      simpa [Addr.add] using this
    · have := hF k (by omega)
      rw [add_plain, add_plain, add_plain, add_plain] at this
      simpa [Nat.add_assoc] using this
end
end Go.Proofs.YthekjfdggfbelaaGreat
/- A list of items that came in, opened. -/
namespace Go.Proofs.YthekjfdggfbelaaGreat
open Go.ChangeShapes Go.WideShapes Go.ChangeAt Go.RowKit Go.Joins Go.Deep
section
variable {H : Type} {enc : TypeId × Value → H} {W : World} {base : Nat} {spare : Nat → Bool} {held : Bool}
set_option maxRecDepth 20000 in
theorem open_items {fuel : Nat} {a : Option Addr} {len cap : Nat} {x : DataW H × List MemPlace} (t e : TypeId) (ht : Tryz.prog.underlying t = some (.slice e)) {g0 g1 : Field} (he : Tryz.prog.underlying e = some (.struct #[g0, g1])) (ce : Tryz.prog.cellsOf e = 5)
    (o0 : g0.offset = 0) (k0 : Tryz.prog.cellsOf g0.type = 4) (o1 : g1.offset = 4) (k1 : Tryz.prog.cellsOf g1.type = 1) (tl : Tryz.prog.underlying g1.type = some (.int .i64))
    {f0 f1 f2 f3 : Field} (he2 : Tryz.prog.underlying g0.type = some (.struct #[f0, f1, f2, f3])) (hone : oneCellFields Tryz.prog #[f0, f1, f2, f3] = true)
    (t0 : Tryz.prog.underlying f0.type = some (.int .i64)) (t1 : Tryz.prog.underlying f1.type = some (.int .i64)) (t2 : Tryz.prog.underlying f2.type = some (.int .i64)) (t3 : Tryz.prog.underlying f3.type = some .bool)
    (h : DataW.trod enc Tryz.prog W base spare held fuel t [.slice a len cap] = some x) :
    ∃ F : Nat → It, len ≤ cap ∧ len ≤ maxLen ∧ TSl W a len F := by
  rcases open_slice ht h with ⟨hcs, _⟩ | ⟨a', len', cap', m, n, D, Pl, hcs, hb, hl, hm, hmm, rfl, hx⟩
  · simp at hcs
    obtain ⟨rfl, rfl, rfl⟩ := hcs
    exact ⟨fun _ => It.zero, by omega, by omega, fun h => by omega⟩
  · simp at hcs
    obtain ⟨rfl, rfl, rfl⟩ := hcs
    have hlm : len ≤ m := by rw [hmm]; split <;> omega
    have each : ∀ i, i < m → ∃ q : It, W.cell? (a'.add (i * 5)) = some (.int .i64 q.n) ∧ W.cell? (a'.add (i * 5 + 1)) = some (.int .i64 q.i) ∧ W.cell? (a'.add (i * 5 + 2)) = some (.int .i64 q.s) ∧ W.cell? (a'.add (i * 5 + 3)) = some (.bool q.g) ∧ W.cell? (a'.add (i * 5 + 4)) = some (.int .i64 q.l) := by
      intro i hi
      obtain ⟨cs', h1, h2⟩ := hx i hi
      rw [ce] at h1
      obtain ⟨_, hlen, hcell⟩ := World.cells?_some h1
      obtain ⟨z0, z1, kk, _, _, q0, q1⟩ := trod_struct2 he h2
      match cs', hlen with
      | [v0, v1, v2, v3, v4], _ =>
        simp [o0, k0] at q0
        simp [o1, k1] at q1
        obtain ⟨y0, y1, y2, y3, k, _, _, g0', g1', g2', g3'⟩ := trod_struct4 he2 q0
        obtain ⟨o0', k0'⟩ := hone_of hone 0 f0 rfl
        obtain ⟨o1', k1'⟩ := hone_of hone 1 f1 rfl
        obtain ⟨o2', k2'⟩ := hone_of hone 2 f2 rfl
        obtain ⟨o3', k3'⟩ := hone_of hone 3 f3 rfl
        simp [o0', k0'] at g0'
        simp [o1', k1'] at g1'
        simp [o2', k2'] at g2'
        simp [o3', k3'] at g3'
        obtain ⟨x0, ea, _, _⟩ := DataW.trod_int t0 g0'
        obtain ⟨x1, eb, _, _⟩ := DataW.trod_int t1 g1'
        obtain ⟨x2, ec, _, _⟩ := DataW.trod_int t2 g2'
        obtain ⟨x3, ed, _, _⟩ := DataW.trod_bool t3 g3'
        obtain ⟨x4, ee, _, _⟩ := DataW.trod_int tl q1
        simp at ea eb ec ed ee
        subst ea eb ec ed ee
        have e0 := hcell 0 (by omega)
        have e1 := hcell 1 (by omega)
        have e2 := hcell 2 (by omega)
        have e3 := hcell 3 (by omega)
        have e4 := hcell 4 (by omega)
        rw [add_add] at e0 e1 e2 e3 e4
        exact ⟨⟨x0, x1, x2, x3, x4⟩, by simpa using e0, by simpa using e1, by simpa using e2, by simpa using e3, by simpa using e4⟩
    have inh : Inhabited It := ⟨It.zero⟩
    obtain ⟨F, hF⟩ := choose_lt each
    refine ⟨F, hl, by omega, fun h0 => ?_⟩
    have hp := plain_of_cell (hF 0 (by omega)).1
    simp [Addr.add] at hp
    obtain ⟨b, off, sp⟩ := a'
    obtain rfl : sp = none := by simpa using hp
    refine ⟨b, off, rfl, ?_, fun k hk => ?_⟩
    · have := World.block_lt_of_cell? W _ (hF 0 (by omega)).1
      simpa [Addr.add] using this
    · have := hF k (by omega)
      rw [add_plain, add_plain, add_plain, add_plain, add_plain] at this
      simpa [Nat.add_assoc] using this
end
end Go.Proofs.YthekjfdggfbelaaGreat
/- A word that came in, opened. -/
namespace Go.Proofs.YthekjfdggfbelaaGreat
open Go.ChangeShapes Go.WideShapes Go.ChangeAt Go.RowKit Go.Joins Go.Deep
theorem array11 {α : Type} {cs : Array α} (h : cs.size = 11) : ∃ c0 c1 c2 c3 c4 c5 c6 c7 c8 c9 c10, cs = #[c0, c1, c2, c3, c4, c5, c6, c7, c8, c9, c10] := by
  obtain ⟨l⟩ := cs
  match l, h with
  | [c0, c1, c2, c3, c4, c5, c6, c7, c8, c9, c10], _ => exact ⟨c0, c1, c2, c3, c4, c5, c6, c7, c8, c9, c10, rfl⟩
theorem cellsOf3 : Tryz.prog.cellsOf 3 = 1 := by kernel_rfl
theorem cellsOf48 : Tryz.prog.cellsOf 82 = 4 := by kernel_rfl
theorem cellsOf30 : Tryz.prog.cellsOf 25 = 1 := by kernel_rfl
section
variable {H : Type} {enc : TypeId × Value → H} {W : World} {base : Nat} {spare : Nat → Bool} {held : Bool}
theorem int_of {n : Nat} {v : Value} {x : Option (DataW H × List MemPlace)} (h : DataW.trod enc Tryz.prog W base spare held n 3 [v] = x) (hx : x.isSome = true) : ∃ z : Int, v = .int .i64 z := by
  obtain ⟨y, rfl⟩ := Option.isSome_iff_exists.1 hx
  obtain ⟨z, e, _, _⟩ := DataW.trod_int Tryz.underlying3 h
  simp at e
  exact ⟨z, e⟩
end
end Go.Proofs.YthekjfdggfbelaaGreat
/- A node that came in, opened. -/
namespace Go.Proofs.YthekjfdggfbelaaGreat
open Go.ChangeShapes Go.WideShapes Go.ChangeAt Go.RowKit Go.Joins Go.Deep
theorem cellsOf4 : Tryz.prog.cellsOf 4 = 1 := by kernel_rfl
theorem cellsOf59 : Tryz.prog.cellsOf 24 = 1 := by kernel_rfl
section
variable {H : Type} {enc : TypeId × Value → H} {W : World} {base : Nat} {spare : Nat → Bool} {held : Bool}
theorem bool_of {n : Nat} {v : Value} {x : Option (DataW H × List MemPlace)} (h : DataW.trod enc Tryz.prog W base spare held n 4 [v] = x) (hx : x.isSome = true) : ∃ z : Bool, v = .bool z := by
  obtain ⟨y, rfl⟩ := Option.isSome_iff_exists.1 hx
  obtain ⟨z, e, _, _⟩ := DataW.trod_bool Tryz.underlying4 h
  simp at e
  exact ⟨z, e⟩
theorem slice_of {n : Nat} {t e : TypeId} (ht : Tryz.prog.underlying t = some (.slice e)) {v : Value} {x : DataW H × List MemPlace} (h : DataW.trod enc Tryz.prog W base spare held n t [v] = some x) : ∃ a len cap, v = .slice a len cap := by
  rcases open_slice ht h with ⟨hcs, _⟩ | ⟨a', len', cap', _, _, _, _, hcs, _⟩
  · simp at hcs; exact ⟨_, _, _, hcs⟩
  · simp at hcs; exact ⟨_, _, _, hcs⟩
set_option maxRecDepth 20000 in
theorem open_ints {fuel : Nat} {a : Option Addr} {len cap : Nat} {x : DataW H × List MemPlace} (h : DataW.trod enc Tryz.prog W base spare held fuel 24 [.slice a len cap] = some x) :
    ∃ f : Nat → Int, len ≤ cap ∧ len ≤ maxLen ∧ ISl W a len f := by
  rcases open_slice Tryz.underlying24 h with ⟨hcs, _⟩ | ⟨a', len', cap', m, n, D, PLc, hcs, hb, hl, hm, hmm, rfl, hx⟩
  · simp at hcs
    obtain ⟨rfl, rfl, rfl⟩ := hcs
    exact ⟨fun _ => 0, by omega, by omega, fun h => by omega⟩
  · simp at hcs
    obtain ⟨rfl, rfl, rfl⟩ := hcs
    have hlm : len ≤ m := by rw [hmm]; split <;> omega
    have each : ∀ i, i < m → ∃ q : Int, W.cell? (a'.add (i * 1)) = some (.int .i64 q) := by
      intro i hi
      obtain ⟨cs', h1, h2⟩ := hx i hi
      rw [cellsOf3] at h1
      obtain ⟨_, hlen, hcell⟩ := World.cells?_some h1
      match cs', hlen with
      | [v0], _ =>
        obtain ⟨z, rfl⟩ := int_of h2 rfl
        have e0 := hcell 0 (by omega)
        rw [add_add] at e0
        exact ⟨z, by simpa using e0⟩
    obtain ⟨F, hF⟩ := choose_lt each
    refine ⟨F, hl, by omega, fun h0 => ?_⟩
    have hp := plain_of_cell (hF 0 (by omega))
    simp [Addr.add] at hp
    obtain ⟨b, off, sp⟩ := a'
    obtain rfl : sp = none := by simpa using hp
    refine ⟨b, off, rfl, ?_, fun k hk => ?_⟩
    · have := World.block_lt_of_cell? W _ (hF 0 (by omega))
      simpa [Addr.add] using this
    · have := hF k (by omega)
      rw [add_plain] at this
      simpa [Nat.add_assoc] using this
theorem cellsOf22 : Tryz.prog.cellsOf 25 = 1 := by kernel_rfl
theorem open_facts22 {fuel : Nat} {a : Option Addr} {len cap : Nat} {x : DataW H × List MemPlace} (h : DataW.trod enc Tryz.prog W base spare held fuel 25 [.slice a len cap] = some x) : ∃ F : Nat → Fc, len ≤ cap ∧ len ≤ maxLen ∧ FSl W a len F :=
  open_facts 25 95 Tryz.underlying25 Tryz.underlying95 (by kernel_rfl) (by kernel_rfl) Tryz.underlying3 Tryz.underlying3 Tryz.underlying3 Tryz.underlying4 h
theorem coord_of {n : Nat} {c0 c1 c2 c3 : Value} {x : DataW H × List MemPlace} (h : DataW.trod enc Tryz.prog W base spare held n 82 [c0, c1, c2, c3] = some x) : ∃ x y z e : Int, c0 = .int .i64 x ∧ c1 = .int .i64 y ∧ c2 = .int .i64 z ∧ c3 = .int .i64 e := by
  obtain ⟨u0, u1, u2, u3, m, _, _, k0, k1, k2, k3⟩ := trod_struct4 Tryz.underlying82 h
  dsimp only at k0 k1 k2 k3
  rw [cellsOf3] at k0 k1 k2 k3
  simp only [List.drop, List.take] at k0 k1 k2 k3
  obtain ⟨z6, rfl⟩ := int_of k0 rfl
  obtain ⟨z7, rfl⟩ := int_of k1 rfl
  obtain ⟨z8, rfl⟩ := int_of k2 rfl
  obtain ⟨z9, rfl⟩ := int_of k3 rfl
  exact ⟨z6, z7, z8, z9, rfl, rfl, rfl, rfl⟩
set_option maxRecDepth 20000 in
theorem open_doubts {fuel : Nat} {a : Option Addr} {len cap : Nat} {x : DataW H × List MemPlace} (h : DataW.trod enc Tryz.prog W base spare held fuel 81 [.slice a len cap] = some x) :
    ∃ F : Nat → Dt, len ≤ cap ∧ len ≤ maxLen ∧ DtSl W a len F ∧ ∀ j, j < len → ISl W (F j).ba (F j).bl (F j).bf ∧ (F j).bl ≤ maxLen ∧ (F j).bl ≤ (F j).bc := by
  rcases open_slice Tryz.underlying81 h with ⟨hcs, _⟩ | ⟨a', len', cap', m, n, D, PLc, hcs, hb, hl, hm, hmm, rfl, hx⟩
  · simp at hcs
    obtain ⟨rfl, rfl, rfl⟩ := hcs
    exact ⟨fun _ => Dt.zero, by omega, by omega, fun h => by omega, fun j hj => by omega⟩
  · simp at hcs
    obtain ⟨rfl, rfl, rfl⟩ := hcs
    have hlm : len ≤ m := by rw [hmm]; split <;> omega
    have ce : Tryz.prog.cellsOf 135 = 4 := by kernel_rfl
    have each : ∀ i, i < m → ∃ q : Dt, (W.cell? (a'.add (i * 4)) = some (.int .i64 q.n) ∧ W.cell? (a'.add (i * 4 + 1)) = some (.int .i64 q.i) ∧ W.cell? (a'.add (i * 4 + 2)) = some (.int .i64 q.s) ∧ W.cell? (a'.add (i * 4 + 3)) = some (.slice q.ba q.bl q.bc)) ∧ ISl W q.ba q.bl q.bf ∧ q.bl ≤ maxLen ∧ q.bl ≤ q.bc := by
      intro i hi
      obtain ⟨cs', h1, h2⟩ := hx i hi
      rw [ce] at h1
      obtain ⟨_, hlen, hcell⟩ := World.cells?_some h1
      match cs', hlen with
      | [v0, v1, v2, v3], _ =>
        obtain ⟨u0, u1, u2, u3, m', _, _, k0, k1, k2, k3⟩ := trod_struct4 Tryz.underlying135 h2
        dsimp only at k0 k1 k2 k3
        rw [cellsOf3] at k0 k1 k2
        rw [cellsOf59] at k3
        simp only [List.drop, List.take] at k0 k1 k2 k3
        obtain ⟨z0, rfl⟩ := int_of k0 rfl
        obtain ⟨z1, rfl⟩ := int_of k1 rfl
        obtain ⟨z2, rfl⟩ := int_of k2 rfl
        obtain ⟨ba, bl, bc, rfl⟩ := slice_of Tryz.underlying24 k3
        obtain ⟨bf, hC, hM, hI⟩ := open_ints k3
        have e0 := hcell 0 (by omega)
        have e1 := hcell 1 (by omega)
        have e2 := hcell 2 (by omega)
        have e3 := hcell 3 (by omega)
        rw [add_add] at e0 e1 e2 e3
        exact ⟨⟨z0, z1, z2, ba, bl, bc, bf⟩, ⟨by simpa using e0, by simpa using e1, by simpa using e2, by simpa using e3⟩, hI, hM, hC⟩
    have inh : Inhabited Dt := ⟨Dt.zero⟩
    obtain ⟨F, hF⟩ := choose_lt each
    refine ⟨F, hl, by omega, fun h0 => ?_, fun j hj => (hF j (by omega)).2⟩
    have hp := plain_of_cell (hF 0 (by omega)).1.1
    simp [Addr.add] at hp
    obtain ⟨b, off, sp⟩ := a'
    obtain rfl : sp = none := by simpa using hp
    refine ⟨b, off, rfl, ?_, fun k hk => ?_⟩
    · have := World.block_lt_of_cell? W _ (hF 0 (by omega)).1.1
      simpa [Addr.add] using this
    · have := (hF k (by omega)).1
      rw [add_plain, add_plain, add_plain, add_plain] at this
      simpa [Nat.add_assoc] using this
set_option maxRecDepth 20000 in
theorem open_places {fuel : Nat} {a : Option Addr} {len cap : Nat} {x : DataW H × List MemPlace} (h : DataW.trod enc Tryz.prog W base spare held fuel 83 [.slice a len cap] = some x) :
    ∃ F : Nat → Pl, len ≤ cap ∧ len ≤ maxLen ∧ PlSl W a len F ∧ ∀ j, j < len → ISl W (F j).ba (F j).bl (F j).bf ∧ (F j).bl ≤ maxLen ∧ (F j).bl ≤ (F j).bc := by
  rcases open_slice Tryz.underlying83 h with ⟨hcs, _⟩ | ⟨a', len', cap', m, n, D, PLc, hcs, hb, hl, hm, hmm, rfl, hx⟩
  · simp at hcs
    obtain ⟨rfl, rfl, rfl⟩ := hcs
    exact ⟨fun _ => Pl.zero, by omega, by omega, fun h => by omega, fun j hj => by omega⟩
  · simp at hcs
    obtain ⟨rfl, rfl, rfl⟩ := hcs
    have hlm : len ≤ m := by rw [hmm]; split <;> omega
    have ce : Tryz.prog.cellsOf 138 = 6 := by kernel_rfl
    have each : ∀ i, i < m → ∃ q : Pl, (W.cell? (a'.add (i * 6)) = some (.int .i64 q.n) ∧ W.cell? (a'.add (i * 6 + 1)) = some (.int .i64 q.x) ∧ W.cell? (a'.add (i * 6 + 2)) = some (.int .i64 q.y) ∧ W.cell? (a'.add (i * 6 + 3)) = some (.int .i64 q.h) ∧ W.cell? (a'.add (i * 6 + 4)) = some (.int .i64 q.e) ∧ W.cell? (a'.add (i * 6 + 5)) = some (.slice q.ba q.bl q.bc)) ∧ ISl W q.ba q.bl q.bf ∧ q.bl ≤ maxLen ∧ q.bl ≤ q.bc := by
      intro i hi
      obtain ⟨cs', h1, h2⟩ := hx i hi
      rw [ce] at h1
      obtain ⟨_, hlen, hcell⟩ := World.cells?_some h1
      match cs', hlen with
      | [v0, v1, v2, v3, v4, v5], _ =>
        obtain ⟨u0, u1, u2, m', _, _, k0, k1, k2⟩ := trod_struct3 Tryz.underlying138 h2
        dsimp only at k0 k1 k2
        rw [cellsOf3] at k0
        rw [cellsOf48] at k1
        rw [cellsOf59] at k2
        simp only [List.drop, List.take] at k0 k1 k2
        obtain ⟨z0, rfl⟩ := int_of k0 rfl
        obtain ⟨z1, z2, z3, z4, rfl, rfl, rfl, rfl⟩ := coord_of k1
        obtain ⟨ba, bl, bc, rfl⟩ := slice_of Tryz.underlying24 k2
        obtain ⟨bf, hC, hM, hI⟩ := open_ints k2
        have e0 := hcell 0 (by omega)
        have e1 := hcell 1 (by omega)
        have e2 := hcell 2 (by omega)
        have e3 := hcell 3 (by omega)
        have e4 := hcell 4 (by omega)
        have e5 := hcell 5 (by omega)
        rw [add_add] at e0 e1 e2 e3 e4 e5
        exact ⟨⟨z0, z1, z2, z3, z4, ba, bl, bc, bf⟩, ⟨by simpa using e0, by simpa using e1, by simpa using e2, by simpa using e3, by simpa using e4, by simpa using e5⟩, hI, hM, hC⟩
    have inh : Inhabited Pl := ⟨Pl.zero⟩
    obtain ⟨F, hF⟩ := choose_lt each
    refine ⟨F, hl, by omega, fun h0 => ?_, fun j hj => (hF j (by omega)).2⟩
    have hp := plain_of_cell (hF 0 (by omega)).1.1
    simp [Addr.add] at hp
    obtain ⟨b, off, sp⟩ := a'
    obtain rfl : sp = none := by simpa using hp
    refine ⟨b, off, rfl, ?_, fun k hk => ?_⟩
    · have := World.block_lt_of_cell? W _ (hF 0 (by omega)).1.1
      simpa [Addr.add] using this
    · have := (hF k (by omega)).1
      rw [add_plain, add_plain, add_plain, add_plain, add_plain, add_plain] at this
      simpa [Nat.add_assoc] using this
set_option maxRecDepth 20000 in
theorem open_foreigns {fuel : Nat} {a : Option Addr} {len cap : Nat} {x : DataW H × List MemPlace} (h : DataW.trod enc Tryz.prog W base spare held fuel 84 [.slice a len cap] = some x) :
    ∃ F : Nat → Fg, len ≤ cap ∧ len ≤ maxLen ∧ FgSl W a len F ∧ ∀ j, j < len → FSl W (F j).ba (F j).bl (F j).bf ∧ (F j).bl ≤ maxLen ∧ (F j).bl ≤ (F j).bc := by
  rcases open_slice Tryz.underlying84 h with ⟨hcs, _⟩ | ⟨a', len', cap', m, n, D, PLc, hcs, hb, hl, hm, hmm, rfl, hx⟩
  · simp at hcs
    obtain ⟨rfl, rfl, rfl⟩ := hcs
    exact ⟨fun _ => Fg.zero, by omega, by omega, fun h => by omega, fun j hj => by omega⟩
  · simp at hcs
    obtain ⟨rfl, rfl, rfl⟩ := hcs
    have hlm : len ≤ m := by rw [hmm]; split <;> omega
    have ce : Tryz.prog.cellsOf 141 = 2 := by kernel_rfl
    have each : ∀ i, i < m → ∃ q : Fg, (W.cell? (a'.add (i * 2)) = some (.int .i64 q.n) ∧ W.cell? (a'.add (i * 2 + 1)) = some (.slice q.ba q.bl q.bc)) ∧ FSl W q.ba q.bl q.bf ∧ q.bl ≤ maxLen ∧ q.bl ≤ q.bc := by
      intro i hi
      obtain ⟨cs', h1, h2⟩ := hx i hi
      rw [ce] at h1
      obtain ⟨_, hlen, hcell⟩ := World.cells?_some h1
      match cs', hlen with
      | [v0, v1], _ =>
        obtain ⟨u0, u1, m', _, _, k0, k1⟩ := trod_struct2 Tryz.underlying141 h2
        dsimp only at k0 k1
        rw [cellsOf3] at k0
        rw [cellsOf22] at k1
        simp only [List.drop, List.take] at k0 k1
        obtain ⟨z0, rfl⟩ := int_of k0 rfl
        obtain ⟨ba, bl, bc, rfl⟩ := slice_of Tryz.underlying25 k1
        obtain ⟨bf, hC, hM, hI⟩ := open_facts22 k1
        have e0 := hcell 0 (by omega)
        have e1 := hcell 1 (by omega)
        rw [add_add] at e0 e1
        exact ⟨⟨z0, ba, bl, bc, bf⟩, ⟨by simpa using e0, by simpa using e1⟩, hI, hM, hC⟩
    have inh : Inhabited Fg := ⟨Fg.zero⟩
    obtain ⟨F, hF⟩ := choose_lt each
    refine ⟨F, hl, by omega, fun h0 => ?_, fun j hj => (hF j (by omega)).2⟩
    have hp := plain_of_cell (hF 0 (by omega)).1.1
    simp [Addr.add] at hp
    obtain ⟨b, off, sp⟩ := a'
    obtain rfl : sp = none := by simpa using hp
    refine ⟨b, off, rfl, ?_, fun k hk => ?_⟩
    · have := World.block_lt_of_cell? W _ (hF 0 (by omega)).1.1
      simpa [Addr.add] using this
    · have := (hF k (by omega)).1
      rw [add_plain, add_plain] at this
      simpa [Nat.add_assoc] using this
theorem array21 {α : Type} {cs : Array α} (h : cs.size = 21) : ∃ c0 c1 c2 c3 c4 c5 c6 c7 c8 c9 c10 c11 c12 c13 c14 c15 c16 c17 c18 c19 c20, cs = #[c0, c1, c2, c3, c4, c5, c6, c7, c8, c9, c10, c11, c12, c13, c14, c15, c16, c17, c18, c19, c20] := by
  obtain ⟨l⟩ := cs
  match l, h with
  | [c0, c1, c2, c3, c4, c5, c6, c7, c8, c9, c10, c11, c12, c13, c14, c15, c16, c17, c18, c19, c20], _ => exact ⟨c0, c1, c2, c3, c4, c5, c6, c7, c8, c9, c10, c11, c12, c13, c14, c15, c16, c17, c18, c19, c20, rfl⟩
theorem cellsOf23 : Tryz.prog.cellsOf 79 = 1 := by kernel_rfl
theorem cellsOf25 : Tryz.prog.cellsOf 80 = 4 := by kernel_rfl
theorem cellsOf26 : Tryz.prog.cellsOf 81 = 1 := by kernel_rfl
theorem cellsOf29 : Tryz.prog.cellsOf 83 = 1 := by kernel_rfl
theorem cellsOf30' : Tryz.prog.cellsOf 84 = 1 := by kernel_rfl
theorem probe_of {n : Nat} {c0 c1 c2 c3 : Value} {x : DataW H × List MemPlace} (h : DataW.trod enc Tryz.prog W base spare held n 80 [c0, c1, c2, c3] = some x) : ∃ (x y z : Int) (e : Bool), c0 = .int .i64 x ∧ c1 = .int .i64 y ∧ c2 = .int .i64 z ∧ c3 = .bool e := by
  obtain ⟨u0, u1, u2, u3, m, _, _, k0, k1, k2, k3⟩ := trod_struct4 Tryz.underlying80 h
  dsimp only at k0 k1 k2 k3
  rw [cellsOf3] at k0 k1 k2
  rw [cellsOf4] at k3
  simp only [List.drop, List.take] at k0 k1 k2 k3
  obtain ⟨z6, rfl⟩ := int_of k0 rfl
  obtain ⟨z7, rfl⟩ := int_of k1 rfl
  obtain ⟨z8, rfl⟩ := int_of k2 rfl
  obtain ⟨z9, rfl⟩ := bool_of k3 rfl
  exact ⟨z6, z7, z8, z9, rfl, rfl, rfl, rfl⟩
/-- a node's value that came in -/
def NdVal (W : World) (v : Value) : Prop := ∃ (me : Int) (up gone gate : Bool) (inc now sq turn : Int) (ta : Option Addr) (tl tc : Nat) (ca : Option Addr) (cl cc : Nat) (pn ps pq : Int) (pa : Bool) (da : Option Addr) (dl dc : Nat) (cx cy ch ce : Int) (pla : Option Addr) (pll plc : Nat) (oa : Option Addr) (ol oc : Nat) (F : Nat → Fc) (GI : Nat → It) (GD : Nat → Dt) (GP : Nat → Pl) (GO : Nat → Fg), v = .agg #[.int .i64 me, .bool up, .bool gone, .bool gate, .int .i64 inc, .int .i64 now, .int .i64 sq, .int .i64 turn, .slice ta tl tc, .slice ca cl cc, .int .i64 pn, .int .i64 ps, .int .i64 pq, .bool pa, .slice da dl dc, .int .i64 cx, .int .i64 cy, .int .i64 ch, .int .i64 ce, .slice pla pll plc, .slice oa ol oc] ∧ NdRaw W ta tl tc F ca cl cc GI da dl GD pla pll GP oa ol GO
set_option maxRecDepth 20000 in
set_option maxHeartbeats 1000000 in
theorem open_nodeC {fuel : Nat} {c0 c1 c2 c3 c4 c5 c6 c7 c8 c9 c10 c11 c12 c13 c14 c15 c16 c17 c18 c19 c20 : Value} {x : DataW H × List MemPlace} (hf : DataW.trod enc Tryz.prog W base spare held fuel 86 [c0, c1, c2, c3, c4, c5, c6, c7, c8, c9, c10, c11, c12, c13, c14, c15, c16, c17, c18, c19, c20] = some x) : NdVal W (.agg #[c0, c1, c2, c3, c4, c5, c6, c7, c8, c9, c10, c11, c12, c13, c14, c15, c16, c17, c18, c19, c20]) := by
  obtain ⟨xs, n, _, _, _, hlen, hfs⟩ := DataW.trod_struct Tryz.underlying86 hf
  have hsome : ∀ i, i < 15 → (xs[i]?).isSome = true := fun i hi => by
    have : i < xs.length := by rw [hlen]; exact hi
    simp [this]
  have g0 := hfs 0 ⟨"Me", 3, 0, false, "", "", 0⟩ rfl
  have g1 := hfs 1 ⟨"Up", 4, 1, false, "", "", 8⟩ rfl
  have g2 := hfs 2 ⟨"Gone", 4, 2, false, "", "", 9⟩ rfl
  have g3 := hfs 3 ⟨"Gate", 4, 3, false, "", "", 10⟩ rfl
  have g4 := hfs 4 ⟨"Inc", 3, 4, false, "", "", 16⟩ rfl
  have g5 := hfs 5 ⟨"Now", 3, 5, false, "", "", 24⟩ rfl
  have g6 := hfs 6 ⟨"Seq", 3, 6, false, "", "", 32⟩ rfl
  have g7 := hfs 7 ⟨"Turn", 3, 7, false, "", "", 40⟩ rfl
  have g8 := hfs 8 ⟨"Table", 25, 8, false, "", "", 48⟩ rfl
  have g9 := hfs 9 ⟨"Cast", 79, 9, false, "", "", 72⟩ rfl
  have g10 := hfs 10 ⟨"Probe", 80, 10, false, "", "", 96⟩ rfl
  have g11 := hfs 11 ⟨"Doubts", 81, 14, false, "", "", 128⟩ rfl
  have g12 := hfs 12 ⟨"Coord", 82, 15, false, "", "", 152⟩ rfl
  have g13 := hfs 13 ⟨"Places", 83, 19, false, "", "", 184⟩ rfl
  have g14 := hfs 14 ⟨"Others", 84, 20, false, "", "", 208⟩ rfl
  dsimp only at g0 g1 g2 g3 g4 g5 g6 g7 g8 g9 g10 g11 g12 g13 g14
  rw [cellsOf3] at g0 g4 g5 g6 g7
  rw [cellsOf4] at g1 g2 g3
  rw [cellsOf22] at g8
  rw [cellsOf23] at g9
  rw [cellsOf25] at g10
  rw [cellsOf26] at g11
  rw [cellsOf48] at g12
  rw [cellsOf29] at g13
  rw [cellsOf30'] at g14
  simp only [List.drop, List.take] at g0 g1 g2 g3 g4 g5 g6 g7 g8 g9 g10 g11 g12 g13 g14
  obtain ⟨z0, rfl⟩ := int_of g0 (hsome 0 (by omega))
  obtain ⟨z1, rfl⟩ := bool_of g1 (hsome 1 (by omega))
  obtain ⟨z2, rfl⟩ := bool_of g2 (hsome 2 (by omega))
  obtain ⟨z3, rfl⟩ := bool_of g3 (hsome 3 (by omega))
  obtain ⟨z4, rfl⟩ := int_of g4 (hsome 4 (by omega))
  obtain ⟨z5, rfl⟩ := int_of g5 (hsome 5 (by omega))
  obtain ⟨z6, rfl⟩ := int_of g6 (hsome 6 (by omega))
  obtain ⟨z7, rfl⟩ := int_of g7 (hsome 7 (by omega))
  obtain ⟨y8, e8⟩ := Option.isSome_iff_exists.1 (hsome 8 (by omega))
  rw [e8] at g8
  obtain ⟨y9, e9⟩ := Option.isSome_iff_exists.1 (hsome 9 (by omega))
  rw [e9] at g9
  obtain ⟨y10, e10⟩ := Option.isSome_iff_exists.1 (hsome 10 (by omega))
  rw [e10] at g10
  obtain ⟨y11, e11⟩ := Option.isSome_iff_exists.1 (hsome 11 (by omega))
  rw [e11] at g11
  obtain ⟨y12, e12⟩ := Option.isSome_iff_exists.1 (hsome 12 (by omega))
  rw [e12] at g12
  obtain ⟨y13, e13⟩ := Option.isSome_iff_exists.1 (hsome 13 (by omega))
  rw [e13] at g13
  obtain ⟨y14, e14⟩ := Option.isSome_iff_exists.1 (hsome 14 (by omega))
  rw [e14] at g14
  obtain ⟨p0, p1, p2, p3, rfl, rfl, rfl, rfl⟩ := probe_of g10
  obtain ⟨q0, q1, q2, q3, rfl, rfl, rfl, rfl⟩ := coord_of g12
  obtain ⟨ta, tl, tc, rfl⟩ := slice_of Tryz.underlying25 g8
  obtain ⟨ca, cl, cc, rfl⟩ := slice_of Tryz.underlying79 g9
  obtain ⟨da, dl, dc, rfl⟩ := slice_of Tryz.underlying81 g11
  obtain ⟨pla, pll, plc, rfl⟩ := slice_of Tryz.underlying83 g13
  obtain ⟨oa, ol, oc, rfl⟩ := slice_of Tryz.underlying84 g14
  obtain ⟨F, f1, f2, f3⟩ := open_facts22 g8
  obtain ⟨GI, i1, i2, i3⟩ := open_items 79 144 Tryz.underlying79 Tryz.underlying144 (by kernel_rfl) rfl (by kernel_rfl) rfl (by kernel_rfl) Tryz.underlying3 Tryz.underlying95 (by kernel_rfl) Tryz.underlying3 Tryz.underlying3 Tryz.underlying3 Tryz.underlying4 g9
  obtain ⟨GD, d1, d2, d3, d4⟩ := open_doubts g11
  obtain ⟨GP, r1, r2, r3, r4⟩ := open_places g13
  obtain ⟨GO, s1, s2, s3, s4⟩ := open_foreigns g14
  exact ⟨z0, z1, z2, z3, z4, z5, z6, z7, ta, tl, tc, ca, cl, cc, p0, p1, p2, p3, da, dl, dc, q0, q1, q2, q3, pla, pll, plc, oa, ol, oc, F, GI, GD, GP, GO, rfl, ⟨f3, i3, d3, r3, s3, d4, r4, s4, f2, i2, d2, r2, s2, f1, i1⟩⟩
end
end Go.Proofs.YthekjfdggfbelaaGreat
/- Exact WorldOk, walked. -/
namespace Go.Proofs.YthekjfdggfbelaaGreat
open Go.ChangeShapes Go.WideShapes Go.ChangeAt Go.RowKit
def s3_10 : List Stp := [⟨some 22, .load 34 (.tmp 5), 34, none, 0⟩, ⟨some 23, .load 27 (.tmp 1), 27, none, 0⟩, ⟨some 24, .call { callee := .value (.func 7), args := #[.tmp 23], argTypes := #[27] }, 34, none, 1⟩, ⟨some 25, .call { callee := .value (.func 9), args := #[.tmp 22, .tmp 24], argTypes := #[34, 34] }, 4, none, 1⟩, ⟨some 26, .unOp .not 4 (.tmp 25), 4, none, 0⟩]
def t3_10 : List (Nat × Nat) := [(0, 0), (1, 0), (2, 1), (3, 1), (4, 0)]
set_option maxRecDepth 20000 in
set_option maxHeartbeats 4000000 in
theorem exWorldOk_walk (na : Option Addr) (nl nc : Nat) (ra : Option Addr) (rl rc : Nat) (sa : Option Addr) (sl sc : Nat) (ba : Option Addr) (bl bc : Nat) (R : Nat → Rn) (FR : Nat → Ft) (SD : Nat → Int) (BF : Nat → Fc) (w : World) (h : WdRaw w na nl ra rl sa sl sc ba bl bc R FR SD BF) :
    Calls Tryz.prog 3 #[.agg #[.slice na nl nc, .slice ra rl rc, .slice sa sl sc, .slice ba bl bc]] w fun e w' => e = .returned (.bool true) ∧ Below w.heap.size w w' := by
  have b0 := balloc (.cells #[.slice na nl nc, .slice ra rl rc, .slice sa sl sc, .slice ba bl bc] 27) (Below.refl w.heap.size w)
  have X := Ws.box (w := w) #[.slice na nl nc, .slice ra rl rc, .slice sa sl sc, .slice ba bl bc] 27
  go_enter Tryz.func3, Tryz.ntmps3
  go_upto_region 2 with fail
  generalize w.alloc (.cells #[.slice na nl nc, .slice ra rl rc, .slice sa sl sc, .slice ba bl bc] 27) = u at *
  have e0 := X.c 0 (.slice na nl nc) rfl
  have e1 := X.c 1 (.slice ra rl rc) rfl
  have e2 := X.c 2 (.slice sa sl sc) rfl
  have e3 := X.c 3 (.slice ba bl bc) rfl
  go_wp2_with fail
  refine (szWld_any na nl nc ra rl rc sa sl sc ba bl bc R FR SD BF _ (h.below b0)).mono ?_
  rintro r u1 ⟨⟨z, rfl, hz⟩, k1⟩
  clear e0 e1 e2 e3
  replace b0 := btrans b0 k1
  replace X := X.below k1
  clear k1
  rcases hz with rfl | ⟨hz, m⟩
  · go_wp2
    go_ret
    exact ⟨rfl, b0⟩
  have n1 : ¬ z < 0 := by omega
  have e0 := X.c 0 (.slice na nl nc) rfl
  have e1 := X.c 1 (.slice ra rl rc) rfl
  have e2 := X.c 2 (.slice sa sl sc) rfl
  have e3 := X.c 3 (.slice ba bl bc) rfl
  go_wp2_with fail
  refine (toWld_any na nl nc ra rl rc sa sl sc ba bl bc R FR SD BF _ (h.below b0) m).mono ?_
  rintro r u2 ⟨b1, b2, b3, b4, rfl, hW, k1⟩
  clear e0 e1 e2 e3
  replace b0 := btrans b0 k1
  replace X := X.below k1
  clear k1
  go_wp2_with fail
  refine (wldS_any (some ⟨b1, 0, none⟩) nl nl (some ⟨b2, 0, none⟩) rl rl (some ⟨b3, 0, none⟩) sl sl (some ⟨b4, 0, none⟩) bl bl (fun k => (R k).nod) FR SD BF _ hW).mono ?_
  rintro r u3 ⟨rfl, k1⟩
  replace b0 := btrans b0 k1
  replace X := X.below k1
  clear k1 hW
  obtain ⟨v, hv⟩ : ∃ v, Hid (wldB nl (fun k => (R k).nod) rl FR sl SD bl BF = v) := ⟨_, rfl⟩
  rw [hv.out]
  have e0 := X.c 0 (.slice na nl nc) rfl
  have e1 := X.c 1 (.slice ra rl rc) rfl
  have e2 := X.c 2 (.slice sa sl sc) rfl
  have e3 := X.c 3 (.slice ba bl bc) rfl
  go_wp2_with fail
  refine (toWld_any na nl nc ra rl rc sa sl sc ba bl bc R FR SD BF _ (h.below b0) m).mono ?_
  rintro r u4 ⟨c1, c2, c3, c4, rfl, hC, k1⟩
  clear e0 e1 e2 e3
  replace b0 := btrans b0 k1
  replace X := X.below k1
  clear k1
  have hB := Ws.box (w := u4) #[.slice none 0 0, .slice none 0 0, .slice none 0 0, .slice none 0 0] 34
  have hth := hB.there (n := 4) rfl
  have k1 : Below u4.heap.size u4 ((u4.alloc (.cells #[.slice none 0 0, .slice none 0 0, .slice none 0 0, .slice none 0 0] 34)).setCells u4.heap.size 0 (#[.slice (some ⟨c1, 0, none⟩) nl nl, .slice (some ⟨c2, 0, none⟩) rl rl, .slice (some ⟨c3, 0, none⟩) sl sl, .slice (some ⟨c4, 0, none⟩) bl bl] : Array Value).toList) := below_cells _ _ _ _ (Nat.le_refl _) (balloc _ (Below.refl _ _))
  have hrg := World.rangeAt_setCells_same (u4.alloc (.cells #[.slice none 0 0, .slice none 0 0, .slice none 0 0, .slice none 0 0] 34)) u4.heap.size 0 (#[.slice (some ⟨c1, 0, none⟩) nl nl, .slice (some ⟨c2, 0, none⟩) rl rl, .slice (some ⟨c3, 0, none⟩) sl sl, .slice (some ⟨c4, 0, none⟩) bl bl] : Array Value).toList hth
  clear hB
  go_upto_region 7 with (refine wpList_store_mid rfl 34 _ _ rfl u4.heap.size 0 #[.slice (some ⟨c1, 0, none⟩) nl nl, .slice (some ⟨c2, 0, none⟩) rl rl, .slice (some ⟨c3, 0, none⟩) sl sl, .slice (some ⟨c4, 0, none⟩) bl bl] rfl rfl hth (by kernel_rfl) (by kernel_rfl) ?_)
  clear hth
  generalize (u4.alloc (.cells #[.slice none 0 0, .slice none 0 0, .slice none 0 0, .slice none 0 0] 34)).setCells u4.heap.size 0 (#[.slice (some ⟨c1, 0, none⟩) nl nl, .slice (some ⟨c2, 0, none⟩) rl rl, .slice (some ⟨c3, 0, none⟩) sl sl, .slice (some ⟨c4, 0, none⟩) bl bl] : Array Value).toList = u5 at *
  replace b0 := btrans b0 k1
  replace X := X.below k1
  replace hC := hC.below k1
  clear k1
  generalize u4.heap.size = KB at *
  have f0 := hrg 0 (.slice (some ⟨c1, 0, none⟩) nl nl) rfl
  have f1 := hrg 1 (.slice (some ⟨c2, 0, none⟩) rl rl) rfl
  have f2 := hrg 2 (.slice (some ⟨c3, 0, none⟩) sl sl) rfl
  have f3 := hrg 3 (.slice (some ⟨c4, 0, none⟩) bl bl) rfl
  simp only [Nat.zero_add] at f0 f1 f2 f3
  go_wp2_with fail
  refine (wldI_any (some ⟨c1, 0, none⟩) nl nl (some ⟨c2, 0, none⟩) rl rl (some ⟨c3, 0, none⟩) sl sl (some ⟨c4, 0, none⟩) bl bl (fun k => (R k).nod) FR SD BF _ hC).mono ?_
  rintro r u6 ⟨rfl, k1⟩
  rw [hv.out]
  clear f0 f1 f2 f3 hv
  replace b0 := btrans b0 k1
  replace X := X.below k1
  replace hC := hC.below k1
  replace hrg := range_below' hrg k1
  clear k1
  have e9 : (v != v) = false := by simp
  go_upto_region 10 with fail
  clear e9
  have hrX := X.range
  clear X
  refine wp_region_q s3_10 t3_10 (fun hbq => ?_)
  iterate 2 refine qR ?_
  refine qC (fun K hK => ?_)
  go_simp
  refine (toWld_any na nl nc ra rl rc sa sl sc ba bl bc R FR SD BF _ (h.below (btrans b0 hbq)) m).mono ?_; rintro r u7 ⟨d1, d2, d3, d4, rfl, hD, k7⟩
  go_wp2_with fail
  refine hK.out _ _ (btrans hbq k7) (.inl ?_)
  clear hK K
  replace hbq := btrans hbq k7
  clear k7
  try simp only [putQ]
  refine qC (fun K hK => ?_)
  go_simp
  refine (eqWld_same (some ⟨c1, 0, none⟩) nl nl (some ⟨c2, 0, none⟩) rl rl (some ⟨c3, 0, none⟩) sl sl (some ⟨c4, 0, none⟩) bl bl (fun k => (R k).nod) FR SD BF (some ⟨d1, 0, none⟩) nl (some ⟨d2, 0, none⟩) rl (some ⟨d3, 0, none⟩) sl (some ⟨d4, 0, none⟩) bl _ (hC.below hbq) hD).mono ?_; rintro r u8 ⟨rfl, k8⟩
  go_wp2_with fail
  refine hK.out _ _ (btrans hbq k8) (.inl ?_)
  clear hK K
  replace hbq := btrans hbq k8
  clear k8
  try simp only [putQ]
  refine qY ?_
  refine qE ?_
  replace b0 := btrans b0 hbq
  go_wp2
  go_ret
  exact ⟨rfl, b0⟩
end Go.Proofs.YthekjfdggfbelaaGreat
/- A world that came in, opened. -/
namespace Go.Proofs.YthekjfdggfbelaaGreat
open Go.ChangeShapes Go.WideShapes Go.ChangeAt Go.RowKit Go.Joins Go.Deep
def Rn.zero : Rn := ⟨0, false, false, false, 0, 0, 0, 0, none, 0, 0, none, 0, 0, 0, 0, 0, false, none, 0, 0, 0, 0, 0, 0, none, 0, 0, none, 0, 0, fun _ => Fc.zero, fun _ => It.zero, fun _ => Dt.zero, fun _ => Pl.zero, fun _ => Fg.zero⟩
theorem cells86 : Tryz.prog.cellsOf 86 = 21 := by kernel_rfl
theorem cells88 : Tryz.prog.cellsOf 88 = 3 := by kernel_rfl
theorem cells9 : Tryz.prog.cellsOf 9 = 1 := by kernel_rfl
theorem cells22 : Tryz.prog.cellsOf 22 = 1 := by kernel_rfl
theorem cells23 : Tryz.prog.cellsOf 23 = 1 := by kernel_rfl
section
variable {H : Type} {enc : TypeId × Value → H} {W : World} {base : Nat} {spare : Nat → Bool} {held : Bool}
theorem list21 {l : List Value} (h : l.length = 21) : ∃ v0 v1 v2 v3 v4 v5 v6 v7 v8 v9 v10 v11 v12 v13 v14 v15 v16 v17 v18 v19 v20, l = [v0, v1, v2, v3, v4, v5, v6, v7, v8, v9, v10, v11, v12, v13, v14, v15, v16, v17, v18, v19, v20] := by
  match l, h with
  | [v0, v1, v2, v3, v4, v5, v6, v7, v8, v9, v10, v11, v12, v13, v14, v15, v16, v17, v18, v19, v20], _ => exact ⟨v0, v1, v2, v3, v4, v5, v6, v7, v8, v9, v10, v11, v12, v13, v14, v15, v16, v17, v18, v19, v20, rfl⟩
set_option maxRecDepth 20000 in
theorem open_nodes {fuel : Nat} {a : Option Addr} {len cap : Nat} {x : DataW H × List MemPlace} (h : DataW.trod enc Tryz.prog W base spare held fuel 22 [.slice a len cap] = some x) :
    ∃ R : Nat → Rn, len ≤ maxLen ∧ NSl W a len R ∧ ∀ j, j < len → (R j).Raw W := by
  rcases open_slice Tryz.underlying22 h with ⟨hcs, _⟩ | ⟨a', len', cap', m, n, D, PLc, hcs, hb, hl, hm, hmm, rfl, hx⟩
  · simp at hcs
    obtain ⟨rfl, rfl, rfl⟩ := hcs
    exact ⟨fun _ => Rn.zero, by omega, fun h => by omega, fun j hj => by omega⟩
  · simp at hcs
    obtain ⟨rfl, rfl, rfl⟩ := hcs
    have hlm : len ≤ m := by rw [hmm]; split <;> omega
    have each : ∀ i, i < m → ∃ q : Rn, (∀ j v, q.cells.toList[j]? = some v → W.cell? (a'.add (i * 21 + j)) = some v) ∧ q.Raw W := by
      intro i hi
      obtain ⟨cs', h1, h2⟩ := hx i hi
      rw [cells86] at h1
      obtain ⟨_, hlen, hcell⟩ := World.cells?_some h1
      obtain ⟨v0, v1, v2, v3, v4, v5, v6, v7, v8, v9, v10, v11, v12, v13, v14, v15, v16, v17, v18, v19, v20, rfl⟩ := list21 hlen
      obtain ⟨me, up, gone, gate, inc, now, sq, turn, ta, tl, tc, ca, cl, cc, pn, ps, pq, pa, da, dl, dc, cx, cy, ch, ce, pla, pll, plc, oa, ol, oc, F, GI, GD, GP, GO, hv, hraw⟩ := open_nodeC h2
      refine ⟨⟨me, up, gone, gate, inc, now, sq, turn, ta, tl, tc, ca, cl, cc, pn, ps, pq, pa, da, dl, dc, cx, cy, ch, ce, pla, pll, plc, oa, ol, oc, F, GI, GD, GP, GO⟩, fun j v hj => ?_, hraw⟩
      have hj' : j < 21 := by
        have := (List.getElem?_eq_some_iff.1 hj).1
        exact this
      have ev : (#[v0, v1, v2, v3, v4, v5, v6, v7, v8, v9, v10, v11, v12, v13, v14, v15, v16, v17, v18, v19, v20] : Array Value) = Rn.cells ⟨me, up, gone, gate, inc, now, sq, turn, ta, tl, tc, ca, cl, cc, pn, ps, pq, pa, da, dl, dc, cx, cy, ch, ce, pla, pll, plc, oa, ol, oc, F, GI, GD, GP, GO⟩ := by
        injection hv
      rw [← ev] at hj
      have := hcell j (by simpa using hj')
      rw [add_add] at this
      rw [this]
      exact hj
    have inh : Inhabited Rn := ⟨Rn.zero⟩
    obtain ⟨F, hF⟩ := choose_lt each
    refine ⟨F, by omega, fun h0 => ?_, fun j hj => (hF j (by omega)).2⟩
    have hp := plain_of_cell ((hF 0 (by omega)).1 0 _ rfl)
    simp [Addr.add] at hp
    obtain ⟨b, off, sp⟩ := a'
    obtain rfl : sp = none := by simpa using hp
    refine ⟨b, off, rfl, ?_, fun k hk j v hj => ?_⟩
    · have := World.block_lt_of_cell? W _ ((hF 0 (by omega)).1 0 _ rfl)
      simpa [Addr.add] using this
    · have := (hF k (by omega)).1 j v hj
      rw [add_plain] at this
      simpa [Nat.add_assoc] using this
set_option maxRecDepth 20000 in
theorem open_flights {fuel : Nat} {a : Option Addr} {len cap : Nat} {x : DataW H × List MemPlace} (h : DataW.trod enc Tryz.prog W base spare held fuel 23 [.slice a len cap] = some x) :
    ∃ F : Nat → Ft, len ≤ maxLen ∧ FtSl W a len F ∧ ∀ j, j < len → (F j).x.size ≤ maxLen := by
  rcases open_slice Tryz.underlying23 h with ⟨hcs, _⟩ | ⟨a', len', cap', m, n, D, PLc, hcs, hb, hl, hm, hmm, rfl, hx⟩
  · simp at hcs
    obtain ⟨rfl, rfl, rfl⟩ := hcs
    exact ⟨fun _ => Ft.zero, by omega, fun h => by omega, fun j hj => by omega⟩
  · simp at hcs
    obtain ⟨rfl, rfl, rfl⟩ := hcs
    have hlm : len ≤ m := by rw [hmm]; split <;> omega
    have each : ∀ i, i < m → ∃ q : Ft, (W.cell? (a'.add (i * 3)) = some (.int .i64 q.t) ∧ W.cell? (a'.add (i * 3 + 1)) = some (.string q.x) ∧ W.cell? (a'.add (i * 3 + 2)) = some (.bool q.s)) ∧ q.x.size ≤ maxLen := by
      intro i hi
      obtain ⟨cs', h1, h2⟩ := hx i hi
      rw [cells88] at h1
      obtain ⟨_, hlen, hcell⟩ := World.cells?_some h1
      match cs', hlen with
      | [v0, v1, v2], _ =>
        obtain ⟨u0, u1, u2, m', _, _, k0, k1, k2⟩ := trod_struct3 Tryz.underlying88 h2
        dsimp only at k0 k1 k2
        rw [cellsOf3] at k0
        rw [cells9] at k1
        rw [cellsOf4] at k2
        simp only [List.drop, List.take] at k0 k1 k2
        obtain ⟨z0, rfl⟩ := int_of k0 rfl
        obtain ⟨s1, e1, _, hs1⟩ := DataW.trod_string Tryz.underlying9 k1
        obtain rfl : v1 = .string s1 := by simpa using e1
        obtain ⟨z2, rfl⟩ := bool_of k2 rfl
        have e0 := hcell 0 (by omega)
        have e1 := hcell 1 (by omega)
        have e2 := hcell 2 (by omega)
        rw [add_add] at e0 e1 e2
        exact ⟨⟨z0, s1, z2⟩, ⟨by simpa using e0, by simpa using e1, by simpa using e2⟩, hs1⟩
    have inh : Inhabited Ft := ⟨Ft.zero⟩
    obtain ⟨F, hF⟩ := choose_lt each
    refine ⟨F, by omega, fun h0 => ?_, fun j hj => (hF j (by omega)).2⟩
    have hp := plain_of_cell (hF 0 (by omega)).1.1
    simp [Addr.add] at hp
    obtain ⟨b, off, sp⟩ := a'
    obtain rfl : sp = none := by simpa using hp
    refine ⟨b, off, rfl, ?_, fun k hk => ?_⟩
    · have := World.block_lt_of_cell? W _ (hF 0 (by omega)).1.1
      simpa [Addr.add] using this
    · have := (hF k (by omega)).1
      rw [add_plain, add_plain, add_plain] at this
      simpa [Nat.add_assoc] using this
/-- a world's value that came in -/
def WdVal (W : World) (v : Value) : Prop := ∃ (na : Option Addr) (nl nc : Nat) (ra : Option Addr) (rl rc : Nat) (sa : Option Addr) (sl sc : Nat) (ba : Option Addr) (bl bc : Nat) (R : Nat → Rn) (FR : Nat → Ft) (SD : Nat → Int) (BF : Nat → Fc), v = .agg #[.slice na nl nc, .slice ra rl rc, .slice sa sl sc, .slice ba bl bc] ∧ WdRaw W na nl ra rl sa sl sc ba bl bc R FR SD BF
set_option maxRecDepth 20000 in
theorem open_world {r : Reach} {b0 : Nat} {v : Value} {d : DataW H} {p : List MemPlace} (hv : Value.okWide Tryz.prog W r b0 27 v) (h : DataW.Trod enc Tryz.prog W base spare held 27 v d p) : WdVal W v := by
  obtain ⟨cs, rfl, hsz⟩ := okWide_struct Tryz.underlying27 hv
  have hs4 : cs.size = 4 := hsz.trans (by kernel_rfl)
  obtain ⟨l⟩ := cs
  match l, hs4 with
  | [c0, c1, c2, c3], _ =>
    obtain ⟨fuel, hf⟩ := h
    obtain ⟨u0, u1, u2, u3, m, _, _, k0, k1, k2, k3⟩ := trod_struct4 Tryz.underlying27 hf
    simp only [Value.cells] at k0 k1 k2 k3
    rw [cells22] at k0
    rw [cells23] at k1
    rw [cellsOf59] at k2
    rw [cellsOf22] at k3
    simp only [List.drop, List.take] at k0 k1 k2 k3
    obtain ⟨na, nl, nc, rfl⟩ := slice_of Tryz.underlying22 k0
    obtain ⟨ra, rl, rc, rfl⟩ := slice_of Tryz.underlying23 k1
    obtain ⟨sa, sl, sc, rfl⟩ := slice_of Tryz.underlying24 k2
    obtain ⟨ba, bl, bc, rfl⟩ := slice_of Tryz.underlying25 k3
    obtain ⟨R, n1, n2, n3⟩ := open_nodes k0
    obtain ⟨FR, r1, r2, r3⟩ := open_flights k1
    obtain ⟨SD, s1, s2, s3⟩ := open_ints k2
    obtain ⟨BF, f1, f2, f3⟩ := open_facts22 k3
    exact ⟨na, nl, nc, ra, rl, rc, sa, sl, sc, ba, bl, bc, R, FR, SD, BF, rfl, ⟨n2, n3, r2, r3, s3, f3, n1, r1, s2, f2, s1, f1⟩⟩
end
end Go.Proofs.YthekjfdggfbelaaGreat
