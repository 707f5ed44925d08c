/- Nodes: how long a doubt lasts. -/
import Derived.Test.YtnplhfgdbabmaaaGreatNd2
import Derived.Test.YtnplhfgdbabmaaaGreatMsk
import Derived.Test.YtnplhfgdbabmaaaGreatNd17
import Derived.Test.YtnplhfgdbabmaaaGreatNd30
import Derived.Test.YtnplhfgdbabmaaaGreatNd25
import Derived.Test.YtnplhfgdbabmaaaGreatNd27
import Derived.Test.YtnplhfgdbabmaaaGreatWk
namespace Go.Proofs.YtnplhfgdbabmaaaGreat
open Go.ChangeShapes Go.WideShapes Go.ChangeAt Go.RowKit
attribute [local go_sem ↓] Go.wp_at_zero Go.wp_at_succ
def o83_1 : Array Oper := #[{ dst := some 5, op := .load 105 (.tmp 2), type := 105, pos := "l21_node.go:85", after := #[], guard := none }, { dst := some 6, op := .call { callee := .value (.func 145), args := #[.tmp 5], argTypes := #[105] }, type := 3, pos := "l21_node.go:85", after := #[{ on := 0, ground := .data }], guard := none }, { dst := some 7, op := .move (.tmp 1), type := 3, pos := "l21_node.go:85", after := #[], guard := none }, { dst := some 8, op := .fieldAddr 105 (.tmp 2) 2, type := 0, pos := "l21_node.go:85", after := #[], guard := none }, { dst := some 9, op := .load 3 (.tmp 8), type := 3, pos := "l21_node.go:85", after := #[{ on := 3, ground := .data }], guard := none }, { dst := some 10, op := .binOp .sub 3 (.tmp 7) (.tmp 9) 3, type := 3, pos := "l21_node.go:85", after := #[{ on := 2, ground := .data }, { on := 4, ground := .data }], guard := none }, { dst := some 11, op := .binOp .sub 3 (.tmp 6) (.tmp 10) 3, type := 3, pos := "l21_node.go:85", after := #[{ on := 1, ground := .data }, { on := 5, ground := .data }], guard := none }, { dst := some 12, op := .call { callee := .builtin .max, args := #[.tmp 11, .const (.int .i64 0)], argTypes := #[3, 3] }, type := 3, pos := "l21_node.go:85", after := #[{ on := 6, ground := .data }], guard := none }, { dst := some 4, op := .assign (.tmp 12), type := 3, pos := "l21_node.go:85", after := #[{ on := 7, ground := .data }, { on := 1, ground := .chain }, { on := 0, ground := .phase }, { on := 1, ground := .phase }, { on := 2, ground := .phase }, { on := 3, ground := .phase }, { on := 4, ground := .phase }, { on := 5, ground := .phase }, { on := 6, ground := .phase }, { on := 7, ground := .phase }], guard := none }]
theorem fo83_1 : FreeN .any o83_1 9 := ⟨⟨by kernel_rfl⟩, by kernel_rfl⟩
theorem o83_1_0 : o83_1[0]? = some { dst := some 5, op := .load 105 (.tmp 2), type := 105, pos := "l21_node.go:85", after := #[], guard := none } := rfl
theorem o83_1_1 : o83_1[1]? = some { dst := some 6, op := .call { callee := .value (.func 145), args := #[.tmp 5], argTypes := #[105] }, type := 3, pos := "l21_node.go:85", after := #[{ on := 0, ground := .data }], guard := none } := rfl
theorem o83_1_2 : o83_1[2]? = some { dst := some 7, op := .move (.tmp 1), type := 3, pos := "l21_node.go:85", after := #[], guard := none } := rfl
theorem o83_1_3 : o83_1[3]? = some { dst := some 8, op := .fieldAddr 105 (.tmp 2) 2, type := 0, pos := "l21_node.go:85", after := #[], guard := none } := rfl
theorem o83_1_4 : o83_1[4]? = some { dst := some 9, op := .load 3 (.tmp 8), type := 3, pos := "l21_node.go:85", after := #[{ on := 3, ground := .data }], guard := none } := rfl
theorem o83_1_5 : o83_1[5]? = some { dst := some 10, op := .binOp .sub 3 (.tmp 7) (.tmp 9) 3, type := 3, pos := "l21_node.go:85", after := #[{ on := 2, ground := .data }, { on := 4, ground := .data }], guard := none } := rfl
theorem o83_1_6 : o83_1[6]? = some { dst := some 11, op := .binOp .sub 3 (.tmp 6) (.tmp 10) 3, type := 3, pos := "l21_node.go:85", after := #[{ on := 1, ground := .data }, { on := 5, ground := .data }], guard := none } := rfl
theorem o83_1_7 : o83_1[7]? = some { dst := some 12, op := .call { callee := .builtin .max, args := #[.tmp 11, .const (.int .i64 0)], argTypes := #[3, 3] }, type := 3, pos := "l21_node.go:85", after := #[{ on := 6, ground := .data }], guard := none } := rfl
theorem o83_1_8 : o83_1[8]? = some { dst := some 4, op := .assign (.tmp 12), type := 3, pos := "l21_node.go:85", after := #[{ on := 7, ground := .data }, { on := 1, ground := .chain }, { on := 0, ground := .phase }, { on := 1, ground := .phase }, { on := 2, ground := .phase }, { on := 3, ground := .phase }, { on := 4, ground := .phase }, { on := 5, ground := .phase }, { on := 6, ground := .phase }, { on := 7, ground := .phase }], guard := none } := rfl
/-- for how many ticks a doubt must last -/
def pat (bl : Nat) : Int := if 7 - (bl : Int) < 3 then 3 else 7 - (bl : Int)
set_option maxRecDepth 20000 in
theorem patience_lit (n i s : Int) (ba : Option Addr) (bl bc : Nat) (z : Int) (hz : pat bl = z) (w : World) (hbl : bl ≤ 1048576) :
    Calls Tryz.prog 145 #[.agg #[.int .i64 n, .int .i64 i, .int .i64 s, .slice ba bl bc]] w fun r w' => r = .returned (.int .i64 z) ∧ Below w.heap.size w w' := by
  have b0 := balloc (.cells #[.int .i64 n, .int .i64 i, .int .i64 s, .slice ba bl bc] 105) (Below.refl w.heap.size w)
  have X := Ws.box (w := w) #[.int .i64 n, .int .i64 i, .int .i64 s, .slice ba bl bc] 105
  go_enter Tryz.func145, Tryz.ntmps145
  go_upto_region 1 with fail
  generalize w.alloc (.cells #[.int .i64 n, .int .i64 i, .int .i64 s, .slice ba bl bc] 105) = u at *
  have d := X.c 3 (.slice ba bl bc) rfl
  clear X
  subst hz
  have hp : Hid (pat bl = if 7 - (bl : Int) < 3 then 3 else 7 - (bl : Int)) := rfl
  have e1 : IntKind.i64.wrap (6 - (bl : Int)) = 6 - (bl : Int) := by rw [IntKind.wrap_i64]; omega
  have e2 : IntKind.i64.wrap (6 - (bl : Int) + 1) = 7 - (bl : Int) := by rw [IntKind.wrap_i64]; omega
  go_wp2
  all_goals (go_ret; exact ⟨ret_int (by rw [hp.out]; split <;> omega), b0⟩)
/-- for how many ticks a doubt must last still -/
def rem (now s : Int) (bl : Nat) : Int := if pat bl - (now - s) < 0 then 0 else pat bl - (now - s)
set_option maxRecDepth 20000 in
theorem remaining_lit (n i s : Int) (ba : Option Addr) (bl bc : Nat) (now : Int) (w : World) (hbl : bl ≤ 1048576) (h0 : 0 ≤ s) (h1 : s ≤ now) (h2 : now ≤ 999999) :
    Calls Tryz.prog 83 #[.agg #[.int .i64 n, .int .i64 i, .int .i64 s, .slice ba bl bc], .int .i64 now] w fun r w' => r = .returned (.int .i64 (rem now s bl)) ∧ Below w.heap.size w w' := by
  have b0 := balloc (.cells #[.int .i64 n, .int .i64 i, .int .i64 s, .slice ba bl bc] 105) (Below.refl w.heap.size w)
  have X := Ws.box (w := w) #[.int .i64 n, .int .i64 i, .int .i64 s, .slice ba bl bc] 105
  go_enter Tryz.func83, Tryz.ntmps83
  go_upto_region 1 with fail
  generalize w.alloc (.cells #[.int .i64 n, .int .i64 i, .int .i64 s, .slice ba bl bc] 105) = u at *
  have c0 := X.c 0 (.int .i64 n) rfl
  have c1 := X.c 1 (.int .i64 i) rfl
  have c2 := X.c 2 (.int .i64 s) rfl
  have c3 := X.c 3 (.slice ba bl bc) rfl
  clear X
  obtain ⟨z, hz⟩ : ∃ z, Hid (pat bl = z) := ⟨_, rfl⟩
  have hz2 : 3 ≤ z ∧ z ≤ 7 := by
    have := hz.out
    unfold pat at this
    split at this <;> omega
  have hp : Hid (rem now s bl = if z - (now - s) < 0 then 0 else z - (now - s)) := by
    rw [Hid, ← hz.out]; rfl
  have e1 : IntKind.i64.wrap (now - s) = now - s := by rw [IntKind.wrap_i64]; omega
  have e2 : IntKind.i64.wrap (z - (now - s)) = z - (now - s) := by rw [IntKind.wrap_i64]; omega
  refine wp_region_m (S := (fun w' => w'.cell? ⟨w.heap.size, 0, none⟩ = some (.int .i64 n) ∧ w'.cell? ⟨w.heap.size, 1, none⟩ = some (.int .i64 i) ∧ w'.cell? ⟨w.heap.size, 2, none⟩ = some (.int .i64 s) ∧ w'.cell? ⟨w.heap.size, 3, none⟩ = some (.slice ba bl bc) ∧ Below w.heap.size w w')) o83_1 9 fo83_1 ?_ (fun hHeld => ?_)
  · (try dsimp only); exact ⟨keep_drew c0, keep_drew c1, keep_drew c2, keep_drew c3, b0.drew⟩
  refine stY fo83_1 o83_1_0 1 ?_
  (try simp only [putQ])
  refine stY fo83_1 o83_1_2 5 ?_
  (try simp only [putQ])
  refine stY fo83_1 o83_1_3 13 ?_
  (try simp only [putQ])
  refine stY fo83_1 o83_1_4 29 ?_
  (try simp only [putQ])
  refine stY fo83_1 o83_1_5 61 ?_
  (try simp only [putQ])
  refine stC fo83_1 o83_1_1 63 (fun K hK => ?_)
  go_simp
  refine (patience_lit n i s ba bl bc z hz.out _ hbl).mono ?_; rintro r w1 ⟨rfl, k1⟩
  go_wp2_with fail
  refine hK.out _ _ ?_ (fun hHeld => ?_)
  · (try dsimp only); exact ⟨keep_below k1 hHeld.1, keep_below k1 hHeld.2.1, keep_below k1 hHeld.2.2.1, keep_below k1 hHeld.2.2.2.1, btrans hHeld.2.2.2.2 k1⟩
  clear hK K
  (try simp only [putQ])
  refine stY fo83_1 o83_1_6 127 ?_
  (try simp only [putQ])
  refine stY fo83_1 o83_1_7 255 ?_
  (try simp only [putQ])
  refine stY fo83_1 o83_1_8 511 ?_
  (try simp only [putQ])
  refine wpAnyH_done (by kernel_rfl) ?_ _
  go_wp2
  all_goals (go_ret; exact ⟨ret_int (by rw [hp.out]; split <;> omega), hHeld.2.2.2.2⟩)
set_option maxRecDepth 20000 in
theorem due_any (n i s : Int) (ba : Option Addr) (bl bc : Nat) (now : Int) (w : World) (hbl : bl ≤ 1048576) (h0 : 0 ≤ s) (h1 : s ≤ now) (h2 : now ≤ 2000000) :
    Calls Tryz.prog 81 #[.int .i64 now, .agg #[.int .i64 n, .int .i64 i, .int .i64 s, .slice ba bl bc]] w fun r w' => r = .returned (.bool (decide (pat bl ≤ now - s))) ∧ Below w.heap.size w w' := by
  have b0 := balloc (.cells #[.int .i64 n, .int .i64 i, .int .i64 s, .slice ba bl bc] 105) (Below.refl w.heap.size w)
  have X := Ws.box (w := w) #[.int .i64 n, .int .i64 i, .int .i64 s, .slice ba bl bc] 105
  go_enter Tryz.func81, Tryz.ntmps81
  go_upto_region 1 with fail
  generalize w.alloc (.cells #[.int .i64 n, .int .i64 i, .int .i64 s, .slice ba bl bc] 105) = u at *
  have d2 := X.c 2 (.int .i64 s) rfl
  have d3 := X.c 3 (.slice ba bl bc) rfl
  clear X
  have hp : Hid (pat bl = if 7 - (bl : Int) < 3 then 3 else 7 - (bl : Int)) := rfl
  have e1 : IntKind.i64.wrap (6 - (bl : Int)) = 6 - (bl : Int) := by rw [IntKind.wrap_i64]; omega
  have e2 : IntKind.i64.wrap (6 - (bl : Int) + 1) = 7 - (bl : Int) := by rw [IntKind.wrap_i64]; omega
  have e3 : IntKind.i64.wrap (now - s) = now - s := by rw [IntKind.wrap_i64]; omega
  by_cases q : 7 - (bl : Int) < 3
  · have hq : Hid (pat bl = 3) := by rw [Hid, hp.out, if_pos q]
    go_wp2
    go_ret
    exact ⟨ret_bool (by rw [hq.out]), b0⟩
  · have hq : Hid (pat bl = 7 - (bl : Int)) := by rw [Hid, hp.out, if_neg q]
    go_wp2
    go_ret
    exact ⟨ret_bool (by rw [hq.out]), b0⟩
end Go.Proofs.YtnplhfgdbabmaaaGreat
/- Nodes: for how long a suspicion must last still. -/
namespace Go.Proofs.YtnplhfgdbabmaaaGreat
open Go.ChangeShapes Go.WideShapes Go.ChangeAt Go.RowKit
attribute [local go_sem ↓] Go.wp_at_zero Go.wp_at_succ
/-- who is ok and doubts somebody doubts it since a tick that was -/
theorem nod_doubt (me : Int) (up gone gate : Bool) (inc now sq turn : Int) (tl : Nat) (F : Nat → Fc) (cl : Nat) (GI : Nat → It) (pn ps pq : Int) (pa : Bool) (dl : Nat) (GD : Nat → Dt) (cx cy ch ce : Int) (pll : Nat) (GP : Nat → Pl) (ol : Nat) (GO : Nat → Fg) (h : nodB me up gone gate inc now sq turn tl F cl GI pn ps pq pa dl GD cx cy ch ce pll GP ol GO = true) {k : Nat} (hk : k < dl) : 0 ≤ (GD k).s ∧ (GD k).s ≤ now ∧ now ≤ 999999 ∧ 0 < (GD k).bl := by
  unfold nodB at h
  rw [Bool.and_eq_true, Bool.or_eq_true] at h
  obtain ⟨h1, h2⟩ := h
  have hnow : now ≤ 999999 := by
    unfold numB inb at h1
    simp only [Bool.and_eq_true, decide_eq_true_eq] at h1
    omega
  rcases h2 with h2 | h2
  · unfold dwn at h2
    simp only [Bool.and_eq_true, decide_eq_true_eq] at h2
    omega
  · rw [Bool.and_eq_true] at h2
    have h3 := h2.2
    unfold upB at h3
    simp only [Bool.and_eq_true] at h3
    have h4 := h3.1.1.2
    unfold dbsB at h4
    rw [Bool.and_eq_true] at h4
    have h5 := h4.2
    unfold dbA at h5
    rw [decide_eq_true_iff] at h5
    have h6 := h5 k hk
    unfold dbtB at h6
    simp only [Bool.and_eq_true, decide_eq_true_eq] at h6
    have h7 := h6.1.1.1.2
    unfold inb at h7
    simp only [Bool.and_eq_true, decide_eq_true_eq] at h7
    exact ⟨h7.1, h7.2, hnow, h6.1.1.2⟩
/-- for how long a suspicion must last still, and whether there is one -/
def sureP (q : Bool) (dl : Nat) (GD : Nat → Dt) (now key : Int) : Int × Bool :=
  if q then (match nfd dl (fun k => (GD k).n) key with | none => (0, false) | some k => (rem now (GD k).s (GD k).bl, true)) else (0, false)
def sureV (p : Int × Bool) : Value := .tuple #[.int .i64 p.1, .bool p.2]
set_option maxRecDepth 20000 in
set_option maxHeartbeats 4000000 in
theorem sure27_any (me : Int) (up gone gate : Bool) (inc now sq turn : Int) (ta : Option Addr) (tl tc : Nat) (ca : Option Addr) (cl cc : Nat) (pn ps pq : Int) (pa : Bool) (da : Option Addr) (dl dc : Nat) (cx cy ch ce : Int) (pla : Option Addr) (pll plc : Nat) (oa : Option Addr) (ol oc : Nat) (F : Nat → Fc) (GI : Nat → It) (GD : Nat → Dt) (GP : Nat → Pl) (GO : Nat → Fg) (key : Int) (w : World) (h : NdIn w ta tl F ca cl GI da dl GD pla pll GP oa ol GO) :
    Calls Tryz.prog 27 #[.agg #[.int .i64 me, .bool up, .bool gone, .bool gate, .int .i64 inc, .int .i64 now, .int .i64 sq, .int .i64 turn, .slice ta tl tc, .slice ca cl cc, .int .i64 pn, .int .i64 ps, .int .i64 pq, .bool pa, .slice da dl dc, .int .i64 cx, .int .i64 cy, .int .i64 ch, .int .i64 ce, .slice pla pll plc, .slice oa ol oc], .int .i64 key] w fun r w' => r = .returned (sureV (sureP (nodB me up gone gate inc now sq turn tl F cl GI pn ps pq pa dl GD cx cy ch ce pll GP ol GO) dl GD now key)) ∧ Below w.heap.size w w' := by
  have b0 := balloc (.cells #[.int .i64 me, .bool up, .bool gone, .bool gate, .int .i64 inc, .int .i64 now, .int .i64 sq, .int .i64 turn, .slice ta tl tc, .slice ca cl cc, .int .i64 pn, .int .i64 ps, .int .i64 pq, .bool pa, .slice da dl dc, .int .i64 cx, .int .i64 cy, .int .i64 ch, .int .i64 ce, .slice pla pll plc, .slice oa ol oc] 43) (Below.refl w.heap.size w)
  have X := Ws.box (w := w) #[.int .i64 me, .bool up, .bool gone, .bool gate, .int .i64 inc, .int .i64 now, .int .i64 sq, .int .i64 turn, .slice ta tl tc, .slice ca cl cc, .int .i64 pn, .int .i64 ps, .int .i64 pq, .bool pa, .slice da dl dc, .int .i64 cx, .int .i64 cy, .int .i64 ch, .int .i64 ce, .slice pla pll plc, .slice oa ol oc] 43
  go_enter Tryz.func27, Tryz.ntmps27
  go_upto_region 1 with fail
  generalize w.alloc (.cells #[.int .i64 me, .bool up, .bool gone, .bool gate, .int .i64 inc, .int .i64 now, .int .i64 sq, .int .i64 turn, .slice ta tl tc, .slice ca cl cc, .int .i64 pn, .int .i64 ps, .int .i64 pq, .bool pa, .slice da dl dc, .int .i64 cx, .int .i64 cy, .int .i64 ch, .int .i64 ce, .slice pla pll plc, .slice oa ol oc] 43) = u at *
  have h0 := h.below b0
  have d14 := X.c 14 (.slice da dl dc) rfl
  clear h
  go_wp2_with fail
  refine (Dtfind_any da dl dc GD key _ h0.d h0.hd).mono ?_
  rintro r w1 ⟨hF, k1⟩
  have b1 := btrans b0 k1
  have X1 := X.below k1
  have h1 := h0.below k1
  clear b0 X h0 k1 d14
  obtain ⟨q, hq⟩ : ∃ q, Hid (nodB me up gone gate inc now sq turn tl F cl GI pn ps pq pa dl GD cx cy ch ce pll GP ol GO = q) := ⟨_, rfl⟩
  rcases hF with ⟨ef, rfl⟩ | ⟨k, ef, hk, hn, rfl⟩
  · have hr : Hid (sureP (nodB me up gone gate inc now sq turn tl F cl GI pn ps pq pa dl GD cx cy ch ce pll GP ol GO) dl GD now key = (0, false)) := by
      rw [Hid, sureP, ef]; split <;> rfl
    clear ef
    have kk := balloc (.cells #[.int .i64 0, .int .i64 0, .int .i64 0, .slice none 0 0] 105) (Below.refl w1.heap.size w1)
    have b2 := btrans b1 kk
    have h2 := h1.below kk
    have r2 := (X1.below kk).range
    go_upto_region 2 with fail
    generalize w1.alloc (.cells #[.int .i64 0, .int .i64 0, .int .i64 0, .slice none 0 0] 105) = v at *
    clear X1 h1 kk
    go_wp2_with (refine load43L (by rfl) (.tmp 2) rfl w.heap.size rfl [.int .i64 me, .bool up, .bool gone, .bool gate, .int .i64 inc, .int .i64 now, .int .i64 sq, .int .i64 turn, .slice ta tl tc, .slice ca cl cc, .int .i64 pn, .int .i64 ps, .int .i64 pq, .bool pa, .slice da dl dc, .int .i64 cx, .int .i64 cy, .int .i64 ch, .int .i64 ce, .slice pla pll plc, .slice oa ol oc] r2 rfl ?_; clear r2)
    refine (nodeOk11_any me up gone gate inc now sq turn ta tl tc ca cl cc pn ps pq pa da dl dc cx cy ch ce pla pll plc oa ol oc F GI GD GP GO _ h2).mono ?_
    rintro r w3 ⟨rfl, k3⟩
    rw [hq.out]
    clear hq
    cases q
    · go_wp2
      try simp only [Exit.inBlock, Exit.then]
      exact bodyPost_ret (v := .tuple #[.int .i64 0, .bool false]) (by simp [results, Tryz.results27, go_sem]) rfl ⟨by rw [hr.out]; rfl, btrans b2 k3⟩
    · go_wp2
      try simp only [Exit.inBlock, Exit.then]
      exact bodyPost_ret (v := .tuple #[.int .i64 0, .bool false]) (by simp [results, Tryz.results27, go_sem]) rfl ⟨by rw [hr.out]; rfl, btrans b2 k3⟩
  · have hbl := (h1.db k hk).2
    have hin : Hid (nodB me up gone gate inc now sq turn tl F cl GI pn ps pq pa dl GD cx cy ch ce pll GP ol GO = true → 0 ≤ (GD k).s ∧ (GD k).s ≤ now ∧ now ≤ 999999 ∧ 0 < (GD k).bl) := fun e => nod_doubt me up gone gate inc now sq turn tl F cl GI pn ps pq pa dl GD cx cy ch ce pll GP ol GO e hk
    have hr : Hid (sureP (nodB me up gone gate inc now sq turn tl F cl GI pn ps pq pa dl GD cx cy ch ce pll GP ol GO) dl GD now key = if nodB me up gone gate inc now sq turn tl F cl GI pn ps pq pa dl GD cx cy ch ce pll GP ol GO then (rem now (GD k).s (GD k).bl, true) else (0, false)) := by
      rw [Hid, sureP, ef]
    clear ef hn hk
    generalize GD k = x at *
    obtain ⟨n, i, s, ba, bl, bc, bf⟩ := x
    dsimp only at hbl hin hr ⊢
    have kk := balloc (.cells #[.int .i64 n, .int .i64 i, .int .i64 s, .slice ba bl bc] 105) (Below.refl w1.heap.size w1)
    have b2 := btrans b1 kk
    have h2 := h1.below kk
    have X2 := X1.below kk
    have Y := Ws.box (w := w1) #[.int .i64 n, .int .i64 i, .int .i64 s, .slice ba bl bc] 105
    go_upto_region 2 with fail
    generalize w1.alloc (.cells #[.int .i64 n, .int .i64 i, .int .i64 s, .slice ba bl bc] 105) = v at *
    generalize w1.heap.size = KD at *
    have r2 := X2.range
    clear X1 h1 kk
    go_wp2_with (refine load43L (by rfl) (.tmp 2) rfl w.heap.size rfl [.int .i64 me, .bool up, .bool gone, .bool gate, .int .i64 inc, .int .i64 now, .int .i64 sq, .int .i64 turn, .slice ta tl tc, .slice ca cl cc, .int .i64 pn, .int .i64 ps, .int .i64 pq, .bool pa, .slice da dl dc, .int .i64 cx, .int .i64 cy, .int .i64 ch, .int .i64 ce, .slice pla pll plc, .slice oa ol oc] r2 rfl ?_; clear r2)
    refine (nodeOk11_any me up gone gate inc now sq turn ta tl tc ca cl cc pn ps pq pa da dl dc cx cy ch ce pla pll plc oa ol oc F GI GD GP GO _ h2).mono ?_
    rintro r w3 ⟨rfl, k3⟩
    have b3 := btrans b2 k3
    have X3 := X2.below k3
    have Y3 := Y.below k3
    rw [hq.out]
    rw [hq.out] at hin
    have hr2 : Hid (sureP (nodB me up gone gate inc now sq turn tl F cl GI pn ps pq pa dl GD cx cy ch ce pll GP ol GO) dl GD now key = if q then (rem now s bl, true) else (0, false)) := by
      rw [Hid, hr.out, hq.out]
    clear hq hr X2 Y h2 b2 k3
    cases q
    · clear X3 Y3
      go_wp2
      try simp only [Exit.inBlock, Exit.then]
      exact bodyPost_ret (v := .tuple #[.int .i64 0, .bool false]) (by simp [results, Tryz.results27, go_sem]) rfl ⟨by rw [hr2.out]; rfl, b3⟩
    · obtain ⟨i1, i2, i3, _⟩ := hin.out rfl
      have y0 := Y3.c 0 (.int .i64 n) rfl
      have y1 := Y3.c 1 (.int .i64 i) rfl
      have y2 := Y3.c 2 (.int .i64 s) rfl
      have y3 := Y3.c 3 (.slice ba bl bc) rfl
      have d5 := X3.c 5 (.int .i64 now) rfl
      clear X3 Y3 hin
      go_wp2_with fail
      refine (remaining_lit n i s ba bl bc now _ hbl i1 i2 i3).mono ?_
      rintro r w4 ⟨rfl, k4⟩
      generalize rem now s bl = z at *
      clear y0 y1 y2 y3 d5
      go_wp2
      try simp only [Exit.inBlock, Exit.then]
      exact bodyPost_ret (v := .tuple #[.int .i64 z, .bool true]) (by simp [results, Tryz.results27, go_sem]) rfl ⟨by rw [hr2.out]; rfl, btrans b3 k4⟩
end Go.Proofs.YtnplhfgdbabmaaaGreat
/- Nodes, the model's way: for how long a suspicion must last still. -/
namespace Go.Proofs.YtnplhfgdbabmaaaGreat
open Go.ChangeShapes Go.WideShapes Go.ChangeAt Go.RowKit
attribute [local go_sem ↓] Go.wp_at_zero Go.wp_at_succ
set_option maxRecDepth 20000 in
set_option maxHeartbeats 4000000 in
theorem sure26_any (me : Int) (up gone gate : Bool) (inc now sq turn : Int) (ta : Option Addr) (tl tc : Nat) (ca : Option Addr) (cl cc : Nat) (pn ps pq : Int) (pa : Bool) (da : Option Addr) (dl dc : Nat) (cx cy ch ce : Int) (pla : Option Addr) (pll plc : Nat) (oa : Option Addr) (ol oc : Nat) (F : Nat → Fc) (GI : Nat → It) (GD : Nat → Dt) (GP : Nat → Pl) (GO : Nat → Fg) (key : Int) (w : World) (h : NdIn w ta tl F ca cl GI da dl GD pla pll GP oa ol GO) :
    Calls Tryz.prog 26 #[.agg #[.int .i64 me, .bool up, .bool gone, .bool gate, .int .i64 inc, .int .i64 now, .int .i64 sq, .int .i64 turn, .slice ta tl tc, .slice ca cl cc, .int .i64 pn, .int .i64 ps, .int .i64 pq, .bool pa, .slice da dl dc, .int .i64 cx, .int .i64 cy, .int .i64 ch, .int .i64 ce, .slice pla pll plc, .slice oa ol oc], .int .i64 key] w fun r w' => r = .returned (sureV (sureP (snodB me up gone gate inc now sq turn tl F cl GI pn ps pq pa dl GD cx cy ch ce pll GP ol GO) dl GD now key)) ∧ Below w.heap.size w w' := by
  have b0 := balloc (.cells #[.int .i64 me, .bool up, .bool gone, .bool gate, .int .i64 inc, .int .i64 now, .int .i64 sq, .int .i64 turn, .slice ta tl tc, .slice ca cl cc, .int .i64 pn, .int .i64 ps, .int .i64 pq, .bool pa, .slice da dl dc, .int .i64 cx, .int .i64 cy, .int .i64 ch, .int .i64 ce, .slice pla pll plc, .slice oa ol oc] 43) (Below.refl w.heap.size w)
  have X := Ws.box (w := w) #[.int .i64 me, .bool up, .bool gone, .bool gate, .int .i64 inc, .int .i64 now, .int .i64 sq, .int .i64 turn, .slice ta tl tc, .slice ca cl cc, .int .i64 pn, .int .i64 ps, .int .i64 pq, .bool pa, .slice da dl dc, .int .i64 cx, .int .i64 cy, .int .i64 ch, .int .i64 ce, .slice pla pll plc, .slice oa ol oc] 43
  go_enter Tryz.func26, Tryz.ntmps26
  go_upto_region 1 with fail
  generalize w.alloc (.cells #[.int .i64 me, .bool up, .bool gone, .bool gate, .int .i64 inc, .int .i64 now, .int .i64 sq, .int .i64 turn, .slice ta tl tc, .slice ca cl cc, .int .i64 pn, .int .i64 ps, .int .i64 pq, .bool pa, .slice da dl dc, .int .i64 cx, .int .i64 cy, .int .i64 ch, .int .i64 ce, .slice pla pll plc, .slice oa ol oc] 43) = u at *
  have h0 := h.below b0
  have r0 := X.range
  clear h
  go_wp2_with (refine load43L (by rfl) (.tmp 2) rfl w.heap.size rfl [.int .i64 me, .bool up, .bool gone, .bool gate, .int .i64 inc, .int .i64 now, .int .i64 sq, .int .i64 turn, .slice ta tl tc, .slice ca cl cc, .int .i64 pn, .int .i64 ps, .int .i64 pq, .bool pa, .slice da dl dc, .int .i64 cx, .int .i64 cy, .int .i64 ch, .int .i64 ce, .slice pla pll plc, .slice oa ol oc] r0 rfl ?_; clear r0)
  refine (nodeOk9_any me up gone gate inc now sq turn ta tl tc ca cl cc pn ps pq pa da dl dc cx cy ch ce pla pll plc oa ol oc F GI GD GP GO _ h0).mono ?_
  rintro r w1 ⟨rfl, k1⟩
  have b1 := btrans b0 k1
  have X1 := X.below k1
  have h1 := h0.below k1
  clear b0 X h0 k1
  have hin : Hid (snodB me up gone gate inc now sq turn tl F cl GI pn ps pq pa dl GD cx cy ch ce pll GP ol GO = true → ∀ k, k < dl → 0 ≤ (GD k).s ∧ (GD k).s ≤ now ∧ now ≤ 999999 ∧ 0 < (GD k).bl) := fun e k hk => nod_doubt me up gone gate inc now sq turn tl F cl GI pn ps pq pa dl GD cx cy ch ce pll GP ol GO ((nod_same me up gone gate inc now sq turn tl F cl GI pn ps pq pa dl GD cx cy ch ce pll GP ol GO).trans e) hk
  have hr : Hid (sureP (snodB me up gone gate inc now sq turn tl F cl GI pn ps pq pa dl GD cx cy ch ce pll GP ol GO) dl GD now key = if snodB me up gone gate inc now sq turn tl F cl GI pn ps pq pa dl GD cx cy ch ce pll GP ol GO then (match nfd dl (fun k => (GD k).n) key with | none => (0, false) | some k => (rem now (GD k).s (GD k).bl, true)) else (0, false)) := rfl
  obtain ⟨q, hq⟩ : ∃ q, Hid (snodB me up gone gate inc now sq turn tl F cl GI pn ps pq pa dl GD cx cy ch ce pll GP ol GO = q) := ⟨_, rfl⟩
  rw [hq.out]
  rw [hq.out] at hin hr
  cases q
  · clear X1 h1 hin
    go_wp2
    try simp only [Exit.inBlock, Exit.then]
    exact bodyPost_ret (v := .tuple #[.int .i64 0, .bool false]) (by simp [results, Tryz.results26, go_sem]) rfl ⟨by rw [hq.out, hr.out]; rfl, b1⟩
  have hin2 := hin.out rfl
  have hr2 : Hid (sureP true dl GD now key = (match nfd dl (fun k => (GD k).n) key with | none => (0, false) | some k => (rem now (GD k).s (GD k).bl, true))) := by rw [Hid, hr.out]; rfl
  clear hin hr
  have d14 := X1.c 14 (.slice da dl dc) rfl
  have d5 := X1.c 5 (.int .i64 now) rfl
  have hd := h1.d
  have hdb := h1.db
  have hdl := h1.hd
  clear X1 h1
  go_wp2
  go_loopw [6, 8] (fun i _ wr => ∃ k : Nat, k ≤ dl ∧ i = .int .i64 k ∧ Below w1.heap.size w1 wr ∧ (∀ j, j < k → (GD j).n ≠ key)) (fun i _ _ => dl - (intOf i).toNat)
  case atStart => exact ⟨0, by omega, rfl, Below.refl _ _, fun j h1 => by omega⟩
  case round =>
    obtain ⟨k, hk, rfl, hb, hall⟩ := hrel
    have f14 := keep_below hb d14
    have f5 := keep_below hb d5
    by_cases hlt : k < dl
    · obtain ⟨b, off, rfl, hbl, hf⟩ := hd (by omega)
      obtain ⟨c0, c1, c2, c3⟩ := (hf.below hb hbl) k hlt
      have hbk := (hdb k hlt).2
      obtain ⟨s1, s2, s3, s4⟩ := hin2 k hlt
      have i0 : (0 : Int) ≤ (k : Int) := by omega
      have i1 : (k : Int) < (dl : Int) := by omega
      have hyes : Hid ((GD k).n ≠ key → ∀ j, j < k + 1 → (GD j).n ≠ key) := fun e j hj => by
        by_cases ej : j = k
        · subst ej; exact e
        · exact hall j (by omega)
      have hit : Hid ((GD k).n = key → sureP true dl GD now key = (rem now (GD k).s (GD k).bl, true)) := fun e => by
        rw [hr2.out, nfd_some hall hlt e]
      clear hall
      generalize GD k = x at *
      obtain ⟨n, i, s, ba, bl, bc, bf⟩ := x
      dsimp only at c0 c1 c2 c3 hbk s1 s2 s3 s4 hyes hit
      have b2 := balloc (.cells #[.int .i64 n, .int .i64 i, .int .i64 s, .slice ba bl bc] 105) hb
      have Y := Ws.box (w := wr) #[.int .i64 n, .int .i64 i, .int .i64 s, .slice ba bl bc] 105
      have g5 := keep_alloc (.cells #[.int .i64 n, .int .i64 i, .int .i64 s, .slice ba bl bc] 105) f5
      go_upto_region 7 with fail
      generalize wr.alloc (.cells #[.int .i64 n, .int .i64 i, .int .i64 s, .slice ba bl bc] 105) = v at *
      generalize wr.heap.size = KD at *
      have y0 := Y.c 0 (.int .i64 n) rfl
      by_cases e : n = key
      · subst e
        have hit2 := hit.out rfl
        clear hit hyes c0 c1 c2 c3 f14 f5
        have e' : Hid (sureP true dl GD now n = (rem now s bl, true)) := hit2
        clear hit2 hr2
        go_wp2_with fail
        go_loopw [8] (fun i wt => ∃ t : Nat, t ≤ 6 ∧ i = .int .i64 t ∧ Below v.heap.size v wt ∧ (∀ j : Nat, j < t → ¬ pat bl ≤ now + j - s)) (fun i _ => 6 - (intOf i).toNat)
        case atStart => exact ⟨0, by omega, rfl, Below.refl _ _, fun j h1 => by omega⟩
        case round =>
          obtain ⟨t, ht, rfl, hbt, hallt⟩ := hrel
          have m5 := keep_below hbt g5
          have Z := Y.below hbt
          have z0 := Z.c 0 (.int .i64 n) rfl
          have z1 := Z.c 1 (.int .i64 i) rfl
          have z2 := Z.c 2 (.int .i64 s) rfl
          have z3 := Z.c 3 (.slice ba bl bc) rfl
          clear Z
          have hp : 3 ≤ pat bl ∧ pat bl ≤ 6 := by
            unfold pat
            split <;> omega
          by_cases hlt2 : t < 6
          · have j1 : (t : Int) < 6 := by omega
            have j2 : IntKind.i64.wrap (now + (t : Int)) = now + (t : Int) := by rw [IntKind.wrap_i64]; omega
            go_wp2_with fail
            refine (due_any n i s ba bl bc (now + (t : Int)) _ hbk s1 (by omega) (by omega)).mono ?_
            rintro r w5 ⟨rfl, k5⟩
            clear z0 z1 z2 z3 m5
            by_cases hdue : pat bl ≤ now + (t : Int) - s
            · rw [decide_eq_true hdue]
              have hrem : Hid ((t : Int) = rem now s bl) := by
                rw [Hid]
                unfold rem
                by_cases t0 : t = 0
                · subst t0; split <;> omega
                · have := hallt (t - 1) (by omega)
                  split <;> omega
              clear hallt hdue hp
              go_wp2
              try simp only [Exit.inBlock, Exit.then]
              exact bodyPost_ret (v := .tuple #[.int .i64 (t : Int), .bool true]) (by simp [results, Tryz.results26, go_sem]) rfl ⟨by rw [hq.out, e'.out, ← hrem.out]; rfl, btrans b1 (btrans b2 (btrans hbt k5))⟩
            · rw [decide_eq_false hdue]
              have hall2 : ∀ j : Nat, j < t + 1 → ¬ pat bl ≤ now + j - s := fun j hj => by
                by_cases ej : j = t
                · subst ej; exact hdue
                · have := hallt j (by omega)
                  omega
              clear hallt hdue hp
              go_wp2
              go_roundw
              case rel => exact ⟨t + 1, by omega, by go_num, btrans hbt k5, fun j hj => by have := hall2 j hj; omega⟩
              case measure => simp [intOf]; omega
          · have t6 : t = 6 := by omega
            subst t6
            have hrem : Hid ((6 : Int) = rem now s bl) := by
              rw [Hid]
              unfold rem
              have := hallt 5 (by omega)
              split <;> omega
            clear hallt hp z0 z1 z2 z3 m5
            go_wp2
            try simp only [Exit.inBlock, Exit.then]
            exact bodyPost_ret (v := .tuple #[.int .i64 6, .bool true]) (by simp [results, Tryz.results26, go_sem]) rfl ⟨by rw [hq.out, e'.out, ← hrem.out]; rfl, btrans b1 (btrans b2 hbt)⟩
      · have e1 : (n == key) = false := by simpa using e
        have e2 := hyes.out e
        clear hyes hit c0 c1 c2 c3 f14 f5 Y
        go_wp2
        go_roundw
        case rel => exact ⟨k + 1, by omega, by go_num, b2, e2⟩
        case measure => simp [intOf]; omega
    · have hn : Hid (sureP true dl GD now key = (0, false)) := by
        rw [Hid, hr2.out, nfd_none fun j hj => hall j (by omega)]
      clear hall hr2
      go_wp2
      try simp only [Exit.inBlock, Exit.then]
      exact bodyPost_ret (v := .tuple #[.int .i64 0, .bool false]) (by simp [results, Tryz.results26, go_sem]) rfl ⟨by rw [hq.out, hn.out]; rfl, btrans b1 hb⟩
end Go.Proofs.YtnplhfgdbabmaaaGreat
/- Nodes: at every node NodeSure answers as its model does. -/
namespace Go.Proofs.YtnplhfgdbabmaaaGreat
open Go.ChangeShapes Go.WideShapes Go.ChangeAt Go.RowKit
attribute [local go_sem ↓] Go.wp_at_zero Go.wp_at_succ
theorem sure_congr {G G' : Nat → Dt} (h : ∀ j, DtEq (G j) (G' j)) (q : Bool) (dl : Nat) (now key : Int) : sureP q dl G now key = sureP q dl G' now key := by
  have e0 : (fun k => (G k).n) = fun k => (G' k).n := funext fun k => (h k).1
  unfold sureP
  rw [e0]
  cases nfd dl (fun k => (G' k).n) key with
  | none => rfl
  | some k =>
    obtain ⟨_, _, h3, h4, _⟩ := h k
    simp only [h3, h4]
def s7_10 : List Stp := [⟨some 39, .load 43 (.tmp 8), 43, none, 0⟩, ⟨some 40, .load 32 (.tmp 2), 32, none, 0⟩, ⟨some 41, .call { callee := .value (.func 10), args := #[.tmp 40], argTypes := #[32] }, 43, none, 1⟩, ⟨some 42, .call { callee := .value (.func 12), args := #[.tmp 39, .tmp 41], argTypes := #[43, 43] }, 4, none, 1⟩, ⟨some 43, .unOp .not 4 (.tmp 42), 4, none, 0⟩]
def t7_10 : List (Nat × Nat) := [(0, 0), (1, 0), (2, 1), (3, 1), (4, 0)]
set_option maxRecDepth 20000 in
set_option maxHeartbeats 8000000 in
set_option linter.unusedSimpArgs false in
theorem exNodeSure_walk (me : Int) (up gone gate : Bool) (inc now sq turn : Int) (ta : Option Addr) (tl tc : Nat) (ca : Option Addr) (cl cc : Nat) (pn ps pq : Int) (pa : Bool) (da : Option Addr) (dl dc : Nat) (cx cy ch ce : Int) (pla : Option Addr) (pll plc : Nat) (oa : Option Addr) (ol oc : Nat) (F : Nat → Fc) (GI : Nat → It) (GD : Nat → Dt) (GP : Nat → Pl) (GO : Nat → Fg) (key : Int) (w : World) (h : NdRaw w ta tl tc F ca cl cc GI da dl GD pla pll GP oa ol GO) :
    Calls Tryz.prog 7 #[.agg #[.int .i64 me, .bool up, .bool gone, .bool gate, .int .i64 inc, .int .i64 now, .int .i64 sq, .int .i64 turn, .slice ta tl tc, .slice ca cl cc, .int .i64 pn, .int .i64 ps, .int .i64 pq, .bool pa, .slice da dl dc, .int .i64 cx, .int .i64 cy, .int .i64 ch, .int .i64 ce, .slice pla pll plc, .slice oa ol oc], .int .i64 key] w fun r w' => r = .returned (.bool true) ∧ Below w.heap.size w w' := by
  have b0 := balloc (.cells #[.int .i64 me, .bool up, .bool gone, .bool gate, .int .i64 inc, .int .i64 now, .int .i64 sq, .int .i64 turn, .slice ta tl tc, .slice ca cl cc, .int .i64 pn, .int .i64 ps, .int .i64 pq, .bool pa, .slice da dl dc, .int .i64 cx, .int .i64 cy, .int .i64 ch, .int .i64 ce, .slice pla pll plc, .slice oa ol oc] 32) (Below.refl w.heap.size w)
  have X0 := Ws.box (w := w) #[.int .i64 me, .bool up, .bool gone, .bool gate, .int .i64 inc, .int .i64 now, .int .i64 sq, .int .i64 turn, .slice ta tl tc, .slice ca cl cc, .int .i64 pn, .int .i64 ps, .int .i64 pq, .bool pa, .slice da dl dc, .int .i64 cx, .int .i64 cy, .int .i64 ch, .int .i64 ce, .slice pla pll plc, .slice oa ol oc] 32
  go_enter Tryz.func7, Tryz.ntmps7
  go_upto_region 1 with fail
  generalize w.alloc (.cells #[.int .i64 me, .bool up, .bool gone, .bool gate, .int .i64 inc, .int .i64 now, .int .i64 sq, .int .i64 turn, .slice ta tl tc, .slice ca cl cc, .int .i64 pn, .int .i64 ps, .int .i64 pq, .bool pa, .slice da dl dc, .int .i64 cx, .int .i64 cy, .int .i64 ch, .int .i64 ce, .slice pla pll plc, .slice oa ol oc] 32) = u at *
  have h0 := h.below b0
  have x0 := X0.range
  clear h
  obtain ⟨zz, ff, hq⟩ : ∃ zz ff, Hid (sureP (nodB me up gone gate inc now sq turn tl F cl GI pn ps pq pa dl GD cx cy ch ce pll GP ol GO) dl GD now key = (zz, ff)) := ⟨_, _, rfl⟩
  go_wp2_with (refine load32L (by rfl) (.tmp 2) rfl w.heap.size rfl [.int .i64 me, .bool up, .bool gone, .bool gate, .int .i64 inc, .int .i64 now, .int .i64 sq, .int .i64 turn, .slice ta tl tc, .slice ca cl cc, .int .i64 pn, .int .i64 ps, .int .i64 pq, .bool pa, .slice da dl dc, .int .i64 cx, .int .i64 cy, .int .i64 ch, .int .i64 ce, .slice pla pll plc, .slice oa ol oc] x0 rfl ?_; clear x0)
  refine (szNode_any me up gone gate inc now sq turn ta tl tc ca cl cc pn ps pq pa da dl dc cx cy ch ce pla pll plc oa ol oc F GI GD GP GO _ h0).mono ?_
  rintro r w1 ⟨⟨z, rfl, hz⟩, k1⟩
  have b1 := btrans b0 k1
  have X1 := X0.below k1
  have h1 := h0.below k1
  have x1 := X1.range
  clear b0 X0 h0 k1
  rcases hz with hz | ⟨hz, hm⟩
  · have hz' := hz
    subst hz'
    clear X1 h1 x1
    go_wp2
    go_ret
    exact ⟨rfl, b1⟩
  have hz2 : ¬ z < 0 := by omega
  clear hz
  go_wp2_with (refine load32L (by rfl) (.tmp 2) rfl w.heap.size rfl [.int .i64 me, .bool up, .bool gone, .bool gate, .int .i64 inc, .int .i64 now, .int .i64 sq, .int .i64 turn, .slice ta tl tc, .slice ca cl cc, .int .i64 pn, .int .i64 ps, .int .i64 pq, .bool pa, .slice da dl dc, .int .i64 cx, .int .i64 cy, .int .i64 ch, .int .i64 ce, .slice pla pll plc, .slice oa ol oc] x1 rfl ?_; clear x1)
  refine (toNode_any me up gone gate inc now sq turn ta tl tc ca cl cc pn ps pq pa da dl dc cx cy ch ce pla pll plc oa ol oc F GI GD GP GO _ (h1.toIn hm) h1.cf h1.ci (fun j hj => (h1.db j hj).2.2) (fun j hj => (h1.pb j hj).2.2) (fun j hj => (h1.ob j hj).2.2)).mono ?_
  rintro r w2 ⟨s1, s2, s3, s4, s5, sD, sP, sO, rfl, sN, sd, sp, so, k2⟩
  have b2 := btrans b1 k2
  have X2 := X1.below k2
  have h2 := h1.below k2
  clear b1 X1 h1 k2 hz2
  go_wp2_with fail
  refine (sure26_any me up gone gate inc now sq turn (some ⟨s1, 0, none⟩) tl tl (some ⟨s2, 0, none⟩) cl cl pn ps pq pa (some ⟨s3, 0, none⟩) dl dl cx cy ch ce (some ⟨s4, 0, none⟩) pll pll (some ⟨s5, 0, none⟩) ol ol F GI sD sP sO key _ sN).mono ?_
  rintro r w3 ⟨rfl, k3⟩
  rw [← nod_same, nod_congr _ _ _ _ _ _ _ _ _ _ _ _ _ _ _ _ _ GD _ _ _ _ _ GP _ GO sD sP sO sd sp so, sure_congr sd, hq.out]
  unfold sureV
  dsimp only
  have b3 := btrans b2 k3
  have X3 := X2.below k3
  have h3 := h2.below k3
  have x3 := X3.range
  clear b2 X2 h2 k3 sN sd sp so
  go_wp2_with (refine load32L (by rfl) (.tmp 2) rfl w.heap.size rfl [.int .i64 me, .bool up, .bool gone, .bool gate, .int .i64 inc, .int .i64 now, .int .i64 sq, .int .i64 turn, .slice ta tl tc, .slice ca cl cc, .int .i64 pn, .int .i64 ps, .int .i64 pq, .bool pa, .slice da dl dc, .int .i64 cx, .int .i64 cy, .int .i64 ch, .int .i64 ce, .slice pla pll plc, .slice oa ol oc] x3 rfl ?_; clear x3)
  refine (toNode_any me up gone gate inc now sq turn ta tl tc ca cl cc pn ps pq pa da dl dc cx cy ch ce pla pll plc oa ol oc F GI GD GP GO _ (h3.toIn hm) h3.cf h3.ci (fun j hj => (h3.db j hj).2.2) (fun j hj => (h3.pb j hj).2.2) (fun j hj => (h3.ob j hj).2.2)).mono ?_
  rintro r w4 ⟨f1, f2, f3, f4, f5, fD, fP, fO, rfl, fN, fd, fp, fo, k4⟩
  have R := Ws.box (w := w4) #[.int .i64 0, .bool false, .bool false, .bool false, .int .i64 0, .int .i64 0, .int .i64 0, .int .i64 0, .slice none 0 0, .slice none 0 0, .int .i64 0, .int .i64 0, .int .i64 0, .bool false, .slice none 0 0, .int .i64 0, .int .i64 0, .int .i64 0, .int .i64 0, .slice none 0 0, .slice none 0 0] 43
  have hth : (w4.alloc (.cells #[.int .i64 0, .bool false, .bool false, .bool false, .int .i64 0, .int .i64 0, .int .i64 0, .int .i64 0, .slice none 0 0, .slice none 0 0, .int .i64 0, .int .i64 0, .int .i64 0, .bool false, .slice none 0 0, .int .i64 0, .int .i64 0, .int .i64 0, .int .i64 0, .slice none 0 0, .slice none 0 0] 43)).there w4.heap.size 0 21 := R.there rfl
  have kk := below_cells (w := w4) w4.heap.size (#[.int .i64 me, .bool up, .bool gone, .bool gate, .int .i64 inc, .int .i64 now, .int .i64 sq, .int .i64 turn, .slice (some ⟨f1, 0, none⟩) tl tl, .slice (some ⟨f2, 0, none⟩) cl cl, .int .i64 pn, .int .i64 ps, .int .i64 pq, .bool pa, .slice (some ⟨f3, 0, none⟩) dl dl, .int .i64 cx, .int .i64 cy, .int .i64 ch, .int .i64 ce, .slice (some ⟨f4, 0, none⟩) pll pll, .slice (some ⟨f5, 0, none⟩) ol ol] : Array Value).toList 0 (w4.alloc (.cells #[.int .i64 0, .bool false, .bool false, .bool false, .int .i64 0, .int .i64 0, .int .i64 0, .int .i64 0, .slice none 0 0, .slice none 0 0, .int .i64 0, .int .i64 0, .int .i64 0, .bool false, .slice none 0 0, .int .i64 0, .int .i64 0, .int .i64 0, .int .i64 0, .slice none 0 0, .slice none 0 0] 43)) (Nat.le_refl _) (balloc (.cells #[.int .i64 0, .bool false, .bool false, .bool false, .int .i64 0, .int .i64 0, .int .i64 0, .int .i64 0, .slice none 0 0, .slice none 0 0, .int .i64 0, .int .i64 0, .int .i64 0, .bool false, .slice none 0 0, .int .i64 0, .int .i64 0, .int .i64 0, .int .i64 0, .slice none 0 0, .slice none 0 0] 43) (Below.refl w4.heap.size w4))
  have rr := World.rangeAt_setCells_same (w4.alloc (.cells #[.int .i64 0, .bool false, .bool false, .bool false, .int .i64 0, .int .i64 0, .int .i64 0, .int .i64 0, .slice none 0 0, .slice none 0 0, .int .i64 0, .int .i64 0, .int .i64 0, .bool false, .slice none 0 0, .int .i64 0, .int .i64 0, .int .i64 0, .int .i64 0, .slice none 0 0, .slice none 0 0] 43)) w4.heap.size 0 (#[.int .i64 me, .bool up, .bool gone, .bool gate, .int .i64 inc, .int .i64 now, .int .i64 sq, .int .i64 turn, .slice (some ⟨f1, 0, none⟩) tl tl, .slice (some ⟨f2, 0, none⟩) cl cl, .int .i64 pn, .int .i64 ps, .int .i64 pq, .bool pa, .slice (some ⟨f3, 0, none⟩) dl dl, .int .i64 cx, .int .i64 cy, .int .i64 ch, .int .i64 ce, .slice (some ⟨f4, 0, none⟩) pll pll, .slice (some ⟨f5, 0, none⟩) ol ol] : Array Value).toList hth
  have b4 := btrans (btrans b3 k4) kk
  have X4 := (X3.below k4).below kk
  have h4 := (h3.below k4).below kk
  have fM := fN.below kk
  clear b3 X3 h3 k4 R fN
  go_upto_region 7 with (refine wpList_store_mid rfl 43 _ _ rfl w4.heap.size 0 #[.int .i64 me, .bool up, .bool gone, .bool gate, .int .i64 inc, .int .i64 now, .int .i64 sq, .int .i64 turn, .slice (some ⟨f1, 0, none⟩) tl tl, .slice (some ⟨f2, 0, none⟩) cl cl, .int .i64 pn, .int .i64 ps, .int .i64 pq, .bool pa, .slice (some ⟨f3, 0, none⟩) dl dl, .int .i64 cx, .int .i64 cy, .int .i64 ch, .int .i64 ce, .slice (some ⟨f4, 0, none⟩) pll pll, .slice (some ⟨f5, 0, none⟩) ol ol] rfl rfl hth (by kernel_rfl) (by kernel_rfl) ?_)
  clear hth kk
  generalize ((w4.alloc (.cells #[.int .i64 0, .bool false, .bool false, .bool false, .int .i64 0, .int .i64 0, .int .i64 0, .int .i64 0, .slice none 0 0, .slice none 0 0, .int .i64 0, .int .i64 0, .int .i64 0, .bool false, .slice none 0 0, .int .i64 0, .int .i64 0, .int .i64 0, .int .i64 0, .slice none 0 0, .slice none 0 0] 43)).setCells w4.heap.size 0 (#[.int .i64 me, .bool up, .bool gone, .bool gate, .int .i64 inc, .int .i64 now, .int .i64 sq, .int .i64 turn, .slice (some ⟨f1, 0, none⟩) tl tl, .slice (some ⟨f2, 0, none⟩) cl cl, .int .i64 pn, .int .i64 ps, .int .i64 pq, .bool pa, .slice (some ⟨f3, 0, none⟩) dl dl, .int .i64 cx, .int .i64 cy, .int .i64 ch, .int .i64 ce, .slice (some ⟨f4, 0, none⟩) pll pll, .slice (some ⟨f5, 0, none⟩) ol ol] : Array Value).toList) = w5 at *
  generalize w4.heap.size = KX at *
  have rr' : w5.rangeAt KX 0 [.int .i64 me, .bool up, .bool gone, .bool gate, .int .i64 inc, .int .i64 now, .int .i64 sq, .int .i64 turn, .slice (some ⟨f1, 0, none⟩) tl tl, .slice (some ⟨f2, 0, none⟩) cl cl, .int .i64 pn, .int .i64 ps, .int .i64 pq, .bool pa, .slice (some ⟨f3, 0, none⟩) dl dl, .int .i64 cx, .int .i64 cy, .int .i64 ch, .int .i64 ce, .slice (some ⟨f4, 0, none⟩) pll pll, .slice (some ⟨f5, 0, none⟩) ol ol] := rr
  clear rr
  go_wp2_with (refine load43L (by rfl) (.tmp 8) rfl KX rfl [.int .i64 me, .bool up, .bool gone, .bool gate, .int .i64 inc, .int .i64 now, .int .i64 sq, .int .i64 turn, .slice (some ⟨f1, 0, none⟩) tl tl, .slice (some ⟨f2, 0, none⟩) cl cl, .int .i64 pn, .int .i64 ps, .int .i64 pq, .bool pa, .slice (some ⟨f3, 0, none⟩) dl dl, .int .i64 cx, .int .i64 cy, .int .i64 ch, .int .i64 ce, .slice (some ⟨f4, 0, none⟩) pll pll, .slice (some ⟨f5, 0, none⟩) ol ol] rr' rfl ?_)
  refine (sure27_any me up gone gate inc now sq turn (some ⟨f1, 0, none⟩) tl tl (some ⟨f2, 0, none⟩) cl cl pn ps pq pa (some ⟨f3, 0, none⟩) dl dl cx cy ch ce (some ⟨f4, 0, none⟩) pll pll (some ⟨f5, 0, none⟩) ol ol F GI fD fP fO key _ fM).mono ?_
  rintro r w6 ⟨rfl, k6⟩
  rw [nod_congr _ _ _ _ _ _ _ _ _ _ _ _ _ _ _ _ _ GD _ _ _ _ _ GP _ GO fD fP fO fd fp fo, sure_congr fd, hq.out]
  unfold sureV
  dsimp only
  have b6 := btrans b4 k6
  have X6 := X4.below k6
  have h6 := h4.below k6
  have fL := fM.below k6
  have rf := range_below' rr' k6
  have x6 := X6.range
  clear b4 X4 h4 k6 fM rr' X6
  go_upto_region 10 with fail
  clear hq
  refine wp_region_q s7_10 t7_10 (fun hbq => ?_)
  iterate 2 refine qR ?_
  refine qC (fun K hK => ?_)
  go_simp
  refine (toNode_any me up gone gate inc now sq turn ta tl tc ca cl cc pn ps pq pa da dl dc cx cy ch ce pla pll plc oa ol oc F GI GD GP GO _ ((h6.below hbq).toIn hm) (h6.below hbq).cf (h6.below hbq).ci (fun j hj => ((h6.below hbq).db j hj).2.2) (fun j hj => ((h6.below hbq).pb j hj).2.2) (fun j hj => ((h6.below hbq).ob j hj).2.2)).mono ?_; rintro r w7 ⟨g1, g2, g3, g4, g5, gD, gP, gO, rfl, gN, gd, gp, go, k7⟩
  have hED : ∀ j, DtEq (fD j) (gD j) := fun j => (fd j).symm' (gd j)
  have hEP : ∀ j, PlEq (fP j) (gP j) := fun j => (fp j).symm' (gp j)
  have hEO : ∀ j, FgEq (fO j) (gO j) := fun j => (fo j).symm' (go j)
  go_wp2_with fail
  refine hK.out _ _ (btrans hbq k7) (.inl ?_)
  clear hK K
  replace hbq := btrans hbq k7
  clear k7
  try simp only [putQ]
  refine qC (fun K hK => ?_)
  go_simp
  refine (eqNode_same me up gone gate inc now sq turn (some ⟨f1, 0, none⟩) tl tl (some ⟨f2, 0, none⟩) cl cl pn ps pq pa (some ⟨f3, 0, none⟩) dl dl cx cy ch ce (some ⟨f4, 0, none⟩) pll pll (some ⟨f5, 0, none⟩) ol ol (some ⟨g1, 0, none⟩) tl (some ⟨g2, 0, none⟩) cl (some ⟨g3, 0, none⟩) dl (some ⟨g4, 0, none⟩) pll (some ⟨g5, 0, none⟩) ol F GI fD fP fO gD gP gO _ (fL.below hbq) gN hED hEP hEO).mono ?_; rintro r w8 ⟨rfl, k8⟩
  go_wp2_with fail
  refine hK.out _ _ (btrans hbq k8) (.inl ?_)
  clear hK K
  replace hbq := btrans hbq k8
  clear k8
  try simp only [putQ]
  refine qY ?_
  refine qE ?_
  go_wp2
  go_ret
  exact ⟨rfl, (btrans b6 hbq)⟩
end Go.Proofs.YtnplhfgdbabmaaaGreat
