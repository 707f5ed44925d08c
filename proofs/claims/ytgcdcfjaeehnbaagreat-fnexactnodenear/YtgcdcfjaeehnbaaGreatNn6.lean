/- Who is near, by the model. -/
import Derived.Test.YtgcdcfjaeehnbaaGreatNn
import Derived.Test.YtgcdcfjaeehnbaaGreatNd12
import Derived.Laws.AppendOwn
import Derived.Lib.OwnBridge
namespace Go.Proofs.YtgcdcfjaeehnbaaGreat
open Go.ChangeShapes Go.WideShapes Go.ChangeAt Go.RowKit
attribute [local go_sem ↓] Go.wp_at_zero Go.wp_at_succ
theorem QB1 {a w : World} (h : Below a.heap.size a w) : Below a.heap.size a w.drew := ⟨h.os, h.tape, h.output, h.size, h.block⟩
theorem QB' {a w : World} {B : Nat} (h : Below B a w) : Below B a w := h
theorem keep_grown' {w w' : World} {r b o : Nat} {v : Value} (hg : w.grownBy w' (some r)) (hb : b ≠ r) (h : w.cell? ⟨b, o, none⟩ = some v) : w'.cell? ⟨b, o, none⟩ = some v := hg.cell h (by simpa using hb)
theorem own_lv {w : World} {base g n cap : Nat} {L : List Int} (h : w.ownsRow base 3 1 (.slice (some ⟨g, 0, none⟩) n cap) n (lv L)) (j : Nat) (hj : j < n) : w.cell? ⟨g, j, none⟩ = some (.int .i64 (L.getD j 0)) := by
  have hl : L.length = n := by have := h.1; simpa [lv] using this
  rw [h.cellAt j (by omega)]
  simp [lv, List.getD, show j < L.length by omega]
theorem own_pre {w : World} {base g n cap : Nat} {L : List Int} (h : w.ownsRow base 3 1 (.slice (some ⟨g, 0, none⟩) n cap) n (lv L)) (m : Nat) (hm : m ≤ n) : w.ownsRow base 3 1 (.slice (some ⟨g, 0, none⟩) m cap) m (lv (L.take m)) := by
  have hl : L.length = n := by have := h.1; simpa [lv] using this
  refine ⟨by simp [lv]; omega, ?_⟩
  rcases h.2 with ⟨e, _⟩ | ⟨g', cap', cur, e, h1, h2, h3, h4, h5, h6⟩
  · cases e
  · cases e
    refine .inr ⟨g, cap, cur, rfl, h1, h2, by omega, h4, h5, ?_⟩
    have := congrArg (List.take (m * 1)) h6
    rw [List.take_take, show min (m * 1) (n * 1) = m * 1 by omega] at this
    rw [this]
    simp [lv, List.map_take]
theorem cn_of (X : Int) : ∀ (L : List Int) (k : Nat), k ≤ L.length → (∀ j, j < k → L.getD j 0 ≤ X) → (k < L.length → ¬ L.getD k 0 ≤ X) → k = cn X L
  | [], k, h, _, _ => by simp at h; simp [cn, h]
  | y :: r, k, h, h1, h2 => by
    unfold cn
    rcases k with _ | k
    · have := h2 (by simp)
      simp at this
      rw [if_neg (by omega)]
    · have h3 := h1 0 (by omega)
      simp at h3
      rw [if_pos h3, ← cn_of X r k (by simpa using h) (fun j hj => by have := h1 (j + 1) (by omega); simpa using this) (fun hk => by have := h2 (by simp; omega); simpa using this)]
theorem step_app {w : World} {ops : Array Oper} {o : Oper} {a : Act} {K : Act → World → Prop} {Q : Exit → Act → World → Prop} {E : Prop} (hgd : o.guard = none) (s x : Operand)
    (ho : o.op = .call { callee := .builtin .append, args := #[s, x], argTypes := #[54, 54] })
    (base : Nat) (v : Value) (n : Nat) (L : List Int) (hs : a.eval s = v) (hv : v ≠ .slice none 0 0) (hown : w.ownsRow base 3 1 v n (lv L))
    (ao : Option Addr) (g o' : Nat) (hao : ao = some ⟨g, o', none⟩) (m c : Nat) (L' : List Int) (hx : a.eval x = .slice ao m c) (hl : L'.length = m)
    (hnews : ∀ j, j < m → w.cell? ⟨g, o' + j, none⟩ = some (.int .i64 (L'.getD j 0))) (nm : Nat) (hnm : n + m = nm) (hn : nm ≤ 100) (hbase : base ≤ w.heap.size)
    (h : ∀ g' cap' w', w'.ownsRow base 3 1 (.slice (some ⟨g', 0, none⟩) nm cap') nm (lv (L ++ L')) → w.grownBy w' v.ownBlock → nm ≤ cap' → K (a.put o.dst (.slice (some ⟨g', 0, none⟩) nm cap')) w') :
    if Region.wanted o (yielded ops a.tmps) = true then Oper.wp Tryz.prog o a w K Q else E := by
  have hw : Region.wanted o (yielded ops a.tmps) = true := by simp [Region.wanted, hgd]
  rw [if_pos hw]
  subst hao hnm
  obtain ⟨ti, hi, hz0, hz1, hz2⟩ := info_parts info3
  refine wp_append_own w s x 54 ho base 3 ti (.int .i64 0) 1 8 Tryz.underlying54 hi hz0 hz1 hz2 rfl (by decide) v n (lv L) hs hown ⟨g, o', none⟩ m c (lv L') hx (by simp [lv, hl]) (fun j u hj => ?_) (fun u hu => ?_) (by unfold maxLen; omega) (by omega) hbase (fun v' w' h1 h2 h3 => ?_)
  · have hj' : j < m := by
      have := (List.getElem?_eq_some_iff.1 hj).1
      simp [lv] at this
      omega
    have e : (⟨g, o', none⟩ : Addr).add j = ⟨g, o' + j, none⟩ := by unfold Addr.add; split <;> simp_all
    rw [e, hnews j hj', ← hj]
    simp [lv, List.getD, show j < L'.length by omega]
  · obtain ⟨y, _, rfl⟩ := List.mem_map.1 hu
    rfl
  · rw [← show lv (L ++ L') = lv L ++ lv L' by simp [lv]] at h1
    obtain ⟨g', cap', rfl, _, _, hc, _⟩ := Lib.holds_of_ownsRow (enc := Value.int .i64) (zs := L ++ L') h1 (fun e => hv (h3.1 e).1)
    exact h g' cap' w' h1 h2 hc
theorem tkIns {P : Program} {ops : Array Oper} {Q : Exit → Act → World → Prop} {S : World → Prop} {md : Region.Mode} (i : Nat) {oi : Oper} {v : Value} {fuel : Nat} {listed : Array Bool} {a : Act} {w : World} (hi : ops[i]? = some oi) (hy : YieldsIf P ops S oi v a) (hS : S w)
    (h : wpAnyH P md ops Q S fuel (listed.setIfInBounds i true) (a.put oi.dst v) w) (hs : Region.noSelect ops = true := by kernel_rfl) (hf : Region.free md ops listed i = true := by kernel_rfl) (hr : (Region.ready md ops listed).contains i = true := by kernel_rfl)
    (hQ : ∀ c a w, Q (.panic c) (a.put oi.dst v) w → Q (.panic c) a w := by exact fun _ _ _ h => h) : wpAnyH P md ops Q S (fuel + 1) listed a w := wpAnyH_take hi hs hf hr hQ hy hS h
theorem nodeOk28_litN (me : Int) (up gone gate : Bool) (inc now sq turn : Int) (ta : Option Addr) (tl tc : Nat) (ca : Option Addr) (cl cc : Nat) (pn ps pq : Int) (pa : Bool) (da : Option Addr) (dl dc : Nat) (cx cy ch ce : Int) (pla : Option Addr) (pll plc : Nat) (oa : Option Addr) (ol oc : Nat) (F : Nat → Fc) (GI : Nat → It) (GD : Nat → Dt) (GP : Nat → Pl) (GO : Nat → Fg) (b : Bool) (hb : snodB me up gone gate inc now sq turn tl F cl GI pn ps pq pa dl GD cx cy ch ce pll GP ol GO = b) (w : World) (h : NdIn w ta tl F ca cl GI da dl GD pla pll GP oa ol GO) :
    Calls Tryz.prog 28 #[.agg #[.int .i64 me, .bool up, .bool gone, .bool gate, .int .i64 inc, .int .i64 now, .int .i64 sq, .int .i64 turn, .slice ta tl tc, .slice ca cl cc, .int .i64 pn, .int .i64 ps, .int .i64 pq, .bool pa, .slice da dl dc, .int .i64 cx, .int .i64 cy, .int .i64 ch, .int .i64 ce, .slice pla pll plc, .slice oa ol oc]] w fun r w' => r = .returned (.bool b) ∧ Below w.heap.size w w' := hb ▸ nodeOk9_any me up gone gate inc now sq turn ta tl tc ca cl cc pn ps pq pa da dl dc cx cy ch ce pla pll plc oa ol oc F GI GD GP GO w h
def s18_2 : List Stp := [⟨some 12, .load 42 (.tmp 2), 42, none, 0⟩, ⟨some 13, .call { callee := .value (.func 28), args := #[.tmp 12], argTypes := #[42] }, 4, none, 1⟩, ⟨some 14, .unOp .not 4 (.tmp 13), 4, none, 0⟩, ⟨some 15, .move (.tmp 14), 4, none, 0⟩, ⟨some 16, .fieldAddr 42 (.tmp 2) 1, 0, some (15, false), 0⟩, ⟨some 17, .load 4 (.tmp 16), 4, some (15, false), 0⟩, ⟨some 18, .unOp .not 4 (.tmp 17), 4, some (15, false), 0⟩, ⟨some 19, .pick (.tmp 15) (.const (.bool true)) (.tmp 18), 4, none, 0⟩]
def t18_2 : List (Nat × Nat) := [(0, 0), (1, 1), (2, 0), (3, 0), (4, 0), (5, 0), (6, 0), (7, 0)]
def s18_8 : List Stp := [⟨some 29, .fieldAddr 42 (.tmp 2) 8, 0, none, 0⟩, ⟨some 30, .load 34 (.tmp 29), 34, none, 0⟩, ⟨some 31, .fieldAddr 42 (.tmp 2) 13, 0, none, 0⟩, ⟨some 32, .load 39 (.tmp 31), 39, none, 0⟩, ⟨some 33, .move (.tmp 7), 3, none, 0⟩, ⟨some 34, .indexAddr 39 (.tmp 32) (.tmp 33), 0, none, 0⟩, ⟨some 35, .fieldAddr 103 (.tmp 34) 0, 0, none, 0⟩, ⟨some 36, .load 3 (.tmp 35), 3, none, 0⟩, ⟨some 37, .call { callee := .value (.func 71), args := #[.tmp 30, .tmp 36], argTypes := #[34, 3] }, 3, none, 1⟩, ⟨some 8, .assign (.tmp 37), 3, none, 0⟩]
def t18_8 : List (Nat × Nat) := [(0, 0), (1, 0), (2, 0), (3, 0), (4, 0), (5, 0), (6, 0), (7, 0), (8, 1), (9, 0)]
def s18_9 : List Stp := [⟨some 38, .move (.tmp 8), 3, none, 0⟩, ⟨some 39, .binOp .lss 3 (.tmp 38) (.const (.int .i64 0)) 3, 4, none, 2⟩, ⟨some 40, .move (.tmp 39), 4, none, 0⟩, ⟨some 41, .fieldAddr 42 (.tmp 2) 8, 0, some (40, false), 0⟩, ⟨some 42, .load 34 (.tmp 41), 34, some (40, false), 0⟩, ⟨some 43, .move (.tmp 8), 3, some (40, false), 0⟩, ⟨some 44, .indexAddr 34 (.tmp 42) (.tmp 43), 0, some (40, false), 0⟩, ⟨some 45, .fieldAddr 96 (.tmp 44) 2, 0, some (40, false), 0⟩, ⟨some 46, .load 3 (.tmp 45), 3, some (40, false), 0⟩, ⟨some 47, .binOp .neq 3 (.tmp 46) (.const (.int .i64 1)) 3, 4, some (40, false), 2⟩, ⟨some 48, .pick (.tmp 40) (.const (.bool true)) (.tmp 47), 4, none, 0⟩]
def t18_9 : List (Nat × Nat) := [(0, 0), (1, 2), (2, 0), (3, 0), (4, 0), (5, 0), (6, 0), (7, 0), (8, 0), (9, 2), (10, 0)]
def s18_10 : List Stp := [⟨some 49, .fieldAddr 42 (.tmp 2) 12, 0, none, 0⟩, ⟨some 50, .load 38 (.tmp 49), 38, none, 0⟩, ⟨some 51, .fieldAddr 42 (.tmp 2) 13, 0, none, 0⟩, ⟨some 52, .load 39 (.tmp 51), 39, none, 0⟩, ⟨some 53, .move (.tmp 7), 3, none, 0⟩, ⟨some 54, .indexAddr 39 (.tmp 52) (.tmp 53), 0, none, 0⟩, ⟨some 55, .fieldAddr 103 (.tmp 54) 1, 0, none, 0⟩, ⟨some 56, .load 38 (.tmp 55), 38, none, 0⟩, ⟨some 57, .call { callee := .value (.func 72), args := #[.tmp 50, .tmp 56], argTypes := #[38, 38] }, 3, none, 1⟩, ⟨some 9, .assign (.tmp 57), 3, none, 0⟩]
def t18_10 : List (Nat × Nat) := [(0, 0), (1, 0), (2, 0), (3, 0), (4, 0), (5, 0), (6, 0), (7, 0), (8, 1), (9, 0)]
set_option linter.unusedSimpArgs false in
set_option maxRecDepth 20000 in
set_option maxHeartbeats 8000000 in
theorem near18_any (me : Int) (up gone gate : Bool) (inc now sq turn : Int) (ta : Option Addr) (tl tc : Nat) (ca : Option Addr) (cl cc : Nat) (pn ps pq : Int) (pa : Bool) (da : Option Addr) (dl dc : Nat) (cx cy ch ce : Int) (pla : Option Addr) (pll plc : Nat) (oa : Option Addr) (ol oc : Nat) (F : Nat → Fc) (GI : Nat → It) (GD : Nat → Dt) (GP : Nat → Pl) (GO : Nat → Fg) (most : Int) (w : World) (h : NdIn w ta tl F ca cl GI da dl GD pla pll GP oa ol GO) :
    Calls Tryz.prog 18 #[.agg #[.int .i64 me, .bool up, .bool gone, .bool gate, .int .i64 inc, .int .i64 now, .int .i64 sq, .int .i64 turn, .slice ta tl tc, .slice ca cl cc, .int .i64 pn, .int .i64 ps, .int .i64 pq, .bool pa, .slice da dl dc, .int .i64 cx, .int .i64 cy, .int .i64 ch, .int .i64 ce, .slice pla pll plc, .slice oa ol oc], .int .i64 most] w fun e w' => GaR e w.heap.size w' (neaL (snodB me up gone gate inc now sq turn tl F cl GI pn ps pq pa dl GD cx cy ch ce pll GP ol GO) up most cx cy ch ce tl F pll GP) ∧ Below w.heap.size w w' := by
  go_enter Tryz.func18, Tryz.ntmps18
  go_upto_region 2 with fail
  have kA := balloc (.cells #[.int .i64 me, .bool up, .bool gone, .bool gate, .int .i64 inc, .int .i64 now, .int .i64 sq, .int .i64 turn, .slice ta tl tc, .slice ca cl cc, .int .i64 pn, .int .i64 ps, .int .i64 pq, .bool pa, .slice da dl dc, .int .i64 cx, .int .i64 cy, .int .i64 ch, .int .i64 ce, .slice pla pll plc, .slice oa ol oc] 42) (Below.refl w.heap.size w)
  have b0 := balloc (.cells #[] 3) kA
  have X := (Ws.box (w := w) #[.int .i64 me, .bool up, .bool gone, .bool gate, .int .i64 inc, .int .i64 now, .int .i64 sq, .int .i64 turn, .slice ta tl tc, .slice ca cl cc, .int .i64 pn, .int .i64 ps, .int .i64 pq, .bool pa, .slice da dl dc, .int .i64 cx, .int .i64 cy, .int .i64 ch, .int .i64 ce, .slice pla pll plc, .slice oa ol oc] 42).alloc (.cells #[] 3)
  have o0 : ((w.alloc (.cells #[.int .i64 me, .bool up, .bool gone, .bool gate, .int .i64 inc, .int .i64 now, .int .i64 sq, .int .i64 turn, .slice ta tl tc, .slice ca cl cc, .int .i64 pn, .int .i64 ps, .int .i64 pq, .bool pa, .slice da dl dc, .int .i64 cx, .int .i64 cy, .int .i64 ch, .int .i64 ce, .slice pla pll plc, .slice oa ol oc] 42)).alloc (.cells #[] 3)).ownsRow w.heap.size 3 1 (.slice (some ⟨(w.alloc (.cells #[.int .i64 me, .bool up, .bool gone, .bool gate, .int .i64 inc, .int .i64 now, .int .i64 sq, .int .i64 turn, .slice ta tl tc, .slice ca cl cc, .int .i64 pn, .int .i64 ps, .int .i64 pq, .bool pa, .slice da dl dc, .int .i64 cx, .int .i64 cy, .int .i64 ch, .int .i64 ce, .slice pla pll plc, .slice oa ol oc] 42)).heap.size, 0, none⟩) 0 0) 0 (lv []) := World.ownsRow_lit (w.alloc (.cells #[.int .i64 me, .bool up, .bool gone, .bool gate, .int .i64 inc, .int .i64 now, .int .i64 sq, .int .i64 turn, .slice ta tl tc, .slice ca cl cc, .int .i64 pn, .int .i64 ps, .int .i64 pq, .bool pa, .slice da dl dc, .int .i64 cx, .int .i64 cy, .int .i64 ch, .int .i64 ce, .slice pla pll plc, .slice oa ol oc] 42)) #[] 0 kA.size (by unfold maxLen; omega) rfl
  rw [show (w.alloc (.cells #[.int .i64 me, .bool up, .bool gone, .bool gate, .int .i64 inc, .int .i64 now, .int .i64 sq, .int .i64 turn, .slice ta tl tc, .slice ca cl cc, .int .i64 pn, .int .i64 ps, .int .i64 pq, .bool pa, .slice da dl dc, .int .i64 cx, .int .i64 cy, .int .i64 ch, .int .i64 ce, .slice pla pll plc, .slice oa ol oc] 42)).heap.size = w.heap.size + 1 by simp] at o0
  clear kA
  generalize (w.alloc (.cells #[.int .i64 me, .bool up, .bool gone, .bool gate, .int .i64 inc, .int .i64 now, .int .i64 sq, .int .i64 turn, .slice ta tl tc, .slice ca cl cc, .int .i64 pn, .int .i64 ps, .int .i64 pq, .bool pa, .slice da dl dc, .int .i64 cx, .int .i64 cy, .int .i64 ch, .int .i64 ce, .slice pla pll plc, .slice oa ol oc] 42)).alloc (.cells #[] 3) = u at *
  have h0 := h.below b0
  obtain ⟨xb, hxb⟩ : ∃ x, Hid (w.heap.size = x) := ⟨_, rfl⟩
  obtain ⟨xe, hxe⟩ : ∃ x, Hid (w.heap.size + 1 = x) := ⟨_, rfl⟩
  rw [hxe.out] at o0 ⊢
  rw [hxb.out] at X ⊢
  have r0 : u.rangeAt xb 0 [.int .i64 me, .bool up, .bool gone, .bool gate, .int .i64 inc, .int .i64 now, .int .i64 sq, .int .i64 turn, .slice ta tl tc, .slice ca cl cc, .int .i64 pn, .int .i64 ps, .int .i64 pq, .bool pa, .slice da dl dc, .int .i64 cx, .int .i64 cy, .int .i64 ch, .int .i64 ce, .slice pla pll plc, .slice oa ol oc] := X.range
  have d1 := X.c 1 (.bool up) rfl
  clear h
  cases zb0 : snodB me up gone gate inc now sq turn tl F cl GI pn ps pq pa dl GD cx cy ch ce pll GP ol GO
  · have yb0 : Hid (snodB me up gone gate inc now sq turn tl F cl GI pn ps pq pa dl GD cx cy ch ce pll GP ol GO = false) := zb0
    clear zb0
    refine wp_region_q0 s18_2 t18_2 (fun hbq => ?_)
    refine qR ?_
    refine qC (fun K hK => ?_)
    go_simp
    refine (nodeOk28_litN me up gone gate inc now sq turn ta tl tc ca cl cc pn ps pq pa da dl dc cx cy ch ce pla pll plc oa ol oc F GI GD GP GO false yb0.out _ (h0.below hbq)).mono ?_; rintro r w5 ⟨rfl, k5⟩
    go_wp2_with fail
    refine hK.out _ _ (btrans hbq k5) (.inl ?_)
    clear hK K
    replace hbq := btrans hbq k5
    clear k5
    try simp only [putQ]
    iterate 2 refine qY ?_
    iterate 3 refine qN ?_
    refine qY ?_
    refine qE ?_
    have o1 := own_below o0 hbq
    go_wp2
    try simp only [Exit.inBlock, Exit.then]
    exact bodyPost_ret (v := .slice (some ⟨xe, 0, none⟩) 0 0) (by simp [results, Tryz.results18, go_sem]) rfl ⟨⟨_, rfl, by rw [neaL, yb0.out]; exact o1⟩, btrans b0 hbq⟩
  · have yb0 : Hid (snodB me up gone gate inc now sq turn tl F cl GI pn ps pq pa dl GD cx cy ch ce pll GP ol GO = true) := zb0
    clear zb0
    cases up
    · skip
      refine wp_region_q0 s18_2 t18_2 (fun hbq => ?_)
      refine qR ?_
      refine qC (fun K hK => ?_)
      go_simp
      refine (nodeOk28_litN me false gone gate inc now sq turn ta tl tc ca cl cc pn ps pq pa da dl dc cx cy ch ce pla pll plc oa ol oc F GI GD GP GO true yb0.out _ (h0.below hbq)).mono ?_; rintro r w5 ⟨rfl, k5⟩
      go_wp2_with fail
      refine hK.out _ _ (btrans hbq k5) (.inl ?_)
      clear hK K
      replace hbq := btrans hbq k5
      clear k5
      try simp only [putQ]
      iterate 3 refine qY ?_
      refine qL ?_
      iterate 2 refine qY ?_
      refine qE ?_
      have o1 := own_below o0 hbq
      go_wp2
      try simp only [Exit.inBlock, Exit.then]
      exact bodyPost_ret (v := .slice (some ⟨xe, 0, none⟩) 0 0) (by simp [results, Tryz.results18, go_sem]) rfl ⟨⟨_, rfl, by rw [neaL, yb0.out]; exact o1⟩, btrans b0 hbq⟩
    · skip
      refine wp_region_q0 s18_2 t18_2 (fun hbq => ?_)
      refine qR ?_
      refine qC (fun K hK => ?_)
      go_simp
      refine (nodeOk28_litN me true gone gate inc now sq turn ta tl tc ca cl cc pn ps pq pa da dl dc cx cy ch ce pla pll plc oa ol oc F GI GD GP GO true yb0.out _ (h0.below hbq)).mono ?_; rintro r w5 ⟨rfl, k5⟩
      go_wp2_with fail
      refine hK.out _ _ (btrans hbq k5) (.inl ?_)
      clear hK K
      replace hbq := btrans hbq k5
      clear k5
      try simp only [putQ]
      iterate 3 refine qY ?_
      refine qL ?_
      iterate 2 refine qY ?_
      refine qE ?_
      have b1 := btrans b0 hbq
      have h1 := h0.below hbq
      have o1 := own_below o0 hbq
      have h3 : pll ≤ 3 := nod_three me true gone gate inc now sq turn tl F cl GI pn ps pq pa dl GD cx cy ch ce pll GP ol GO (by rw [nod_same]; exact yb0.out) rfl
      have X1 := X.below hbq
      have d8 := X1.c 8 (.slice ta tl tc) rfl
      have d15 := X1.c 15 (.int .i64 cx) rfl
      have d16 := X1.c 16 (.int .i64 cy) rfl
      have d17 := X1.c 17 (.int .i64 ch) rfl
      have d18 := X1.c 18 (.int .i64 ce) rfl
      have d19 := X1.c 19 (.slice pla pll plc) rfl
      have rc : w5.rangeAt xb 15 [.int .i64 cx, .int .i64 cy, .int .i64 ch, .int .i64 ce] := range4 d15 d16 d17 d18
      have hL : Hid (neaL (snodB me true gone gate inc now sq turn tl F cl GI pn ps pq pa dl GD cx cy ch ce pll GP ol GO) true most cx cy ch ce tl F pll GP = nrL most cx cy ch ce tl F pll GP) := by rw [Hid, neaL, yb0.out]; rfl
      have hbase0 : w.heap.size ≤ w5.heap.size := b1.size
      clear hbq h0 b0 r0 X d1 yb0 X1 d15 d16 d17 d18 o0
      go_upto_region 5 with fail
      have kA := balloc (.cells #[] 3) (Below.refl w5.heap.size w5)
      have oF0 : (w5.alloc (.cells #[] 3)).ownsRow w.heap.size 3 1 (.slice (some ⟨w5.heap.size, 0, none⟩) 0 0) 0 (lv []) := World.ownsRow_lit w5 #[] 0 hbase0 (by unfold maxLen; omega) rfl
      have oO0 := own_below o1 kA
      have b2 := btrans b1 kA
      have h2 := h1.below kA
      have d8a := keep_below kA d8
      have d19a := keep_below kA d19
      have rca : (w5.alloc (.cells #[] 3)).rangeAt xb 15 [.int .i64 cx, .int .i64 cy, .int .i64 ch, .int .i64 ce] := fun j v hv => keep_below kA (rc j v hv)
      have hbase : w.heap.size ≤ (w5.alloc (.cells #[] 3)).heap.size := by have := kA.size; omega
      clear kA o1 b1 h1 d8 d19 rc hbase0
      generalize w5.alloc (.cells #[] 3) = V0 at *
      have hF := h2.f
      have hlf := h2.hf
      have hP := h2.p
      clear h2
      go_wp2_with fail
      go_loopw [5, 6, 7] (fun vo vf iv wr => ∃ (i : Nat) (gf cf go co n : Nat) (Lf Lo : List Int), i ≤ pll ∧ iv = .int .i64 i ∧ vf = .slice (some ⟨gf, 0, none⟩) n cf ∧ n ≤ cf ∧ vo = .slice (some ⟨go, 0, none⟩) n co ∧ n ≤ co ∧ n ≤ i ∧ wr.ownsRow w.heap.size 3 1 (.slice (some ⟨gf, 0, none⟩) n cf) n (lv Lf) ∧ wr.ownsRow w.heap.size 3 1 (.slice (some ⟨go, 0, none⟩) n co) n (lv Lo) ∧ Lf = (spL (far cx cy ch ce GP) (alv tl F GP) i).map (far cx cy ch ce GP) ∧ Lo = (spL (far cx cy ch ce GP) (alv tl F GP) i).map (fun j => (GP j).n) ∧ Lf.length = n ∧ Below V0.heap.size V0 wr) (fun _ _ iv _ => pll - (intOf iv).toNat)
      case atStart => exact ⟨0, _, 0, _, 0, 0, [], [], by omega, rfl, rfl, Nat.le_refl _, rfl, Nat.le_refl _, Nat.le_refl _, oF0, oO0, rfl, rfl, rfl, Below.refl _ _⟩
      case round =>
        obtain ⟨i, gf, cf, go, co, n, Lf, Lo, hi3, rfl, rfl, hcf, rfl, hco, hni, oF1, oO1, eF, eO, hlF, hb1⟩ := hrel
        by_cases hlt : i < pll
        · obtain ⟨b, off, rfl, hbl, hf⟩ := hP (by omega)
          obtain ⟨c0, c1, c2, c3, c4, _⟩ := (hf.below hb1 hbl) i hlt
          have i0 : (0 : Int) ≤ (i : Int) := by omega
          have i1 : (i : Int) < (pll : Int) := by omega
          have d8b := keep_below hb1 d8a
          have d19b := keep_below hb1 d19a
          have rcb : wr.rangeAt xb 15 [.int .i64 cx, .int .i64 cy, .int .i64 ch, .int .i64 ce] := fun j v hv => keep_below hb1 (rca j v hv)
          have rp : wr.rangeAt b (off + i * 6 + 1) [.int .i64 (GP i).x, .int .i64 (GP i).y, .int .i64 (GP i).h, .int .i64 (GP i).e] := range4 c1 c2 c3 c4
          have hFb := hF.below hb1
          have hlo : Lo.length = n := by rw [← hlF, eF, eO]; simp
          have hal : Hid (alv tl F GP i = (stn tl F (GP i).n == 1)) := rfl
          have hX0 : Hid (far cx cy ch ce GP i = Cd.dst cx cy ch ce (GP i).x (GP i).y (GP i).h (GP i).e) := rfl
          have hno : Hid (alv tl F GP i = false → spL (far cx cy ch ce GP) (alv tl F GP) (i + 1) = spL (far cx cy ch ce GP) (alv tl F GP) i) := fun e => by rw [spL, e]; rfl
          have hyes : Hid (alv tl F GP i = true → spL (far cx cy ch ce GP) (alv tl F GP) (i + 1) = insP (far cx cy ch ce GP) (spL (far cx cy ch ce GP) (alv tl F GP) i) i) := fun e => by rw [spL, e]; rfl
          obtain ⟨n1, hn1⟩ : ∃ n1, Hid ((GP i).n = n1) := ⟨_, rfl⟩
          rw [hn1.out] at c0 hal
          obtain ⟨X, hX⟩ : ∃ X, Hid (far cx cy ch ce GP i = X) := ⟨_, rfl⟩
          clear c1 c2 c3 c4 hf hP hF oF0 oO0 d8a d19a rca
          have eF' : Hid _ := eF
          have eO' : Hid _ := eO
          clear eF eO
          go_upto_region 8 with fail
          refine wp_region_q s18_8 t18_8 (fun hbq => ?_)
          refine qY ?_
          refine qL ?_
          refine qY ?_
          refine qL ?_
          iterate 3 refine qY ?_
          refine qL ?_
          refine qC (fun K hK => ?_)
          go_simp
          refine (sfind_any ta tl tc F n1 _ (hFb.below hbq) hlf).mono ?_; rintro r v1 ⟨rfl, k1⟩
          go_wp2_with fail
          refine hK.out _ _ (btrans hbq k1) (.inl ?_)
          clear hK K
          replace hbq := btrans hbq k1
          clear k1
          try simp only [putQ]
          refine qY ?_
          refine qE ?_
          have hb2 := btrans hb1 hbq
          have oF2 := own_below oF1 hbq
          have oO2 := own_below oO1 hbq
          have d8c := keep_below hbq d8b
          have d19c := keep_below hbq d19b
          have rcc : v1.rangeAt xb 15 [.int .i64 cx, .int .i64 cy, .int .i64 ch, .int .i64 ce] := fun j v hv => keep_below hbq (rcb j v hv)
          have rpc : v1.rangeAt b (off + i * 6 + 1) [.int .i64 (GP i).x, .int .i64 (GP i).y, .int .i64 (GP i).h, .int .i64 (GP i).e] := fun j v hv => keep_below hbq (rp j v hv)
          have c0c := keep_below hbq c0
          have hFc := hFb.below hbq
          clear oF1 oO1 d8b d19b rcb rp c0 hFb hb1 hbq
          cases hfn : fnd tl F n1 with
          | none =>
            have ha : alv tl F GP i = false := by rw [hal.out, stn, hfn]; rfl
            have hS := hno.out ha
            simp only [fndI]
            clear hno hyes hal hX0 hfn ha rcc rpc c0c hFc
            go_wp2
            go_roundw
            case rel => exact ⟨i + 1, gf, cf, go, co, n, Lf, Lo, by omega, by go_num, rfl, hcf, rfl, hco, by omega, oF2, oO2, by rw [hS]; exact eF'.out, by rw [hS]; exact eO'.out, hlF, hb2⟩
            case measure => simp [intOf]; omega
          | some q =>
            have hq := fnd_lt hfn
            obtain ⟨bt, ot, hta, hbt, hft⟩ := hFc (by omega)
            obtain ⟨_, _, t2, _⟩ := hft q hq
            subst hta
            have hal2 : Hid (alv tl F GP i = ((F q).s == 1)) := by rw [Hid, hal.out, stn, hfn]; rfl
            simp only [fndI]
            have j0 : (0 : Int) ≤ (q : Int) := by omega
            have j1 : (q : Int) < (tl : Int) := by omega
            clear hal hFc hft hfn
            generalize (F q).s = sq' at *
            have t2' : v1.cell? ⟨bt, ot + q * 4 + 2, none⟩ = some (.int .i64 sq') := t2
            clear t2
            by_cases e1 : sq' = 1
            · have hS := hyes.out (by rw [hal2.out]; simpa using e1)
              clear hno hyes hal2
              go_upto_region 9 with fail
              refine wp_region_q0 s18_9 t18_9 (fun hbq => ?_)
              refine qY ?_
              refine qV (.bool false) ?_ (by (intro w; go_simp; all_goals (first | with_reducible rfl | (simp; omega; done) | assumption | (simp; done) | (simp; omega))))
              iterate 2 refine qY ?_
              refine qL ?_
              iterate 3 refine qY ?_
              refine qL ?_
              refine qV (.bool false) ?_ (by (intro w; go_simp; all_goals (first | with_reducible rfl | (simp [e1]; done) | assumption | (simp; done) | (simp; omega))))
              refine qY ?_
              refine qE ?_
              clear hbq t2'
              go_upto_region 10 with fail
              refine wp_region_q s18_10 t18_10 (fun hbq => ?_)
              refine qY ?_
              refine qR ?_
              refine qY ?_
              refine qL ?_
              iterate 3 refine qY ?_
              refine qR ?_
              refine qC (fun K hK => ?_)
              go_simp
              refine (Cd.sdist_any cx cy ch ce (GP i).x (GP i).y (GP i).h (GP i).e _).mono ?_; rintro r v2 ⟨rfl, k2⟩; rw [← hX0.out, hX.out]
              go_wp2_with fail
              refine hK.out _ _ (btrans hbq k2) (.inl ?_)
              clear hK K
              replace hbq := btrans hbq k2
              clear k2
              try simp only [putQ]
              refine qY ?_
              refine qE ?_
              have hb3 := btrans hb2 hbq
              have oF3 := own_below oF2 hbq
              have oO3 := own_below oO2 hbq
              have d19d := keep_below hbq d19c
              have c0d := keep_below hbq c0c
              have hstep : Hid (spL (far cx cy ch ce GP) (alv tl F GP) (i + 1) = insP (far cx cy ch ce GP) (spL (far cx cy ch ce GP) (alv tl F GP) i) i) := hS
              clear hS hX0 oF2 oO2 d8c d19c rcc rpc c0c hb2 hbq
              go_wp2_with fail
              go_loopw [10] (fun kv wr2 => ∃ k : Nat, k ≤ n ∧ kv = .int .i64 k ∧ wr2.ownsRow w.heap.size 3 1 (.slice (some ⟨gf, 0, none⟩) n cf) n (lv Lf) ∧ wr2.ownsRow w.heap.size 3 1 (.slice (some ⟨go, 0, none⟩) n co) n (lv Lo) ∧ wr2.cell? ⟨xb, 19, none⟩ = some (.slice (some ⟨b, off, none⟩) pll plc) ∧ wr2.cell? ⟨b, off + i * 6, none⟩ = some (.int .i64 n1) ∧ Below V0.heap.size V0 wr2 ∧ ∀ j, j < k → Lf.getD j 0 ≤ X) (fun kv _ => n - (intOf kv).toNat)
              case atStart => exact ⟨0, by omega, rfl, oF3, oO3, d19d, c0d, hb3, fun j hj => by omega⟩
              case round =>
                obtain ⟨k, hki, rfl, oF2, oO2, d19k, c0k, hb2, hall⟩ := hrel
                clear oF3 oO3 d19d c0d hb3
                have i6 : (0 : Int) ≤ (k : Int) := by omega
                have hnew0 : Hid ((k < n → ¬ Lf.getD k 0 ≤ X) → Lf.take k ++ [X] ++ Lf.drop k = (insP (far cx cy ch ce GP) (spL (far cx cy ch ce GP) (alv tl F GP) i) i).map (far cx cy ch ce GP) ∧ Lo.take k ++ [n1] ++ Lo.drop k = (insP (far cx cy ch ce GP) (spL (far cx cy ch ce GP) (alv tl F GP) i) i).map (fun j => (GP j).n) ∧ (Lf.take k ++ [X] ++ Lf.drop k).length = n + 1) := fun hx => by
                  have hk : k = cn X Lf := cn_of X Lf k (by omega) hall (fun h => hx (by omega))
                  have hL2 := eF'.out
                  have hL3 := eO'.out
                  refine ⟨?_, ?_, by simp; omega⟩
                  · rw [hL2, insP, hX.out, ← hL2, ← hk]
                    simp [hL2, hX.out]
                  · rw [hL3, insP, hX.out, ← hL2, ← hk]
                    simp [hn1.out]
                by_cases hlk : k < n
                · obtain ⟨Y, hY⟩ : ∃ Y, Hid (Lf.getD k 0 = Y) := ⟨_, rfl⟩
                  have e0 := own_lv oF2 k hlk
                  rw [hY.out] at e0
                  have i7 : (k : Int) < (n : Int) := by omega
                  by_cases hle : Y ≤ X
                  · clear hnew0
                    go_wp2
                    go_roundw
                    case rel => exact ⟨k + 1, by omega, by go_num, oF2, oO2, d19k, c0k, hb2, fun j hj => by
                      by_cases e : j = k
                      · subst e; rw [hY.out]; exact hle
                      · exact hall j (by omega)⟩
                    case measure => simp [intOf]; omega
                  · have hnew : Hid _ := hnew0.out (fun _ => by rw [hY.out]; exact hle)
                    clear hnew0
                    have hb5 : Below V0.heap.size V0 (wr) := QB' hb2
                    have oF5 : (wr).ownsRow w.heap.size 3 1 (.slice (some ⟨gf, 0, none⟩) n cf) n (lv Lf) := oF2
                    have oO5 : (wr).ownsRow w.heap.size 3 1 (.slice (some ⟨go, 0, none⟩) n co) n (lv Lo) := oO2
                    have d19w : (wr).cell? ⟨xb, 19, none⟩ = some (.slice (some ⟨b, off, none⟩) pll plc) := d19k
                    have c0w : (wr).cell? ⟨b, off + i * 6, none⟩ = some (.int .i64 n1) := c0k
                    clear hb2 oF2 oO2 d19k c0k hall
                    generalize (wr) = W5 at *
                    have oO := oO5
                    
                    have k7 : (k : Int) ≤ (n : Int) := by omega
                    have k8 : (0 : Int) ≤ (k : Int) := by omega
                    have kf : k ≤ cf := by omega
                    have ko : k ≤ co := by omega
                    have hcs : ∀ j, j < n → W5.cell? ⟨gf, j, none⟩ = some (.int .i64 (Lf.getD j 0)) := fun j hj => own_lv oF5 j hj
                    go_upto_region 14 with fail
                    refine wp_region_held_drew (S := (fun w' => True)) (by kernel_rfl) ?_ (fun hHeld => ?_)
                    · trivial
                    refine tkIns 1 (v := ?_) rfl (Or.inl ⟨by rfl, ?_⟩) (by assumption) ?_
                    rotate_left 1
                    · (intro w hS; (try dsimp only at hS); (try obtain ⟨s1, s2⟩ := hS); go_simp; try with_reducible rfl)
                    try simp only [putQ]
                    refine tkIns 2 (v := ?_) rfl (Or.inl ⟨by rfl, ?_⟩) (by assumption) ?_
                    rotate_left 1
                    · (intro w hS; (try dsimp only at hS); (try obtain ⟨s1, s2⟩ := hS); go_simp; try with_reducible rfl)
                    try simp only [putQ]
                    refine tkIns 3 (v := ?_) rfl (Or.inl ⟨by rfl, ?_⟩) (by assumption) ?_
                    rotate_left 1
                    · (intro w hS; (try dsimp only at hS); (try obtain ⟨s1, s2⟩ := hS); go_simp; try with_reducible rfl)
                    try simp only [putQ]
                    refine tkIns 5 (v := ?_) rfl (Or.inl ⟨by rfl, ?_⟩) (by assumption) ?_
                    rotate_left 1
                    · (intro w hS; (try dsimp only at hS); (try obtain ⟨s1, s2⟩ := hS); go_simp; try with_reducible rfl)
                    try simp only [putQ]
                    refine tkIns 8 (v := ?_) rfl (Or.inl ⟨by rfl, ?_⟩) (by assumption) ?_
                    rotate_left 1
                    · (intro w hS; (try dsimp only at hS); (try obtain ⟨s1, s2⟩ := hS); go_simp; try with_reducible rfl)
                    try simp only [putQ]
                    refine tkIns 9 (v := ?_) rfl (Or.inl ⟨by rfl, ?_⟩) (by assumption) ?_
                    rotate_left 1
                    · (intro w hS; (try dsimp only at hS); (try obtain ⟨s1, s2⟩ := hS); go_simp; try with_reducible rfl)
                    try simp only [putQ]
                    refine tkIns 10 (v := ?_) rfl (Or.inl ⟨by rfl, ?_⟩) (by assumption) ?_
                    rotate_left 1
                    · (intro w hS; (try dsimp only at hS); (try obtain ⟨s1, s2⟩ := hS); go_simp; try with_reducible rfl)
                    try simp only [putQ]
                    refine wpAnyH_ready (rs := [0, 6]) (by kernel_rfl) (by simp) ?_
                    refine AllReadyH.cons (o := _) rfl (fun K hK => ?_) (AllReadyH.cons (o := _) rfl (fun K hK => ?_) AllReadyH.nil)
                    · go_simp
                      have oR1 : ((W5.alloc (.cells #[] 3)).drew).ownsRow W5.heap.size 3 1 (.slice (some ⟨W5.heap.size, 0, none⟩) 0 0) 0 (lv []) := World.ownsRow_lit W5 #[] 0 (Nat.le_refl _) (by unfold maxLen; omega) rfl
                      have BV1 : Below W5.heap.size W5 ((W5.alloc (.cells #[] 3)).drew) := QB1 (balloc (.cells #[] 3) (Below.refl _ W5))
                      refine hK.out _ _ ?_ (fun hHeld => ?_)
                      · trivial
                      clear hK K
                      try simp only [putQ]
                      generalize ((W5.alloc (.cells #[] 3)).drew) = V1 at *
                      refine wpAnyH_ready (rs := [4, 6]) (by kernel_rfl) (by simp) ?_
                      refine AllReadyH.cons (o := _) rfl (fun K hK => ?_) (AllReadyH.cons (o := _) rfl (fun K hK => ?_) AllReadyH.nil)
                      · refine step_app (by rfl) _ _ (by rfl) W5.heap.size (.slice (some ⟨W5.heap.size, 0, none⟩) 0 0) 0 [] (by rfl) (by simp) oR1 _ gf 0 rfl k cf (Lf.take k) (by rfl) (by simp; omega) (fun j hj => by rw [Nat.zero_add, keep_below BV1 (hcs j (by omega))]; simp [List.getD, hj]) k (Nat.zero_add k) (by omega) BV1.size ?_
                        intro g2 c2 V2 oR2 gr2 hc2
                        have BV2 := own_grow BV1 BV1.size oR1 gr2
                        refine hK.out _ _ ?_ (fun hHeld => ?_)
                        · trivial
                        clear hK K
                        try simp only [putQ]
                        refine wpAnyH_ready (rs := [6]) (by kernel_rfl) (by simp) ?_
                        refine AllReadyH.cons (o := _) rfl (fun K hK => ?_) AllReadyH.nil
                        go_simp
                        have cX3 : (V2.alloc (.cells #[.int .i64 X] 3)).cell? ⟨V2.heap.size, 0, none⟩ = some (.int .i64 X) := by simp [go_sem]
                        have BV3 : Below W5.heap.size W5 (V2.alloc (.cells #[.int .i64 X] 3)) := (balloc (.cells #[.int .i64 X] 3) BV2)
                        have oR3 := oR2.alloc (.cells #[.int .i64 X] 3)
                        refine hK.out _ _ ?_ (fun hHeld => ?_)
                        · trivial
                        clear hK K
                        try simp only [putQ]
                        generalize (V2.alloc (.cells #[.int .i64 X] 3)) = V3 at *
                        refine wpAnyH_ready (rs := [7]) (by kernel_rfl) (by simp) ?_
                        refine AllReadyH.cons (o := _) rfl (fun K hK => ?_) AllReadyH.nil
                        refine step_app (by rfl) _ _ (by rfl) W5.heap.size (.slice (some ⟨g2, 0, none⟩) k c2) k _ (by rfl) (by simp) oR3 (some ⟨V2.heap.size, 0, none⟩) V2.heap.size 0 rfl 1 1 [X] (by rfl) rfl (fun j hj => by obtain rfl : j = 0 := (by omega); exact cX3) (k + 1) rfl (by omega) BV3.size ?_
                        intro g8 c8 V8 oR8 gr8 hc8
                        have BV8 := own_grow BV3 BV3.size oR3 gr8
                        refine hK.out _ _ ?_ (fun hHeld => ?_)
                        · trivial
                        clear hK K
                        try simp only [putQ]
                        refine wpAnyH_ready (rs := [11]) (by kernel_rfl) (by simp) ?_
                        refine AllReadyH.cons (o := _) rfl (fun K hK => ?_) AllReadyH.nil
                        refine step_app (by rfl) _ _ (by rfl) W5.heap.size (.slice (some ⟨g8, 0, none⟩) (k + 1) c8) (k + 1) _ (by rfl) (by simp) oR8 (if cf = k then some ⟨gf, 0, none⟩ else some ⟨gf, k, none⟩) gf (if cf = k then 0 else k) (by split <;> rfl) (n - k) (cf - k) (Lf.drop k) (by rfl) (by simp; omega) (fun j hj => by rw [if_neg (by omega), keep_below BV8 (hcs (k + j) (by omega))]; simp [List.getD, List.getElem?_drop]) (n + 1) (by omega) (by omega) BV8.size ?_
                        intro g9 c9 V9 oR9 gr9 hc9
                        have BV9 := own_grow BV8 BV8.size oR8 gr9
                        refine hK.out _ _ ?_ (fun hHeld => ?_)
                        · trivial
                        clear hK K
                        try simp only [putQ]
                        refine tkIns 12 (v := ?_) rfl (Or.inl ⟨by rfl, ?_⟩) (by assumption) ?_
                        rotate_left 1
                        · (intro w hS; (try dsimp only at hS); (try obtain ⟨s1, s2⟩ := hS); go_simp; try with_reducible rfl)
                        try simp only [putQ]
                        refine wpAnyH_done (by kernel_rfl) ?_ _
                        clear oR8 gr8 gr9 hc8 BV8 hcs
                        obtain ⟨gF, cF, hgF⟩ : ∃ gF cF, gF = g9 ∧ cF = c9 := ⟨_, _, rfl, rfl⟩
                        obtain ⟨rfl, rfl⟩ := hgF
                        have BB := BV9
                        have hcF := hc9
                        have oFar : V9.ownsRow w.heap.size 3 1 (.slice (some ⟨gF, 0, none⟩) (n + 1) cF) (n + 1) (lv (Lf.take k ++ [X] ++ Lf.drop k)) := by simpa using own_mono (Nat.le_trans hbase hb5.size) oR9
                        have W2o := own_below oO BV9
                        have d19' := keep_below BV9 d19w
                        have c0' := keep_below BV9 c0w
                        have hcs : ∀ j, j < n → V9.cell? ⟨go, j, none⟩ = some (.int .i64 (Lo.getD j 0)) := fun j hj => own_lv W2o j (by omega)
                        clear BV9 oR9 hc9 W2o
                        generalize V9 = W2 at *
                        (try clear cX3); (try clear cX2); (try clear cX1); (try clear nX); (try clear gr3); (try clear gr2); (try clear oR3); (try clear oR2); (try clear oR1); (try clear BV3); (try clear BV2); (try clear BV1)
                        go_upto_region 15 with fail
                        refine wp_region_held_drew (S := fun w' => w'.cell? ⟨xb, 19, none⟩ = some (.slice (some ⟨b, off, none⟩) pll plc) ∧ w'.cell? ⟨b, off + i * 6, none⟩ = some (.int .i64 n1)) (by kernel_rfl) ?_ (fun hHeld => ?_)
                        · (try dsimp only); exact ⟨d19', c0'⟩
                        refine tkIns 1 (v := ?_) rfl (Or.inl ⟨by rfl, ?_⟩) (by assumption) ?_
                        rotate_left 1
                        · (intro w hS; (try dsimp only at hS); (try obtain ⟨s1, s2⟩ := hS); go_simp; try with_reducible rfl)
                        try simp only [putQ]
                        refine tkIns 2 (v := ?_) rfl (Or.inl ⟨by rfl, ?_⟩) (by assumption) ?_
                        rotate_left 1
                        · (intro w hS; (try dsimp only at hS); (try obtain ⟨s1, s2⟩ := hS); go_simp; try with_reducible rfl)
                        try simp only [putQ]
                        refine tkIns 3 (v := ?_) rfl (Or.inl ⟨by rfl, ?_⟩) (by assumption) ?_
                        rotate_left 1
                        · (intro w hS; (try dsimp only at hS); (try obtain ⟨s1, s2⟩ := hS); go_simp; try with_reducible rfl)
                        try simp only [putQ]
                        refine tkIns 5 (v := ?_) rfl (Or.inl ⟨by rfl, ?_⟩) (by assumption) ?_
                        rotate_left 1
                        · (intro w hS; (try dsimp only at hS); (try obtain ⟨s1, s2⟩ := hS); go_simp; try with_reducible rfl)
                        try simp only [putQ]
                        refine tkIns 6 (v := ?_) rfl (Or.inl ⟨by rfl, ?_⟩) (by assumption) ?_
                        rotate_left 1
                        · (intro w hS; (try dsimp only at hS); (try obtain ⟨s1, s2⟩ := hS); go_simp; try with_reducible rfl)
                        try simp only [putQ]
                        refine tkIns 7 (v := ?_) rfl (Or.inl ⟨by rfl, ?_⟩) (by assumption) ?_
                        rotate_left 1
                        · (intro w hS; (try dsimp only at hS); (try obtain ⟨s1, s2⟩ := hS); go_simp; try with_reducible rfl)
                        try simp only [putQ]
                        refine tkIns 8 (v := ?_) rfl (Or.inl ⟨by rfl, ?_⟩) (by assumption) ?_
                        rotate_left 1
                        · (intro w hS; (try dsimp only at hS); (try obtain ⟨s1, s2⟩ := hS); go_simp; try with_reducible rfl)
                        try simp only [putQ]
                        refine tkIns 9 (v := ?_) rfl (Or.inl ⟨by rfl, ?_⟩) (by assumption) ?_
                        rotate_left 1
                        · (intro w hS; (try dsimp only at hS); (try obtain ⟨s1, s2⟩ := hS); go_simp; try with_reducible rfl)
                        try simp only [putQ]
                        refine tkIns 10 (v := ?_) rfl (Or.inl ⟨by rfl, ?_⟩) (by assumption) ?_
                        rotate_left 1
                        · (intro w hS; (try dsimp only at hS); (try obtain ⟨s1, s2⟩ := hS); go_simp; try with_reducible rfl)
                        try simp only [putQ]
                        refine tkIns 13 (v := ?_) rfl (Or.inl ⟨by rfl, ?_⟩) (by assumption) ?_
                        rotate_left 1
                        · (intro w hS; (try dsimp only at hS); (try obtain ⟨s1, s2⟩ := hS); go_simp; try with_reducible rfl)
                        try simp only [putQ]
                        refine tkIns 14 (v := ?_) rfl (Or.inl ⟨by rfl, ?_⟩) (by assumption) ?_
                        rotate_left 1
                        · (intro w hS; (try dsimp only at hS); (try obtain ⟨s1, s2⟩ := hS); go_simp; try with_reducible rfl)
                        try simp only [putQ]
                        refine tkIns 15 (v := ?_) rfl (Or.inl ⟨by rfl, ?_⟩) (by assumption) ?_
                        rotate_left 1
                        · (intro w hS; (try dsimp only at hS); (try obtain ⟨s1, s2⟩ := hS); go_simp; try with_reducible rfl)
                        try simp only [putQ]
                        refine wpAnyH_ready (rs := [0, 11]) (by kernel_rfl) (by simp) ?_
                        refine AllReadyH.cons (o := _) rfl (fun K hK => ?_) (AllReadyH.cons (o := _) rfl (fun K hK => ?_) AllReadyH.nil)
                        · go_simp
                          have oR1 : ((W2.alloc (.cells #[] 3)).drew).ownsRow W2.heap.size 3 1 (.slice (some ⟨W2.heap.size, 0, none⟩) 0 0) 0 (lv []) := World.ownsRow_lit W2 #[] 0 (Nat.le_refl _) (by unfold maxLen; omega) rfl
                          have BV1 : Below W2.heap.size W2 ((W2.alloc (.cells #[] 3)).drew) := QB1 (balloc (.cells #[] 3) (Below.refl _ W2))
                          refine hK.out _ _ ?_ (fun hHeld => ?_)
                          · (try dsimp only); exact ⟨keep_below BV1 d19', keep_below BV1 c0'⟩
                          clear hK K
                          try simp only [putQ]
                          generalize ((W2.alloc (.cells #[] 3)).drew) = V1 at *
                          refine wpAnyH_ready (rs := [4, 11]) (by kernel_rfl) (by simp) ?_
                          refine AllReadyH.cons (o := _) rfl (fun K hK => ?_) (AllReadyH.cons (o := _) rfl (fun K hK => ?_) AllReadyH.nil)
                          · refine step_app (by rfl) _ _ (by rfl) W2.heap.size (.slice (some ⟨W2.heap.size, 0, none⟩) 0 0) 0 [] (by rfl) (by simp) oR1 _ go 0 rfl k co (Lo.take k) (by rfl) (by simp; omega) (fun j hj => by rw [Nat.zero_add, keep_below BV1 (hcs j (by omega))]; simp [List.getD, hj]) k (Nat.zero_add k) (by omega) BV1.size ?_
                            intro g2 c2 V2 oR2 gr2 hc2
                            have BV2 := own_grow BV1 BV1.size oR1 gr2
                            refine hK.out _ _ ?_ (fun hHeld => ?_)
                            · (try dsimp only); exact ⟨keep_below BV2 d19', keep_below BV2 c0'⟩
                            clear hK K
                            try simp only [putQ]
                            refine wpAnyH_ready (rs := [11]) (by kernel_rfl) (by simp) ?_
                            refine AllReadyH.cons (o := _) rfl (fun K hK => ?_) AllReadyH.nil
                            go_simp
                            have cX3 : (V2.alloc (.cells #[.int .i64 n1] 3)).cell? ⟨V2.heap.size, 0, none⟩ = some (.int .i64 n1) := by simp [go_sem]
                            have BV3 : Below W2.heap.size W2 (V2.alloc (.cells #[.int .i64 n1] 3)) := (balloc (.cells #[.int .i64 n1] 3) BV2)
                            have oR3 := oR2.alloc (.cells #[.int .i64 n1] 3)
                            refine hK.out _ _ ?_ (fun hHeld => ?_)
                            · (try dsimp only); exact ⟨keep_below BV3 d19', keep_below BV3 c0'⟩
                            clear hK K
                            try simp only [putQ]
                            generalize (V2.alloc (.cells #[.int .i64 n1] 3)) = V3 at *
                            refine wpAnyH_ready (rs := [12]) (by kernel_rfl) (by simp) ?_
                            refine AllReadyH.cons (o := _) rfl (fun K hK => ?_) AllReadyH.nil
                            refine step_app (by rfl) _ _ (by rfl) W2.heap.size (.slice (some ⟨g2, 0, none⟩) k c2) k _ (by rfl) (by simp) oR3 (some ⟨V2.heap.size, 0, none⟩) V2.heap.size 0 rfl 1 1 [n1] (by rfl) rfl (fun j hj => by obtain rfl : j = 0 := (by omega); exact cX3) (k + 1) rfl (by omega) BV3.size ?_
                            intro g8 c8 V8 oR8 gr8 hc8
                            have BV8 := own_grow BV3 BV3.size oR3 gr8
                            refine hK.out _ _ ?_ (fun hHeld => ?_)
                            · (try dsimp only); exact ⟨keep_below BV8 d19', keep_below BV8 c0'⟩
                            clear hK K
                            try simp only [putQ]
                            refine wpAnyH_ready (rs := [16]) (by kernel_rfl) (by simp) ?_
                            refine AllReadyH.cons (o := _) rfl (fun K hK => ?_) AllReadyH.nil
                            refine step_app (by rfl) _ _ (by rfl) W2.heap.size (.slice (some ⟨g8, 0, none⟩) (k + 1) c8) (k + 1) _ (by rfl) (by simp) oR8 (if co = k then some ⟨go, 0, none⟩ else some ⟨go, k, none⟩) go (if co = k then 0 else k) (by split <;> rfl) (n - k) (co - k) (Lo.drop k) (by rfl) (by simp; omega) (fun j hj => by rw [if_neg (by omega), keep_below BV8 (hcs (k + j) (by omega))]; simp [List.getD, List.getElem?_drop]) (n + 1) (by omega) (by omega) BV8.size ?_
                            intro g9 c9 V9 oR9 gr9 hc9
                            have BV9 := own_grow BV8 BV8.size oR8 gr9
                            refine hK.out _ _ ?_ (fun hHeld => ?_)
                            · (try dsimp only); exact ⟨keep_below BV9 d19', keep_below BV9 c0'⟩
                            clear hK K
                            try simp only [putQ]
                            refine tkIns 17 (v := ?_) rfl (Or.inl ⟨by rfl, ?_⟩) (by assumption) ?_
                            rotate_left 1
                            · (intro w hS; (try dsimp only at hS); (try obtain ⟨s1, s2⟩ := hS); go_simp; try with_reducible rfl)
                            try simp only [putQ]
                            refine wpAnyH_done (by kernel_rfl) ?_ _
                            clear oR8 gr8 gr9 hc8 BV8 hcs
                            have hbF := btrans hb5 (btrans BB BV9)
                            have oF := own_mono (Nat.le_trans hbase (Nat.le_trans hb5.size BB.size)) oR9
                            have oG := own_below oFar BV9
                            clear oR9 BV9 oFar BB hb5
                            go_wp2
                            go_roundw
                            case rel =>
                              refine ⟨i + 1, gF, cF, g9, c9, n + 1, Lf.take k ++ [X] ++ Lf.drop k, Lo.take k ++ [n1] ++ Lo.drop k, by omega, by go_num, rfl, hcF, rfl, hc9, by omega, oG, by simpa using oF, ?_, ?_, ?_, hbF⟩
                              · rw [hstep.out]; exact hnew.out.1
                              · rw [hstep.out]; exact hnew.out.2.1
                              · exact hnew.out.2.2
                            case measure => simp [intOf]; omega
                          · go_simp
                            have cX2 : (V1.alloc (.cells #[.int .i64 n1] 3)).cell? ⟨V1.heap.size, 0, none⟩ = some (.int .i64 n1) := by simp [go_sem]
                            have BV2 : Below W2.heap.size W2 (V1.alloc (.cells #[.int .i64 n1] 3)) := (balloc (.cells #[.int .i64 n1] 3) BV1)
                            have oR2 := oR1.alloc (.cells #[.int .i64 n1] 3)
                            have nX : V1.heap.size ≠ W2.heap.size := by have := oR1.lt W2.heap.size rfl; omega
                            refine hK.out _ _ ?_ (fun hHeld => ?_)
                            · (try dsimp only); exact ⟨keep_below BV2 d19', keep_below BV2 c0'⟩
                            clear hK K
                            try simp only [putQ]
                            generalize (V1.alloc (.cells #[.int .i64 n1] 3)) = V2 at *
                            refine wpAnyH_ready (rs := [4]) (by kernel_rfl) (by simp) ?_
                            refine AllReadyH.cons (o := _) rfl (fun K hK => ?_) AllReadyH.nil
                            refine step_app (by rfl) _ _ (by rfl) W2.heap.size (.slice (some ⟨W2.heap.size, 0, none⟩) 0 0) 0 [] (by rfl) (by simp) oR2 _ go 0 rfl k co (Lo.take k) (by rfl) (by simp; omega) (fun j hj => by rw [Nat.zero_add, keep_below BV2 (hcs j (by omega))]; simp [List.getD, hj]) k (Nat.zero_add k) (by omega) BV2.size ?_
                            intro g3 c3 V3 oR3 gr3 hc3
                            have BV3 := own_grow BV2 BV2.size oR2 gr3
                            have cX3 := keep_grown' gr3 nX cX2
                            refine hK.out _ _ ?_ (fun hHeld => ?_)
                            · (try dsimp only); exact ⟨keep_below BV3 d19', keep_below BV3 c0'⟩
                            clear hK K
                            try simp only [putQ]
                            refine wpAnyH_ready (rs := [12]) (by kernel_rfl) (by simp) ?_
                            refine AllReadyH.cons (o := _) rfl (fun K hK => ?_) AllReadyH.nil
                            refine step_app (by rfl) _ _ (by rfl) W2.heap.size (.slice (some ⟨g3, 0, none⟩) k c3) k _ (by rfl) (by simp) oR3 (some ⟨V1.heap.size, 0, none⟩) V1.heap.size 0 rfl 1 1 [n1] (by rfl) rfl (fun j hj => by obtain rfl : j = 0 := (by omega); exact cX3) (k + 1) rfl (by omega) BV3.size ?_
                            intro g8 c8 V8 oR8 gr8 hc8
                            have BV8 := own_grow BV3 BV3.size oR3 gr8
                            refine hK.out _ _ ?_ (fun hHeld => ?_)
                            · (try dsimp only); exact ⟨keep_below BV8 d19', keep_below BV8 c0'⟩
                            clear hK K
                            try simp only [putQ]
                            refine wpAnyH_ready (rs := [16]) (by kernel_rfl) (by simp) ?_
                            refine AllReadyH.cons (o := _) rfl (fun K hK => ?_) AllReadyH.nil
                            refine step_app (by rfl) _ _ (by rfl) W2.heap.size (.slice (some ⟨g8, 0, none⟩) (k + 1) c8) (k + 1) _ (by rfl) (by simp) oR8 (if co = k then some ⟨go, 0, none⟩ else some ⟨go, k, none⟩) go (if co = k then 0 else k) (by split <;> rfl) (n - k) (co - k) (Lo.drop k) (by rfl) (by simp; omega) (fun j hj => by rw [if_neg (by omega), keep_below BV8 (hcs (k + j) (by omega))]; simp [List.getD, List.getElem?_drop]) (n + 1) (by omega) (by omega) BV8.size ?_
                            intro g9 c9 V9 oR9 gr9 hc9
                            have BV9 := own_grow BV8 BV8.size oR8 gr9
                            refine hK.out _ _ ?_ (fun hHeld => ?_)
                            · (try dsimp only); exact ⟨keep_below BV9 d19', keep_below BV9 c0'⟩
                            clear hK K
                            try simp only [putQ]
                            refine tkIns 17 (v := ?_) rfl (Or.inl ⟨by rfl, ?_⟩) (by assumption) ?_
                            rotate_left 1
                            · (intro w hS; (try dsimp only at hS); (try obtain ⟨s1, s2⟩ := hS); go_simp; try with_reducible rfl)
                            try simp only [putQ]
                            refine wpAnyH_done (by kernel_rfl) ?_ _
                            clear oR8 gr8 gr9 hc8 BV8 hcs
                            have hbF := btrans hb5 (btrans BB BV9)
                            have oF := own_mono (Nat.le_trans hbase (Nat.le_trans hb5.size BB.size)) oR9
                            have oG := own_below oFar BV9
                            clear oR9 BV9 oFar BB hb5
                            go_wp2
                            go_roundw
                            case rel =>
                              refine ⟨i + 1, gF, cF, g9, c9, n + 1, Lf.take k ++ [X] ++ Lf.drop k, Lo.take k ++ [n1] ++ Lo.drop k, by omega, by go_num, rfl, hcF, rfl, hc9, by omega, oG, by simpa using oF, ?_, ?_, ?_, hbF⟩
                              · rw [hstep.out]; exact hnew.out.1
                              · rw [hstep.out]; exact hnew.out.2.1
                              · exact hnew.out.2.2
                            case measure => simp [intOf]; omega
                        · go_simp
                          have cX1 : ((W2.alloc (.cells #[.int .i64 n1] 3)).drew).cell? ⟨W2.heap.size, 0, none⟩ = some (.int .i64 n1) := by simp [go_sem]
                          have BV1 : Below W2.heap.size W2 ((W2.alloc (.cells #[.int .i64 n1] 3)).drew) := QB1 (balloc (.cells #[.int .i64 n1] 3) (Below.refl _ W2))
                          have xlt := World.block_lt_of_cell? _ _ cX1
                          refine hK.out _ _ ?_ (fun hHeld => ?_)
                          · (try dsimp only); exact ⟨keep_below BV1 d19', keep_below BV1 c0'⟩
                          clear hK K
                          try simp only [putQ]
                          generalize ((W2.alloc (.cells #[.int .i64 n1] 3)).drew) = V1 at *
                          refine wpAnyH_ready (rs := [0]) (by kernel_rfl) (by simp) ?_
                          refine AllReadyH.cons (o := _) rfl (fun K hK => ?_) AllReadyH.nil
                          go_simp
                          have oR2 : (V1.alloc (.cells #[] 3)).ownsRow W2.heap.size 3 1 (.slice (some ⟨V1.heap.size, 0, none⟩) 0 0) 0 (lv []) := World.ownsRow_lit V1 #[] 0 (BV1.size) (by unfold maxLen; omega) rfl
                          have BV2 : Below W2.heap.size W2 (V1.alloc (.cells #[] 3)) := (balloc (.cells #[] 3) BV1)
                          have cX2 := keep_alloc (.cells #[] 3) cX1
                          have nX : W2.heap.size ≠ V1.heap.size := by simp at xlt; omega
                          refine hK.out _ _ ?_ (fun hHeld => ?_)
                          · (try dsimp only); exact ⟨keep_below BV2 d19', keep_below BV2 c0'⟩
                          clear hK K
                          try simp only [putQ]
                          generalize (V1.alloc (.cells #[] 3)) = V2 at *
                          refine wpAnyH_ready (rs := [4]) (by kernel_rfl) (by simp) ?_
                          refine AllReadyH.cons (o := _) rfl (fun K hK => ?_) AllReadyH.nil
                          refine step_app (by rfl) _ _ (by rfl) W2.heap.size (.slice (some ⟨V1.heap.size, 0, none⟩) 0 0) 0 [] (by rfl) (by simp) oR2 _ go 0 rfl k co (Lo.take k) (by rfl) (by simp; omega) (fun j hj => by rw [Nat.zero_add, keep_below BV2 (hcs j (by omega))]; simp [List.getD, hj]) k (Nat.zero_add k) (by omega) BV2.size ?_
                          intro g3 c3 V3 oR3 gr3 hc3
                          have BV3 := own_grow BV2 BV2.size oR2 gr3
                          have cX3 := keep_grown' gr3 nX cX2
                          refine hK.out _ _ ?_ (fun hHeld => ?_)
                          · (try dsimp only); exact ⟨keep_below BV3 d19', keep_below BV3 c0'⟩
                          clear hK K
                          try simp only [putQ]
                          refine wpAnyH_ready (rs := [12]) (by kernel_rfl) (by simp) ?_
                          refine AllReadyH.cons (o := _) rfl (fun K hK => ?_) AllReadyH.nil
                          refine step_app (by rfl) _ _ (by rfl) W2.heap.size (.slice (some ⟨g3, 0, none⟩) k c3) k _ (by rfl) (by simp) oR3 (some ⟨W2.heap.size, 0, none⟩) W2.heap.size 0 rfl 1 1 [n1] (by rfl) rfl (fun j hj => by obtain rfl : j = 0 := (by omega); exact cX3) (k + 1) rfl (by omega) BV3.size ?_
                          intro g8 c8 V8 oR8 gr8 hc8
                          have BV8 := own_grow BV3 BV3.size oR3 gr8
                          refine hK.out _ _ ?_ (fun hHeld => ?_)
                          · (try dsimp only); exact ⟨keep_below BV8 d19', keep_below BV8 c0'⟩
                          clear hK K
                          try simp only [putQ]
                          refine wpAnyH_ready (rs := [16]) (by kernel_rfl) (by simp) ?_
                          refine AllReadyH.cons (o := _) rfl (fun K hK => ?_) AllReadyH.nil
                          refine step_app (by rfl) _ _ (by rfl) W2.heap.size (.slice (some ⟨g8, 0, none⟩) (k + 1) c8) (k + 1) _ (by rfl) (by simp) oR8 (if co = k then some ⟨go, 0, none⟩ else some ⟨go, k, none⟩) go (if co = k then 0 else k) (by split <;> rfl) (n - k) (co - k) (Lo.drop k) (by rfl) (by simp; omega) (fun j hj => by rw [if_neg (by omega), keep_below BV8 (hcs (k + j) (by omega))]; simp [List.getD, List.getElem?_drop]) (n + 1) (by omega) (by omega) BV8.size ?_
                          intro g9 c9 V9 oR9 gr9 hc9
                          have BV9 := own_grow BV8 BV8.size oR8 gr9
                          refine hK.out _ _ ?_ (fun hHeld => ?_)
                          · (try dsimp only); exact ⟨keep_below BV9 d19', keep_below BV9 c0'⟩
                          clear hK K
                          try simp only [putQ]
                          refine tkIns 17 (v := ?_) rfl (Or.inl ⟨by rfl, ?_⟩) (by assumption) ?_
                          rotate_left 1
                          · (intro w hS; (try dsimp only at hS); (try obtain ⟨s1, s2⟩ := hS); go_simp; try with_reducible rfl)
                          try simp only [putQ]
                          refine wpAnyH_done (by kernel_rfl) ?_ _
                          clear oR8 gr8 gr9 hc8 BV8 hcs
                          have hbF := btrans hb5 (btrans BB BV9)
                          have oF := own_mono (Nat.le_trans hbase (Nat.le_trans hb5.size BB.size)) oR9
                          have oG := own_below oFar BV9
                          clear oR9 BV9 oFar BB hb5
                          go_wp2
                          go_roundw
                          case rel =>
                            refine ⟨i + 1, gF, cF, g9, c9, n + 1, Lf.take k ++ [X] ++ Lf.drop k, Lo.take k ++ [n1] ++ Lo.drop k, by omega, by go_num, rfl, hcF, rfl, hc9, by omega, oG, by simpa using oF, ?_, ?_, ?_, hbF⟩
                            · rw [hstep.out]; exact hnew.out.1
                            · rw [hstep.out]; exact hnew.out.2.1
                            · exact hnew.out.2.2
                          case measure => simp [intOf]; omega
                      · go_simp
                        have cX2 : (V1.alloc (.cells #[.int .i64 X] 3)).cell? ⟨V1.heap.size, 0, none⟩ = some (.int .i64 X) := by simp [go_sem]
                        have BV2 : Below W5.heap.size W5 (V1.alloc (.cells #[.int .i64 X] 3)) := (balloc (.cells #[.int .i64 X] 3) BV1)
                        have oR2 := oR1.alloc (.cells #[.int .i64 X] 3)
                        have nX : V1.heap.size ≠ W5.heap.size := by have := oR1.lt W5.heap.size rfl; omega
                        refine hK.out _ _ ?_ (fun hHeld => ?_)
                        · trivial
                        clear hK K
                        try simp only [putQ]
                        generalize (V1.alloc (.cells #[.int .i64 X] 3)) = V2 at *
                        refine wpAnyH_ready (rs := [4]) (by kernel_rfl) (by simp) ?_
                        refine AllReadyH.cons (o := _) rfl (fun K hK => ?_) AllReadyH.nil
                        refine step_app (by rfl) _ _ (by rfl) W5.heap.size (.slice (some ⟨W5.heap.size, 0, none⟩) 0 0) 0 [] (by rfl) (by simp) oR2 _ gf 0 rfl k cf (Lf.take k) (by rfl) (by simp; omega) (fun j hj => by rw [Nat.zero_add, keep_below BV2 (hcs j (by omega))]; simp [List.getD, hj]) k (Nat.zero_add k) (by omega) BV2.size ?_
                        intro g3 c3 V3 oR3 gr3 hc3
                        have BV3 := own_grow BV2 BV2.size oR2 gr3
                        have cX3 := keep_grown' gr3 nX cX2
                        refine hK.out _ _ ?_ (fun hHeld => ?_)
                        · trivial
                        clear hK K
                        try simp only [putQ]
                        refine wpAnyH_ready (rs := [7]) (by kernel_rfl) (by simp) ?_
                        refine AllReadyH.cons (o := _) rfl (fun K hK => ?_) AllReadyH.nil
                        refine step_app (by rfl) _ _ (by rfl) W5.heap.size (.slice (some ⟨g3, 0, none⟩) k c3) k _ (by rfl) (by simp) oR3 (some ⟨V1.heap.size, 0, none⟩) V1.heap.size 0 rfl 1 1 [X] (by rfl) rfl (fun j hj => by obtain rfl : j = 0 := (by omega); exact cX3) (k + 1) rfl (by omega) BV3.size ?_
                        intro g8 c8 V8 oR8 gr8 hc8
                        have BV8 := own_grow BV3 BV3.size oR3 gr8
                        refine hK.out _ _ ?_ (fun hHeld => ?_)
                        · trivial
                        clear hK K
                        try simp only [putQ]
                        refine wpAnyH_ready (rs := [11]) (by kernel_rfl) (by simp) ?_
                        refine AllReadyH.cons (o := _) rfl (fun K hK => ?_) AllReadyH.nil
                        refine step_app (by rfl) _ _ (by rfl) W5.heap.size (.slice (some ⟨g8, 0, none⟩) (k + 1) c8) (k + 1) _ (by rfl) (by simp) oR8 (if cf = k then some ⟨gf, 0, none⟩ else some ⟨gf, k, none⟩) gf (if cf = k then 0 else k) (by split <;> rfl) (n - k) (cf - k) (Lf.drop k) (by rfl) (by simp; omega) (fun j hj => by rw [if_neg (by omega), keep_below BV8 (hcs (k + j) (by omega))]; simp [List.getD, List.getElem?_drop]) (n + 1) (by omega) (by omega) BV8.size ?_
                        intro g9 c9 V9 oR9 gr9 hc9
                        have BV9 := own_grow BV8 BV8.size oR8 gr9
                        refine hK.out _ _ ?_ (fun hHeld => ?_)
                        · trivial
                        clear hK K
                        try simp only [putQ]
                        refine tkIns 12 (v := ?_) rfl (Or.inl ⟨by rfl, ?_⟩) (by assumption) ?_
                        rotate_left 1
                        · (intro w hS; (try dsimp only at hS); (try obtain ⟨s1, s2⟩ := hS); go_simp; try with_reducible rfl)
                        try simp only [putQ]
                        refine wpAnyH_done (by kernel_rfl) ?_ _
                        clear oR8 gr8 gr9 hc8 BV8 hcs
                        obtain ⟨gF, cF, hgF⟩ : ∃ gF cF, gF = g9 ∧ cF = c9 := ⟨_, _, rfl, rfl⟩
                        obtain ⟨rfl, rfl⟩ := hgF
                        have BB := BV9
                        have hcF := hc9
                        have oFar : V9.ownsRow w.heap.size 3 1 (.slice (some ⟨gF, 0, none⟩) (n + 1) cF) (n + 1) (lv (Lf.take k ++ [X] ++ Lf.drop k)) := by simpa using own_mono (Nat.le_trans hbase hb5.size) oR9
                        have W2o := own_below oO BV9
                        have d19' := keep_below BV9 d19w
                        have c0' := keep_below BV9 c0w
                        have hcs : ∀ j, j < n → V9.cell? ⟨go, j, none⟩ = some (.int .i64 (Lo.getD j 0)) := fun j hj => own_lv W2o j (by omega)
                        clear BV9 oR9 hc9 W2o
                        generalize V9 = W2 at *
                        (try clear cX3); (try clear cX2); (try clear cX1); (try clear nX); (try clear gr3); (try clear gr2); (try clear oR3); (try clear oR2); (try clear oR1); (try clear BV3); (try clear BV2); (try clear BV1)
                        go_upto_region 15 with fail
                        refine wp_region_held_drew (S := fun w' => w'.cell? ⟨xb, 19, none⟩ = some (.slice (some ⟨b, off, none⟩) pll plc) ∧ w'.cell? ⟨b, off + i * 6, none⟩ = some (.int .i64 n1)) (by kernel_rfl) ?_ (fun hHeld => ?_)
                        · (try dsimp only); exact ⟨d19', c0'⟩
                        refine tkIns 1 (v := ?_) rfl (Or.inl ⟨by rfl, ?_⟩) (by assumption) ?_
                        rotate_left 1
                        · (intro w hS; (try dsimp only at hS); (try obtain ⟨s1, s2⟩ := hS); go_simp; try with_reducible rfl)
                        try simp only [putQ]
                        refine tkIns 2 (v := ?_) rfl (Or.inl ⟨by rfl, ?_⟩) (by assumption) ?_
                        rotate_left 1
                        · (intro w hS; (try dsimp only at hS); (try obtain ⟨s1, s2⟩ := hS); go_simp; try with_reducible rfl)
                        try simp only [putQ]
                        refine tkIns 3 (v := ?_) rfl (Or.inl ⟨by rfl, ?_⟩) (by assumption) ?_
                        rotate_left 1
                        · (intro w hS; (try dsimp only at hS); (try obtain ⟨s1, s2⟩ := hS); go_simp; try with_reducible rfl)
                        try simp only [putQ]
                        refine tkIns 5 (v := ?_) rfl (Or.inl ⟨by rfl, ?_⟩) (by assumption) ?_
                        rotate_left 1
                        · (intro w hS; (try dsimp only at hS); (try obtain ⟨s1, s2⟩ := hS); go_simp; try with_reducible rfl)
                        try simp only [putQ]
                        refine tkIns 6 (v := ?_) rfl (Or.inl ⟨by rfl, ?_⟩) (by assumption) ?_
                        rotate_left 1
                        · (intro w hS; (try dsimp only at hS); (try obtain ⟨s1, s2⟩ := hS); go_simp; try with_reducible rfl)
                        try simp only [putQ]
                        refine tkIns 7 (v := ?_) rfl (Or.inl ⟨by rfl, ?_⟩) (by assumption) ?_
                        rotate_left 1
                        · (intro w hS; (try dsimp only at hS); (try obtain ⟨s1, s2⟩ := hS); go_simp; try with_reducible rfl)
                        try simp only [putQ]
                        refine tkIns 8 (v := ?_) rfl (Or.inl ⟨by rfl, ?_⟩) (by assumption) ?_
                        rotate_left 1
                        · (intro w hS; (try dsimp only at hS); (try obtain ⟨s1, s2⟩ := hS); go_simp; try with_reducible rfl)
                        try simp only [putQ]
                        refine tkIns 9 (v := ?_) rfl (Or.inl ⟨by rfl, ?_⟩) (by assumption) ?_
                        rotate_left 1
                        · (intro w hS; (try dsimp only at hS); (try obtain ⟨s1, s2⟩ := hS); go_simp; try with_reducible rfl)
                        try simp only [putQ]
                        refine tkIns 10 (v := ?_) rfl (Or.inl ⟨by rfl, ?_⟩) (by assumption) ?_
                        rotate_left 1
                        · (intro w hS; (try dsimp only at hS); (try obtain ⟨s1, s2⟩ := hS); go_simp; try with_reducible rfl)
                        try simp only [putQ]
                        refine tkIns 13 (v := ?_) rfl (Or.inl ⟨by rfl, ?_⟩) (by assumption) ?_
                        rotate_left 1
                        · (intro w hS; (try dsimp only at hS); (try obtain ⟨s1, s2⟩ := hS); go_simp; try with_reducible rfl)
                        try simp only [putQ]
                        refine tkIns 14 (v := ?_) rfl (Or.inl ⟨by rfl, ?_⟩) (by assumption) ?_
                        rotate_left 1
                        · (intro w hS; (try dsimp only at hS); (try obtain ⟨s1, s2⟩ := hS); go_simp; try with_reducible rfl)
                        try simp only [putQ]
                        refine tkIns 15 (v := ?_) rfl (Or.inl ⟨by rfl, ?_⟩) (by assumption) ?_
                        rotate_left 1
                        · (intro w hS; (try dsimp only at hS); (try obtain ⟨s1, s2⟩ := hS); go_simp; try with_reducible rfl)
                        try simp only [putQ]
                        refine wpAnyH_ready (rs := [0, 11]) (by kernel_rfl) (by simp) ?_
                        refine AllReadyH.cons (o := _) rfl (fun K hK => ?_) (AllReadyH.cons (o := _) rfl (fun K hK => ?_) AllReadyH.nil)
                        · go_simp
                          have oR1 : ((W2.alloc (.cells #[] 3)).drew).ownsRow W2.heap.size 3 1 (.slice (some ⟨W2.heap.size, 0, none⟩) 0 0) 0 (lv []) := World.ownsRow_lit W2 #[] 0 (Nat.le_refl _) (by unfold maxLen; omega) rfl
                          have BV1 : Below W2.heap.size W2 ((W2.alloc (.cells #[] 3)).drew) := QB1 (balloc (.cells #[] 3) (Below.refl _ W2))
                          refine hK.out _ _ ?_ (fun hHeld => ?_)
                          · (try dsimp only); exact ⟨keep_below BV1 d19', keep_below BV1 c0'⟩
                          clear hK K
                          try simp only [putQ]
                          generalize ((W2.alloc (.cells #[] 3)).drew) = V1 at *
                          refine wpAnyH_ready (rs := [4, 11]) (by kernel_rfl) (by simp) ?_
                          refine AllReadyH.cons (o := _) rfl (fun K hK => ?_) (AllReadyH.cons (o := _) rfl (fun K hK => ?_) AllReadyH.nil)
                          · refine step_app (by rfl) _ _ (by rfl) W2.heap.size (.slice (some ⟨W2.heap.size, 0, none⟩) 0 0) 0 [] (by rfl) (by simp) oR1 _ go 0 rfl k co (Lo.take k) (by rfl) (by simp; omega) (fun j hj => by rw [Nat.zero_add, keep_below BV1 (hcs j (by omega))]; simp [List.getD, hj]) k (Nat.zero_add k) (by omega) BV1.size ?_
                            intro g2 c2 V2 oR2 gr2 hc2
                            have BV2 := own_grow BV1 BV1.size oR1 gr2
                            refine hK.out _ _ ?_ (fun hHeld => ?_)
                            · (try dsimp only); exact ⟨keep_below BV2 d19', keep_below BV2 c0'⟩
                            clear hK K
                            try simp only [putQ]
                            refine wpAnyH_ready (rs := [11]) (by kernel_rfl) (by simp) ?_
                            refine AllReadyH.cons (o := _) rfl (fun K hK => ?_) AllReadyH.nil
                            go_simp
                            have cX3 : (V2.alloc (.cells #[.int .i64 n1] 3)).cell? ⟨V2.heap.size, 0, none⟩ = some (.int .i64 n1) := by simp [go_sem]
                            have BV3 : Below W2.heap.size W2 (V2.alloc (.cells #[.int .i64 n1] 3)) := (balloc (.cells #[.int .i64 n1] 3) BV2)
                            have oR3 := oR2.alloc (.cells #[.int .i64 n1] 3)
                            refine hK.out _ _ ?_ (fun hHeld => ?_)
                            · (try dsimp only); exact ⟨keep_below BV3 d19', keep_below BV3 c0'⟩
                            clear hK K
                            try simp only [putQ]
                            generalize (V2.alloc (.cells #[.int .i64 n1] 3)) = V3 at *
                            refine wpAnyH_ready (rs := [12]) (by kernel_rfl) (by simp) ?_
                            refine AllReadyH.cons (o := _) rfl (fun K hK => ?_) AllReadyH.nil
                            refine step_app (by rfl) _ _ (by rfl) W2.heap.size (.slice (some ⟨g2, 0, none⟩) k c2) k _ (by rfl) (by simp) oR3 (some ⟨V2.heap.size, 0, none⟩) V2.heap.size 0 rfl 1 1 [n1] (by rfl) rfl (fun j hj => by obtain rfl : j = 0 := (by omega); exact cX3) (k + 1) rfl (by omega) BV3.size ?_
                            intro g8 c8 V8 oR8 gr8 hc8
                            have BV8 := own_grow BV3 BV3.size oR3 gr8
                            refine hK.out _ _ ?_ (fun hHeld => ?_)
                            · (try dsimp only); exact ⟨keep_below BV8 d19', keep_below BV8 c0'⟩
                            clear hK K
                            try simp only [putQ]
                            refine wpAnyH_ready (rs := [16]) (by kernel_rfl) (by simp) ?_
                            refine AllReadyH.cons (o := _) rfl (fun K hK => ?_) AllReadyH.nil
                            refine step_app (by rfl) _ _ (by rfl) W2.heap.size (.slice (some ⟨g8, 0, none⟩) (k + 1) c8) (k + 1) _ (by rfl) (by simp) oR8 (if co = k then some ⟨go, 0, none⟩ else some ⟨go, k, none⟩) go (if co = k then 0 else k) (by split <;> rfl) (n - k) (co - k) (Lo.drop k) (by rfl) (by simp; omega) (fun j hj => by rw [if_neg (by omega), keep_below BV8 (hcs (k + j) (by omega))]; simp [List.getD, List.getElem?_drop]) (n + 1) (by omega) (by omega) BV8.size ?_
                            intro g9 c9 V9 oR9 gr9 hc9
                            have BV9 := own_grow BV8 BV8.size oR8 gr9
                            refine hK.out _ _ ?_ (fun hHeld => ?_)
                            · (try dsimp only); exact ⟨keep_below BV9 d19', keep_below BV9 c0'⟩
                            clear hK K
                            try simp only [putQ]
                            refine tkIns 17 (v := ?_) rfl (Or.inl ⟨by rfl, ?_⟩) (by assumption) ?_
                            rotate_left 1
                            · (intro w hS; (try dsimp only at hS); (try obtain ⟨s1, s2⟩ := hS); go_simp; try with_reducible rfl)
                            try simp only [putQ]
                            refine wpAnyH_done (by kernel_rfl) ?_ _
                            clear oR8 gr8 gr9 hc8 BV8 hcs
                            have hbF := btrans hb5 (btrans BB BV9)
                            have oF := own_mono (Nat.le_trans hbase (Nat.le_trans hb5.size BB.size)) oR9
                            have oG := own_below oFar BV9
                            clear oR9 BV9 oFar BB hb5
                            go_wp2
                            go_roundw
                            case rel =>
                              refine ⟨i + 1, gF, cF, g9, c9, n + 1, Lf.take k ++ [X] ++ Lf.drop k, Lo.take k ++ [n1] ++ Lo.drop k, by omega, by go_num, rfl, hcF, rfl, hc9, by omega, oG, by simpa using oF, ?_, ?_, ?_, hbF⟩
                              · rw [hstep.out]; exact hnew.out.1
                              · rw [hstep.out]; exact hnew.out.2.1
                              · exact hnew.out.2.2
                            case measure => simp [intOf]; omega
                          · go_simp
                            have cX2 : (V1.alloc (.cells #[.int .i64 n1] 3)).cell? ⟨V1.heap.size, 0, none⟩ = some (.int .i64 n1) := by simp [go_sem]
                            have BV2 : Below W2.heap.size W2 (V1.alloc (.cells #[.int .i64 n1] 3)) := (balloc (.cells #[.int .i64 n1] 3) BV1)
                            have oR2 := oR1.alloc (.cells #[.int .i64 n1] 3)
                            have nX : V1.heap.size ≠ W2.heap.size := by have := oR1.lt W2.heap.size rfl; omega
                            refine hK.out _ _ ?_ (fun hHeld => ?_)
                            · (try dsimp only); exact ⟨keep_below BV2 d19', keep_below BV2 c0'⟩
                            clear hK K
                            try simp only [putQ]
                            generalize (V1.alloc (.cells #[.int .i64 n1] 3)) = V2 at *
                            refine wpAnyH_ready (rs := [4]) (by kernel_rfl) (by simp) ?_
                            refine AllReadyH.cons (o := _) rfl (fun K hK => ?_) AllReadyH.nil
                            refine step_app (by rfl) _ _ (by rfl) W2.heap.size (.slice (some ⟨W2.heap.size, 0, none⟩) 0 0) 0 [] (by rfl) (by simp) oR2 _ go 0 rfl k co (Lo.take k) (by rfl) (by simp; omega) (fun j hj => by rw [Nat.zero_add, keep_below BV2 (hcs j (by omega))]; simp [List.getD, hj]) k (Nat.zero_add k) (by omega) BV2.size ?_
                            intro g3 c3 V3 oR3 gr3 hc3
                            have BV3 := own_grow BV2 BV2.size oR2 gr3
                            have cX3 := keep_grown' gr3 nX cX2
                            refine hK.out _ _ ?_ (fun hHeld => ?_)
                            · (try dsimp only); exact ⟨keep_below BV3 d19', keep_below BV3 c0'⟩
                            clear hK K
                            try simp only [putQ]
                            refine wpAnyH_ready (rs := [12]) (by kernel_rfl) (by simp) ?_
                            refine AllReadyH.cons (o := _) rfl (fun K hK => ?_) AllReadyH.nil
                            refine step_app (by rfl) _ _ (by rfl) W2.heap.size (.slice (some ⟨g3, 0, none⟩) k c3) k _ (by rfl) (by simp) oR3 (some ⟨V1.heap.size, 0, none⟩) V1.heap.size 0 rfl 1 1 [n1] (by rfl) rfl (fun j hj => by obtain rfl : j = 0 := (by omega); exact cX3) (k + 1) rfl (by omega) BV3.size ?_
                            intro g8 c8 V8 oR8 gr8 hc8
                            have BV8 := own_grow BV3 BV3.size oR3 gr8
                            refine hK.out _ _ ?_ (fun hHeld => ?_)
                            · (try dsimp only); exact ⟨keep_below BV8 d19', keep_below BV8 c0'⟩
                            clear hK K
                            try simp only [putQ]
                            refine wpAnyH_ready (rs := [16]) (by kernel_rfl) (by simp) ?_
                            refine AllReadyH.cons (o := _) rfl (fun K hK => ?_) AllReadyH.nil
                            refine step_app (by rfl) _ _ (by rfl) W2.heap.size (.slice (some ⟨g8, 0, none⟩) (k + 1) c8) (k + 1) _ (by rfl) (by simp) oR8 (if co = k then some ⟨go, 0, none⟩ else some ⟨go, k, none⟩) go (if co = k then 0 else k) (by split <;> rfl) (n - k) (co - k) (Lo.drop k) (by rfl) (by simp; omega) (fun j hj => by rw [if_neg (by omega), keep_below BV8 (hcs (k + j) (by omega))]; simp [List.getD, List.getElem?_drop]) (n + 1) (by omega) (by omega) BV8.size ?_
                            intro g9 c9 V9 oR9 gr9 hc9
                            have BV9 := own_grow BV8 BV8.size oR8 gr9
                            refine hK.out _ _ ?_ (fun hHeld => ?_)
                            · (try dsimp only); exact ⟨keep_below BV9 d19', keep_below BV9 c0'⟩
                            clear hK K
                            try simp only [putQ]
                            refine tkIns 17 (v := ?_) rfl (Or.inl ⟨by rfl, ?_⟩) (by assumption) ?_
                            rotate_left 1
                            · (intro w hS; (try dsimp only at hS); (try obtain ⟨s1, s2⟩ := hS); go_simp; try with_reducible rfl)
                            try simp only [putQ]
                            refine wpAnyH_done (by kernel_rfl) ?_ _
                            clear oR8 gr8 gr9 hc8 BV8 hcs
                            have hbF := btrans hb5 (btrans BB BV9)
                            have oF := own_mono (Nat.le_trans hbase (Nat.le_trans hb5.size BB.size)) oR9
                            have oG := own_below oFar BV9
                            clear oR9 BV9 oFar BB hb5
                            go_wp2
                            go_roundw
                            case rel =>
                              refine ⟨i + 1, gF, cF, g9, c9, n + 1, Lf.take k ++ [X] ++ Lf.drop k, Lo.take k ++ [n1] ++ Lo.drop k, by omega, by go_num, rfl, hcF, rfl, hc9, by omega, oG, by simpa using oF, ?_, ?_, ?_, hbF⟩
                              · rw [hstep.out]; exact hnew.out.1
                              · rw [hstep.out]; exact hnew.out.2.1
                              · exact hnew.out.2.2
                            case measure => simp [intOf]; omega
                        · go_simp
                          have cX1 : ((W2.alloc (.cells #[.int .i64 n1] 3)).drew).cell? ⟨W2.heap.size, 0, none⟩ = some (.int .i64 n1) := by simp [go_sem]
                          have BV1 : Below W2.heap.size W2 ((W2.alloc (.cells #[.int .i64 n1] 3)).drew) := QB1 (balloc (.cells #[.int .i64 n1] 3) (Below.refl _ W2))
                          have xlt := World.block_lt_of_cell? _ _ cX1
                          refine hK.out _ _ ?_ (fun hHeld => ?_)
                          · (try dsimp only); exact ⟨keep_below BV1 d19', keep_below BV1 c0'⟩
                          clear hK K
                          try simp only [putQ]
                          generalize ((W2.alloc (.cells #[.int .i64 n1] 3)).drew) = V1 at *
                          refine wpAnyH_ready (rs := [0]) (by kernel_rfl) (by simp) ?_
                          refine AllReadyH.cons (o := _) rfl (fun K hK => ?_) AllReadyH.nil
                          go_simp
                          have oR2 : (V1.alloc (.cells #[] 3)).ownsRow W2.heap.size 3 1 (.slice (some ⟨V1.heap.size, 0, none⟩) 0 0) 0 (lv []) := World.ownsRow_lit V1 #[] 0 (BV1.size) (by unfold maxLen; omega) rfl
                          have BV2 : Below W2.heap.size W2 (V1.alloc (.cells #[] 3)) := (balloc (.cells #[] 3) BV1)
                          have cX2 := keep_alloc (.cells #[] 3) cX1
                          have nX : W2.heap.size ≠ V1.heap.size := by simp at xlt; omega
                          refine hK.out _ _ ?_ (fun hHeld => ?_)
                          · (try dsimp only); exact ⟨keep_below BV2 d19', keep_below BV2 c0'⟩
                          clear hK K
                          try simp only [putQ]
                          generalize (V1.alloc (.cells #[] 3)) = V2 at *
                          refine wpAnyH_ready (rs := [4]) (by kernel_rfl) (by simp) ?_
                          refine AllReadyH.cons (o := _) rfl (fun K hK => ?_) AllReadyH.nil
                          refine step_app (by rfl) _ _ (by rfl) W2.heap.size (.slice (some ⟨V1.heap.size, 0, none⟩) 0 0) 0 [] (by rfl) (by simp) oR2 _ go 0 rfl k co (Lo.take k) (by rfl) (by simp; omega) (fun j hj => by rw [Nat.zero_add, keep_below BV2 (hcs j (by omega))]; simp [List.getD, hj]) k (Nat.zero_add k) (by omega) BV2.size ?_
                          intro g3 c3 V3 oR3 gr3 hc3
                          have BV3 := own_grow BV2 BV2.size oR2 gr3
                          have cX3 := keep_grown' gr3 nX cX2
                          refine hK.out _ _ ?_ (fun hHeld => ?_)
                          · (try dsimp only); exact ⟨keep_below BV3 d19', keep_below BV3 c0'⟩
                          clear hK K
                          try simp only [putQ]
                          refine wpAnyH_ready (rs := [12]) (by kernel_rfl) (by simp) ?_
                          refine AllReadyH.cons (o := _) rfl (fun K hK => ?_) AllReadyH.nil
                          refine step_app (by rfl) _ _ (by rfl) W2.heap.size (.slice (some ⟨g3, 0, none⟩) k c3) k _ (by rfl) (by simp) oR3 (some ⟨W2.heap.size, 0, none⟩) W2.heap.size 0 rfl 1 1 [n1] (by rfl) rfl (fun j hj => by obtain rfl : j = 0 := (by omega); exact cX3) (k + 1) rfl (by omega) BV3.size ?_
                          intro g8 c8 V8 oR8 gr8 hc8
                          have BV8 := own_grow BV3 BV3.size oR3 gr8
                          refine hK.out _ _ ?_ (fun hHeld => ?_)
                          · (try dsimp only); exact ⟨keep_below BV8 d19', keep_below BV8 c0'⟩
                          clear hK K
                          try simp only [putQ]
                          refine wpAnyH_ready (rs := [16]) (by kernel_rfl) (by simp) ?_
                          refine AllReadyH.cons (o := _) rfl (fun K hK => ?_) AllReadyH.nil
                          refine step_app (by rfl) _ _ (by rfl) W2.heap.size (.slice (some ⟨g8, 0, none⟩) (k + 1) c8) (k + 1) _ (by rfl) (by simp) oR8 (if co = k then some ⟨go, 0, none⟩ else some ⟨go, k, none⟩) go (if co = k then 0 else k) (by split <;> rfl) (n - k) (co - k) (Lo.drop k) (by rfl) (by simp; omega) (fun j hj => by rw [if_neg (by omega), keep_below BV8 (hcs (k + j) (by omega))]; simp [List.getD, List.getElem?_drop]) (n + 1) (by omega) (by omega) BV8.size ?_
                          intro g9 c9 V9 oR9 gr9 hc9
                          have BV9 := own_grow BV8 BV8.size oR8 gr9
                          refine hK.out _ _ ?_ (fun hHeld => ?_)
                          · (try dsimp only); exact ⟨keep_below BV9 d19', keep_below BV9 c0'⟩
                          clear hK K
                          try simp only [putQ]
                          refine tkIns 17 (v := ?_) rfl (Or.inl ⟨by rfl, ?_⟩) (by assumption) ?_
                          rotate_left 1
                          · (intro w hS; (try dsimp only at hS); (try obtain ⟨s1, s2⟩ := hS); go_simp; try with_reducible rfl)
                          try simp only [putQ]
                          refine wpAnyH_done (by kernel_rfl) ?_ _
                          clear oR8 gr8 gr9 hc8 BV8 hcs
                          have hbF := btrans hb5 (btrans BB BV9)
                          have oF := own_mono (Nat.le_trans hbase (Nat.le_trans hb5.size BB.size)) oR9
                          have oG := own_below oFar BV9
                          clear oR9 BV9 oFar BB hb5
                          go_wp2
                          go_roundw
                          case rel =>
                            refine ⟨i + 1, gF, cF, g9, c9, n + 1, Lf.take k ++ [X] ++ Lf.drop k, Lo.take k ++ [n1] ++ Lo.drop k, by omega, by go_num, rfl, hcF, rfl, hc9, by omega, oG, by simpa using oF, ?_, ?_, ?_, hbF⟩
                            · rw [hstep.out]; exact hnew.out.1
                            · rw [hstep.out]; exact hnew.out.2.1
                            · exact hnew.out.2.2
                          case measure => simp [intOf]; omega
                    · go_simp
                      have cX1 : ((W5.alloc (.cells #[.int .i64 X] 3)).drew).cell? ⟨W5.heap.size, 0, none⟩ = some (.int .i64 X) := by simp [go_sem]
                      have BV1 : Below W5.heap.size W5 ((W5.alloc (.cells #[.int .i64 X] 3)).drew) := QB1 (balloc (.cells #[.int .i64 X] 3) (Below.refl _ W5))
                      have xlt := World.block_lt_of_cell? _ _ cX1
                      refine hK.out _ _ ?_ (fun hHeld => ?_)
                      · trivial
                      clear hK K
                      try simp only [putQ]
                      generalize ((W5.alloc (.cells #[.int .i64 X] 3)).drew) = V1 at *
                      refine wpAnyH_ready (rs := [0]) (by kernel_rfl) (by simp) ?_
                      refine AllReadyH.cons (o := _) rfl (fun K hK => ?_) AllReadyH.nil
                      go_simp
                      have oR2 : (V1.alloc (.cells #[] 3)).ownsRow W5.heap.size 3 1 (.slice (some ⟨V1.heap.size, 0, none⟩) 0 0) 0 (lv []) := World.ownsRow_lit V1 #[] 0 (BV1.size) (by unfold maxLen; omega) rfl
                      have BV2 : Below W5.heap.size W5 (V1.alloc (.cells #[] 3)) := (balloc (.cells #[] 3) BV1)
                      have cX2 := keep_alloc (.cells #[] 3) cX1
                      have nX : W5.heap.size ≠ V1.heap.size := by simp at xlt; omega
                      refine hK.out _ _ ?_ (fun hHeld => ?_)
                      · trivial
                      clear hK K
                      try simp only [putQ]
                      generalize (V1.alloc (.cells #[] 3)) = V2 at *
                      refine wpAnyH_ready (rs := [4]) (by kernel_rfl) (by simp) ?_
                      refine AllReadyH.cons (o := _) rfl (fun K hK => ?_) AllReadyH.nil
                      refine step_app (by rfl) _ _ (by rfl) W5.heap.size (.slice (some ⟨V1.heap.size, 0, none⟩) 0 0) 0 [] (by rfl) (by simp) oR2 _ gf 0 rfl k cf (Lf.take k) (by rfl) (by simp; omega) (fun j hj => by rw [Nat.zero_add, keep_below BV2 (hcs j (by omega))]; simp [List.getD, hj]) k (Nat.zero_add k) (by omega) BV2.size ?_
                      intro g3 c3 V3 oR3 gr3 hc3
                      have BV3 := own_grow BV2 BV2.size oR2 gr3
                      have cX3 := keep_grown' gr3 nX cX2
                      refine hK.out _ _ ?_ (fun hHeld => ?_)
                      · trivial
                      clear hK K
                      try simp only [putQ]
                      refine wpAnyH_ready (rs := [7]) (by kernel_rfl) (by simp) ?_
                      refine AllReadyH.cons (o := _) rfl (fun K hK => ?_) AllReadyH.nil
                      refine step_app (by rfl) _ _ (by rfl) W5.heap.size (.slice (some ⟨g3, 0, none⟩) k c3) k _ (by rfl) (by simp) oR3 (some ⟨W5.heap.size, 0, none⟩) W5.heap.size 0 rfl 1 1 [X] (by rfl) rfl (fun j hj => by obtain rfl : j = 0 := (by omega); exact cX3) (k + 1) rfl (by omega) BV3.size ?_
                      intro g8 c8 V8 oR8 gr8 hc8
                      have BV8 := own_grow BV3 BV3.size oR3 gr8
                      refine hK.out _ _ ?_ (fun hHeld => ?_)
                      · trivial
                      clear hK K
                      try simp only [putQ]
                      refine wpAnyH_ready (rs := [11]) (by kernel_rfl) (by simp) ?_
                      refine AllReadyH.cons (o := _) rfl (fun K hK => ?_) AllReadyH.nil
                      refine step_app (by rfl) _ _ (by rfl) W5.heap.size (.slice (some ⟨g8, 0, none⟩) (k + 1) c8) (k + 1) _ (by rfl) (by simp) oR8 (if cf = k then some ⟨gf, 0, none⟩ else some ⟨gf, k, none⟩) gf (if cf = k then 0 else k) (by split <;> rfl) (n - k) (cf - k) (Lf.drop k) (by rfl) (by simp; omega) (fun j hj => by rw [if_neg (by omega), keep_below BV8 (hcs (k + j) (by omega))]; simp [List.getD, List.getElem?_drop]) (n + 1) (by omega) (by omega) BV8.size ?_
                      intro g9 c9 V9 oR9 gr9 hc9
                      have BV9 := own_grow BV8 BV8.size oR8 gr9
                      refine hK.out _ _ ?_ (fun hHeld => ?_)
                      · trivial
                      clear hK K
                      try simp only [putQ]
                      refine tkIns 12 (v := ?_) rfl (Or.inl ⟨by rfl, ?_⟩) (by assumption) ?_
                      rotate_left 1
                      · (intro w hS; (try dsimp only at hS); (try obtain ⟨s1, s2⟩ := hS); go_simp; try with_reducible rfl)
                      try simp only [putQ]
                      refine wpAnyH_done (by kernel_rfl) ?_ _
                      clear oR8 gr8 gr9 hc8 BV8 hcs
                      obtain ⟨gF, cF, hgF⟩ : ∃ gF cF, gF = g9 ∧ cF = c9 := ⟨_, _, rfl, rfl⟩
                      obtain ⟨rfl, rfl⟩ := hgF
                      have BB := BV9
                      have hcF := hc9
                      have oFar : V9.ownsRow w.heap.size 3 1 (.slice (some ⟨gF, 0, none⟩) (n + 1) cF) (n + 1) (lv (Lf.take k ++ [X] ++ Lf.drop k)) := by simpa using own_mono (Nat.le_trans hbase hb5.size) oR9
                      have W2o := own_below oO BV9
                      have d19' := keep_below BV9 d19w
                      have c0' := keep_below BV9 c0w
                      have hcs : ∀ j, j < n → V9.cell? ⟨go, j, none⟩ = some (.int .i64 (Lo.getD j 0)) := fun j hj => own_lv W2o j (by omega)
                      clear BV9 oR9 hc9 W2o
                      generalize V9 = W2 at *
                      (try clear cX3); (try clear cX2); (try clear cX1); (try clear nX); (try clear gr3); (try clear gr2); (try clear oR3); (try clear oR2); (try clear oR1); (try clear BV3); (try clear BV2); (try clear BV1)
                      go_upto_region 15 with fail
                      refine wp_region_held_drew (S := fun w' => w'.cell? ⟨xb, 19, none⟩ = some (.slice (some ⟨b, off, none⟩) pll plc) ∧ w'.cell? ⟨b, off + i * 6, none⟩ = some (.int .i64 n1)) (by kernel_rfl) ?_ (fun hHeld => ?_)
                      · (try dsimp only); exact ⟨d19', c0'⟩
                      refine tkIns 1 (v := ?_) rfl (Or.inl ⟨by rfl, ?_⟩) (by assumption) ?_
                      rotate_left 1
                      · (intro w hS; (try dsimp only at hS); (try obtain ⟨s1, s2⟩ := hS); go_simp; try with_reducible rfl)
                      try simp only [putQ]
                      refine tkIns 2 (v := ?_) rfl (Or.inl ⟨by rfl, ?_⟩) (by assumption) ?_
                      rotate_left 1
                      · (intro w hS; (try dsimp only at hS); (try obtain ⟨s1, s2⟩ := hS); go_simp; try with_reducible rfl)
                      try simp only [putQ]
                      refine tkIns 3 (v := ?_) rfl (Or.inl ⟨by rfl, ?_⟩) (by assumption) ?_
                      rotate_left 1
                      · (intro w hS; (try dsimp only at hS); (try obtain ⟨s1, s2⟩ := hS); go_simp; try with_reducible rfl)
                      try simp only [putQ]
                      refine tkIns 5 (v := ?_) rfl (Or.inl ⟨by rfl, ?_⟩) (by assumption) ?_
                      rotate_left 1
                      · (intro w hS; (try dsimp only at hS); (try obtain ⟨s1, s2⟩ := hS); go_simp; try with_reducible rfl)
                      try simp only [putQ]
                      refine tkIns 6 (v := ?_) rfl (Or.inl ⟨by rfl, ?_⟩) (by assumption) ?_
                      rotate_left 1
                      · (intro w hS; (try dsimp only at hS); (try obtain ⟨s1, s2⟩ := hS); go_simp; try with_reducible rfl)
                      try simp only [putQ]
                      refine tkIns 7 (v := ?_) rfl (Or.inl ⟨by rfl, ?_⟩) (by assumption) ?_
                      rotate_left 1
                      · (intro w hS; (try dsimp only at hS); (try obtain ⟨s1, s2⟩ := hS); go_simp; try with_reducible rfl)
                      try simp only [putQ]
                      refine tkIns 8 (v := ?_) rfl (Or.inl ⟨by rfl, ?_⟩) (by assumption) ?_
                      rotate_left 1
                      · (intro w hS; (try dsimp only at hS); (try obtain ⟨s1, s2⟩ := hS); go_simp; try with_reducible rfl)
                      try simp only [putQ]
                      refine tkIns 9 (v := ?_) rfl (Or.inl ⟨by rfl, ?_⟩) (by assumption) ?_
                      rotate_left 1
                      · (intro w hS; (try dsimp only at hS); (try obtain ⟨s1, s2⟩ := hS); go_simp; try with_reducible rfl)
                      try simp only [putQ]
                      refine tkIns 10 (v := ?_) rfl (Or.inl ⟨by rfl, ?_⟩) (by assumption) ?_
                      rotate_left 1
                      · (intro w hS; (try dsimp only at hS); (try obtain ⟨s1, s2⟩ := hS); go_simp; try with_reducible rfl)
                      try simp only [putQ]
                      refine tkIns 13 (v := ?_) rfl (Or.inl ⟨by rfl, ?_⟩) (by assumption) ?_
                      rotate_left 1
                      · (intro w hS; (try dsimp only at hS); (try obtain ⟨s1, s2⟩ := hS); go_simp; try with_reducible rfl)
                      try simp only [putQ]
                      refine tkIns 14 (v := ?_) rfl (Or.inl ⟨by rfl, ?_⟩) (by assumption) ?_
                      rotate_left 1
                      · (intro w hS; (try dsimp only at hS); (try obtain ⟨s1, s2⟩ := hS); go_simp; try with_reducible rfl)
                      try simp only [putQ]
                      refine tkIns 15 (v := ?_) rfl (Or.inl ⟨by rfl, ?_⟩) (by assumption) ?_
                      rotate_left 1
                      · (intro w hS; (try dsimp only at hS); (try obtain ⟨s1, s2⟩ := hS); go_simp; try with_reducible rfl)
                      try simp only [putQ]
                      refine wpAnyH_ready (rs := [0, 11]) (by kernel_rfl) (by simp) ?_
                      refine AllReadyH.cons (o := _) rfl (fun K hK => ?_) (AllReadyH.cons (o := _) rfl (fun K hK => ?_) AllReadyH.nil)
                      · go_simp
                        have oR1 : ((W2.alloc (.cells #[] 3)).drew).ownsRow W2.heap.size 3 1 (.slice (some ⟨W2.heap.size, 0, none⟩) 0 0) 0 (lv []) := World.ownsRow_lit W2 #[] 0 (Nat.le_refl _) (by unfold maxLen; omega) rfl
                        have BV1 : Below W2.heap.size W2 ((W2.alloc (.cells #[] 3)).drew) := QB1 (balloc (.cells #[] 3) (Below.refl _ W2))
                        refine hK.out _ _ ?_ (fun hHeld => ?_)
                        · (try dsimp only); exact ⟨keep_below BV1 d19', keep_below BV1 c0'⟩
                        clear hK K
                        try simp only [putQ]
                        generalize ((W2.alloc (.cells #[] 3)).drew) = V1 at *
                        refine wpAnyH_ready (rs := [4, 11]) (by kernel_rfl) (by simp) ?_
                        refine AllReadyH.cons (o := _) rfl (fun K hK => ?_) (AllReadyH.cons (o := _) rfl (fun K hK => ?_) AllReadyH.nil)
                        · refine step_app (by rfl) _ _ (by rfl) W2.heap.size (.slice (some ⟨W2.heap.size, 0, none⟩) 0 0) 0 [] (by rfl) (by simp) oR1 _ go 0 rfl k co (Lo.take k) (by rfl) (by simp; omega) (fun j hj => by rw [Nat.zero_add, keep_below BV1 (hcs j (by omega))]; simp [List.getD, hj]) k (Nat.zero_add k) (by omega) BV1.size ?_
                          intro g2 c2 V2 oR2 gr2 hc2
                          have BV2 := own_grow BV1 BV1.size oR1 gr2
                          refine hK.out _ _ ?_ (fun hHeld => ?_)
                          · (try dsimp only); exact ⟨keep_below BV2 d19', keep_below BV2 c0'⟩
                          clear hK K
                          try simp only [putQ]
                          refine wpAnyH_ready (rs := [11]) (by kernel_rfl) (by simp) ?_
                          refine AllReadyH.cons (o := _) rfl (fun K hK => ?_) AllReadyH.nil
                          go_simp
                          have cX3 : (V2.alloc (.cells #[.int .i64 n1] 3)).cell? ⟨V2.heap.size, 0, none⟩ = some (.int .i64 n1) := by simp [go_sem]
                          have BV3 : Below W2.heap.size W2 (V2.alloc (.cells #[.int .i64 n1] 3)) := (balloc (.cells #[.int .i64 n1] 3) BV2)
                          have oR3 := oR2.alloc (.cells #[.int .i64 n1] 3)
                          refine hK.out _ _ ?_ (fun hHeld => ?_)
                          · (try dsimp only); exact ⟨keep_below BV3 d19', keep_below BV3 c0'⟩
                          clear hK K
                          try simp only [putQ]
                          generalize (V2.alloc (.cells #[.int .i64 n1] 3)) = V3 at *
                          refine wpAnyH_ready (rs := [12]) (by kernel_rfl) (by simp) ?_
                          refine AllReadyH.cons (o := _) rfl (fun K hK => ?_) AllReadyH.nil
                          refine step_app (by rfl) _ _ (by rfl) W2.heap.size (.slice (some ⟨g2, 0, none⟩) k c2) k _ (by rfl) (by simp) oR3 (some ⟨V2.heap.size, 0, none⟩) V2.heap.size 0 rfl 1 1 [n1] (by rfl) rfl (fun j hj => by obtain rfl : j = 0 := (by omega); exact cX3) (k + 1) rfl (by omega) BV3.size ?_
                          intro g8 c8 V8 oR8 gr8 hc8
                          have BV8 := own_grow BV3 BV3.size oR3 gr8
                          refine hK.out _ _ ?_ (fun hHeld => ?_)
                          · (try dsimp only); exact ⟨keep_below BV8 d19', keep_below BV8 c0'⟩
                          clear hK K
                          try simp only [putQ]
                          refine wpAnyH_ready (rs := [16]) (by kernel_rfl) (by simp) ?_
                          refine AllReadyH.cons (o := _) rfl (fun K hK => ?_) AllReadyH.nil
                          refine step_app (by rfl) _ _ (by rfl) W2.heap.size (.slice (some ⟨g8, 0, none⟩) (k + 1) c8) (k + 1) _ (by rfl) (by simp) oR8 (if co = k then some ⟨go, 0, none⟩ else some ⟨go, k, none⟩) go (if co = k then 0 else k) (by split <;> rfl) (n - k) (co - k) (Lo.drop k) (by rfl) (by simp; omega) (fun j hj => by rw [if_neg (by omega), keep_below BV8 (hcs (k + j) (by omega))]; simp [List.getD, List.getElem?_drop]) (n + 1) (by omega) (by omega) BV8.size ?_
                          intro g9 c9 V9 oR9 gr9 hc9
                          have BV9 := own_grow BV8 BV8.size oR8 gr9
                          refine hK.out _ _ ?_ (fun hHeld => ?_)
                          · (try dsimp only); exact ⟨keep_below BV9 d19', keep_below BV9 c0'⟩
                          clear hK K
                          try simp only [putQ]
                          refine tkIns 17 (v := ?_) rfl (Or.inl ⟨by rfl, ?_⟩) (by assumption) ?_
                          rotate_left 1
                          · (intro w hS; (try dsimp only at hS); (try obtain ⟨s1, s2⟩ := hS); go_simp; try with_reducible rfl)
                          try simp only [putQ]
                          refine wpAnyH_done (by kernel_rfl) ?_ _
                          clear oR8 gr8 gr9 hc8 BV8 hcs
                          have hbF := btrans hb5 (btrans BB BV9)
                          have oF := own_mono (Nat.le_trans hbase (Nat.le_trans hb5.size BB.size)) oR9
                          have oG := own_below oFar BV9
                          clear oR9 BV9 oFar BB hb5
                          go_wp2
                          go_roundw
                          case rel =>
                            refine ⟨i + 1, gF, cF, g9, c9, n + 1, Lf.take k ++ [X] ++ Lf.drop k, Lo.take k ++ [n1] ++ Lo.drop k, by omega, by go_num, rfl, hcF, rfl, hc9, by omega, oG, by simpa using oF, ?_, ?_, ?_, hbF⟩
                            · rw [hstep.out]; exact hnew.out.1
                            · rw [hstep.out]; exact hnew.out.2.1
                            · exact hnew.out.2.2
                          case measure => simp [intOf]; omega
                        · go_simp
                          have cX2 : (V1.alloc (.cells #[.int .i64 n1] 3)).cell? ⟨V1.heap.size, 0, none⟩ = some (.int .i64 n1) := by simp [go_sem]
                          have BV2 : Below W2.heap.size W2 (V1.alloc (.cells #[.int .i64 n1] 3)) := (balloc (.cells #[.int .i64 n1] 3) BV1)
                          have oR2 := oR1.alloc (.cells #[.int .i64 n1] 3)
                          have nX : V1.heap.size ≠ W2.heap.size := by have := oR1.lt W2.heap.size rfl; omega
                          refine hK.out _ _ ?_ (fun hHeld => ?_)
                          · (try dsimp only); exact ⟨keep_below BV2 d19', keep_below BV2 c0'⟩
                          clear hK K
                          try simp only [putQ]
                          generalize (V1.alloc (.cells #[.int .i64 n1] 3)) = V2 at *
                          refine wpAnyH_ready (rs := [4]) (by kernel_rfl) (by simp) ?_
                          refine AllReadyH.cons (o := _) rfl (fun K hK => ?_) AllReadyH.nil
                          refine step_app (by rfl) _ _ (by rfl) W2.heap.size (.slice (some ⟨W2.heap.size, 0, none⟩) 0 0) 0 [] (by rfl) (by simp) oR2 _ go 0 rfl k co (Lo.take k) (by rfl) (by simp; omega) (fun j hj => by rw [Nat.zero_add, keep_below BV2 (hcs j (by omega))]; simp [List.getD, hj]) k (Nat.zero_add k) (by omega) BV2.size ?_
                          intro g3 c3 V3 oR3 gr3 hc3
                          have BV3 := own_grow BV2 BV2.size oR2 gr3
                          have cX3 := keep_grown' gr3 nX cX2
                          refine hK.out _ _ ?_ (fun hHeld => ?_)
                          · (try dsimp only); exact ⟨keep_below BV3 d19', keep_below BV3 c0'⟩
                          clear hK K
                          try simp only [putQ]
                          refine wpAnyH_ready (rs := [12]) (by kernel_rfl) (by simp) ?_
                          refine AllReadyH.cons (o := _) rfl (fun K hK => ?_) AllReadyH.nil
                          refine step_app (by rfl) _ _ (by rfl) W2.heap.size (.slice (some ⟨g3, 0, none⟩) k c3) k _ (by rfl) (by simp) oR3 (some ⟨V1.heap.size, 0, none⟩) V1.heap.size 0 rfl 1 1 [n1] (by rfl) rfl (fun j hj => by obtain rfl : j = 0 := (by omega); exact cX3) (k + 1) rfl (by omega) BV3.size ?_
                          intro g8 c8 V8 oR8 gr8 hc8
                          have BV8 := own_grow BV3 BV3.size oR3 gr8
                          refine hK.out _ _ ?_ (fun hHeld => ?_)
                          · (try dsimp only); exact ⟨keep_below BV8 d19', keep_below BV8 c0'⟩
                          clear hK K
                          try simp only [putQ]
                          refine wpAnyH_ready (rs := [16]) (by kernel_rfl) (by simp) ?_
                          refine AllReadyH.cons (o := _) rfl (fun K hK => ?_) AllReadyH.nil
                          refine step_app (by rfl) _ _ (by rfl) W2.heap.size (.slice (some ⟨g8, 0, none⟩) (k + 1) c8) (k + 1) _ (by rfl) (by simp) oR8 (if co = k then some ⟨go, 0, none⟩ else some ⟨go, k, none⟩) go (if co = k then 0 else k) (by split <;> rfl) (n - k) (co - k) (Lo.drop k) (by rfl) (by simp; omega) (fun j hj => by rw [if_neg (by omega), keep_below BV8 (hcs (k + j) (by omega))]; simp [List.getD, List.getElem?_drop]) (n + 1) (by omega) (by omega) BV8.size ?_
                          intro g9 c9 V9 oR9 gr9 hc9
                          have BV9 := own_grow BV8 BV8.size oR8 gr9
                          refine hK.out _ _ ?_ (fun hHeld => ?_)
                          · (try dsimp only); exact ⟨keep_below BV9 d19', keep_below BV9 c0'⟩
                          clear hK K
                          try simp only [putQ]
                          refine tkIns 17 (v := ?_) rfl (Or.inl ⟨by rfl, ?_⟩) (by assumption) ?_
                          rotate_left 1
                          · (intro w hS; (try dsimp only at hS); (try obtain ⟨s1, s2⟩ := hS); go_simp; try with_reducible rfl)
                          try simp only [putQ]
                          refine wpAnyH_done (by kernel_rfl) ?_ _
                          clear oR8 gr8 gr9 hc8 BV8 hcs
                          have hbF := btrans hb5 (btrans BB BV9)
                          have oF := own_mono (Nat.le_trans hbase (Nat.le_trans hb5.size BB.size)) oR9
                          have oG := own_below oFar BV9
                          clear oR9 BV9 oFar BB hb5
                          go_wp2
                          go_roundw
                          case rel =>
                            refine ⟨i + 1, gF, cF, g9, c9, n + 1, Lf.take k ++ [X] ++ Lf.drop k, Lo.take k ++ [n1] ++ Lo.drop k, by omega, by go_num, rfl, hcF, rfl, hc9, by omega, oG, by simpa using oF, ?_, ?_, ?_, hbF⟩
                            · rw [hstep.out]; exact hnew.out.1
                            · rw [hstep.out]; exact hnew.out.2.1
                            · exact hnew.out.2.2
                          case measure => simp [intOf]; omega
                      · go_simp
                        have cX1 : ((W2.alloc (.cells #[.int .i64 n1] 3)).drew).cell? ⟨W2.heap.size, 0, none⟩ = some (.int .i64 n1) := by simp [go_sem]
                        have BV1 : Below W2.heap.size W2 ((W2.alloc (.cells #[.int .i64 n1] 3)).drew) := QB1 (balloc (.cells #[.int .i64 n1] 3) (Below.refl _ W2))
                        have xlt := World.block_lt_of_cell? _ _ cX1
                        refine hK.out _ _ ?_ (fun hHeld => ?_)
                        · (try dsimp only); exact ⟨keep_below BV1 d19', keep_below BV1 c0'⟩
                        clear hK K
                        try simp only [putQ]
                        generalize ((W2.alloc (.cells #[.int .i64 n1] 3)).drew) = V1 at *
                        refine wpAnyH_ready (rs := [0]) (by kernel_rfl) (by simp) ?_
                        refine AllReadyH.cons (o := _) rfl (fun K hK => ?_) AllReadyH.nil
                        go_simp
                        have oR2 : (V1.alloc (.cells #[] 3)).ownsRow W2.heap.size 3 1 (.slice (some ⟨V1.heap.size, 0, none⟩) 0 0) 0 (lv []) := World.ownsRow_lit V1 #[] 0 (BV1.size) (by unfold maxLen; omega) rfl
                        have BV2 : Below W2.heap.size W2 (V1.alloc (.cells #[] 3)) := (balloc (.cells #[] 3) BV1)
                        have cX2 := keep_alloc (.cells #[] 3) cX1
                        have nX : W2.heap.size ≠ V1.heap.size := by simp at xlt; omega
                        refine hK.out _ _ ?_ (fun hHeld => ?_)
                        · (try dsimp only); exact ⟨keep_below BV2 d19', keep_below BV2 c0'⟩
                        clear hK K
                        try simp only [putQ]
                        generalize (V1.alloc (.cells #[] 3)) = V2 at *
                        refine wpAnyH_ready (rs := [4]) (by kernel_rfl) (by simp) ?_
                        refine AllReadyH.cons (o := _) rfl (fun K hK => ?_) AllReadyH.nil
                        refine step_app (by rfl) _ _ (by rfl) W2.heap.size (.slice (some ⟨V1.heap.size, 0, none⟩) 0 0) 0 [] (by rfl) (by simp) oR2 _ go 0 rfl k co (Lo.take k) (by rfl) (by simp; omega) (fun j hj => by rw [Nat.zero_add, keep_below BV2 (hcs j (by omega))]; simp [List.getD, hj]) k (Nat.zero_add k) (by omega) BV2.size ?_
                        intro g3 c3 V3 oR3 gr3 hc3
                        have BV3 := own_grow BV2 BV2.size oR2 gr3
                        have cX3 := keep_grown' gr3 nX cX2
                        refine hK.out _ _ ?_ (fun hHeld => ?_)
                        · (try dsimp only); exact ⟨keep_below BV3 d19', keep_below BV3 c0'⟩
                        clear hK K
                        try simp only [putQ]
                        refine wpAnyH_ready (rs := [12]) (by kernel_rfl) (by simp) ?_
                        refine AllReadyH.cons (o := _) rfl (fun K hK => ?_) AllReadyH.nil
                        refine step_app (by rfl) _ _ (by rfl) W2.heap.size (.slice (some ⟨g3, 0, none⟩) k c3) k _ (by rfl) (by simp) oR3 (some ⟨W2.heap.size, 0, none⟩) W2.heap.size 0 rfl 1 1 [n1] (by rfl) rfl (fun j hj => by obtain rfl : j = 0 := (by omega); exact cX3) (k + 1) rfl (by omega) BV3.size ?_
                        intro g8 c8 V8 oR8 gr8 hc8
                        have BV8 := own_grow BV3 BV3.size oR3 gr8
                        refine hK.out _ _ ?_ (fun hHeld => ?_)
                        · (try dsimp only); exact ⟨keep_below BV8 d19', keep_below BV8 c0'⟩
                        clear hK K
                        try simp only [putQ]
                        refine wpAnyH_ready (rs := [16]) (by kernel_rfl) (by simp) ?_
                        refine AllReadyH.cons (o := _) rfl (fun K hK => ?_) AllReadyH.nil
                        refine step_app (by rfl) _ _ (by rfl) W2.heap.size (.slice (some ⟨g8, 0, none⟩) (k + 1) c8) (k + 1) _ (by rfl) (by simp) oR8 (if co = k then some ⟨go, 0, none⟩ else some ⟨go, k, none⟩) go (if co = k then 0 else k) (by split <;> rfl) (n - k) (co - k) (Lo.drop k) (by rfl) (by simp; omega) (fun j hj => by rw [if_neg (by omega), keep_below BV8 (hcs (k + j) (by omega))]; simp [List.getD, List.getElem?_drop]) (n + 1) (by omega) (by omega) BV8.size ?_
                        intro g9 c9 V9 oR9 gr9 hc9
                        have BV9 := own_grow BV8 BV8.size oR8 gr9
                        refine hK.out _ _ ?_ (fun hHeld => ?_)
                        · (try dsimp only); exact ⟨keep_below BV9 d19', keep_below BV9 c0'⟩
                        clear hK K
                        try simp only [putQ]
                        refine tkIns 17 (v := ?_) rfl (Or.inl ⟨by rfl, ?_⟩) (by assumption) ?_
                        rotate_left 1
                        · (intro w hS; (try dsimp only at hS); (try obtain ⟨s1, s2⟩ := hS); go_simp; try with_reducible rfl)
                        try simp only [putQ]
                        refine wpAnyH_done (by kernel_rfl) ?_ _
                        clear oR8 gr8 gr9 hc8 BV8 hcs
                        have hbF := btrans hb5 (btrans BB BV9)
                        have oF := own_mono (Nat.le_trans hbase (Nat.le_trans hb5.size BB.size)) oR9
                        have oG := own_below oFar BV9
                        clear oR9 BV9 oFar BB hb5
                        go_wp2
                        go_roundw
                        case rel =>
                          refine ⟨i + 1, gF, cF, g9, c9, n + 1, Lf.take k ++ [X] ++ Lf.drop k, Lo.take k ++ [n1] ++ Lo.drop k, by omega, by go_num, rfl, hcF, rfl, hc9, by omega, oG, by simpa using oF, ?_, ?_, ?_, hbF⟩
                          · rw [hstep.out]; exact hnew.out.1
                          · rw [hstep.out]; exact hnew.out.2.1
                          · exact hnew.out.2.2
                        case measure => simp [intOf]; omega
                · have i7 : ¬ (k : Int) < (n : Int) := by omega
                  have hnew : Hid _ := hnew0.out (fun h => absurd h hlk)
                  clear hnew0
                  have hb5 : Below V0.heap.size V0 (wr) := QB' hb2
                  have oF5 : (wr).ownsRow w.heap.size 3 1 (.slice (some ⟨gf, 0, none⟩) n cf) n (lv Lf) := oF2
                  have oO5 : (wr).ownsRow w.heap.size 3 1 (.slice (some ⟨go, 0, none⟩) n co) n (lv Lo) := oO2
                  have d19w : (wr).cell? ⟨xb, 19, none⟩ = some (.slice (some ⟨b, off, none⟩) pll plc) := d19k
                  have c0w : (wr).cell? ⟨b, off + i * 6, none⟩ = some (.int .i64 n1) := c0k
                  clear hb2 oF2 oO2 d19k c0k hall
                  generalize (wr) = W5 at *
                  have oO := oO5
                  
                  have k7 : (k : Int) ≤ (n : Int) := by omega
                  have k8 : (0 : Int) ≤ (k : Int) := by omega
                  have kf : k ≤ cf := by omega
                  have ko : k ≤ co := by omega
                  have hcs : ∀ j, j < n → W5.cell? ⟨gf, j, none⟩ = some (.int .i64 (Lf.getD j 0)) := fun j hj => own_lv oF5 j hj
                  go_upto_region 14 with fail
                  refine wp_region_held_drew (S := (fun w' => True)) (by kernel_rfl) ?_ (fun hHeld => ?_)
                  · trivial
                  refine tkIns 1 (v := ?_) rfl (Or.inl ⟨by rfl, ?_⟩) (by assumption) ?_
                  rotate_left 1
                  · (intro w hS; (try dsimp only at hS); (try obtain ⟨s1, s2⟩ := hS); go_simp; try with_reducible rfl)
                  try simp only [putQ]
                  refine tkIns 2 (v := ?_) rfl (Or.inl ⟨by rfl, ?_⟩) (by assumption) ?_
                  rotate_left 1
                  · (intro w hS; (try dsimp only at hS); (try obtain ⟨s1, s2⟩ := hS); go_simp; try with_reducible rfl)
                  try simp only [putQ]
                  refine tkIns 3 (v := ?_) rfl (Or.inl ⟨by rfl, ?_⟩) (by assumption) ?_
                  rotate_left 1
                  · (intro w hS; (try dsimp only at hS); (try obtain ⟨s1, s2⟩ := hS); go_simp; try with_reducible rfl)
                  try simp only [putQ]
                  refine tkIns 5 (v := ?_) rfl (Or.inl ⟨by rfl, ?_⟩) (by assumption) ?_
                  rotate_left 1
                  · (intro w hS; (try dsimp only at hS); (try obtain ⟨s1, s2⟩ := hS); go_simp; try with_reducible rfl)
                  try simp only [putQ]
                  refine tkIns 8 (v := ?_) rfl (Or.inl ⟨by rfl, ?_⟩) (by assumption) ?_
                  rotate_left 1
                  · (intro w hS; (try dsimp only at hS); (try obtain ⟨s1, s2⟩ := hS); go_simp; try with_reducible rfl)
                  try simp only [putQ]
                  refine tkIns 9 (v := ?_) rfl (Or.inl ⟨by rfl, ?_⟩) (by assumption) ?_
                  rotate_left 1
                  · (intro w hS; (try dsimp only at hS); (try obtain ⟨s1, s2⟩ := hS); go_simp; try with_reducible rfl)
                  try simp only [putQ]
                  refine tkIns 10 (v := ?_) rfl (Or.inl ⟨by rfl, ?_⟩) (by assumption) ?_
                  rotate_left 1
                  · (intro w hS; (try dsimp only at hS); (try obtain ⟨s1, s2⟩ := hS); go_simp; try with_reducible rfl)
                  try simp only [putQ]
                  refine wpAnyH_ready (rs := [0, 6]) (by kernel_rfl) (by simp) ?_
                  refine AllReadyH.cons (o := _) rfl (fun K hK => ?_) (AllReadyH.cons (o := _) rfl (fun K hK => ?_) AllReadyH.nil)
                  · go_simp
                    have oR1 : ((W5.alloc (.cells #[] 3)).drew).ownsRow W5.heap.size 3 1 (.slice (some ⟨W5.heap.size, 0, none⟩) 0 0) 0 (lv []) := World.ownsRow_lit W5 #[] 0 (Nat.le_refl _) (by unfold maxLen; omega) rfl
                    have BV1 : Below W5.heap.size W5 ((W5.alloc (.cells #[] 3)).drew) := QB1 (balloc (.cells #[] 3) (Below.refl _ W5))
                    refine hK.out _ _ ?_ (fun hHeld => ?_)
                    · trivial
                    clear hK K
                    try simp only [putQ]
                    generalize ((W5.alloc (.cells #[] 3)).drew) = V1 at *
                    refine wpAnyH_ready (rs := [4, 6]) (by kernel_rfl) (by simp) ?_
                    refine AllReadyH.cons (o := _) rfl (fun K hK => ?_) (AllReadyH.cons (o := _) rfl (fun K hK => ?_) AllReadyH.nil)
                    · refine step_app (by rfl) _ _ (by rfl) W5.heap.size (.slice (some ⟨W5.heap.size, 0, none⟩) 0 0) 0 [] (by rfl) (by simp) oR1 _ gf 0 rfl k cf (Lf.take k) (by rfl) (by simp; omega) (fun j hj => by rw [Nat.zero_add, keep_below BV1 (hcs j (by omega))]; simp [List.getD, hj]) k (Nat.zero_add k) (by omega) BV1.size ?_
                      intro g2 c2 V2 oR2 gr2 hc2
                      have BV2 := own_grow BV1 BV1.size oR1 gr2
                      refine hK.out _ _ ?_ (fun hHeld => ?_)
                      · trivial
                      clear hK K
                      try simp only [putQ]
                      refine wpAnyH_ready (rs := [6]) (by kernel_rfl) (by simp) ?_
                      refine AllReadyH.cons (o := _) rfl (fun K hK => ?_) AllReadyH.nil
                      go_simp
                      have cX3 : (V2.alloc (.cells #[.int .i64 X] 3)).cell? ⟨V2.heap.size, 0, none⟩ = some (.int .i64 X) := by simp [go_sem]
                      have BV3 : Below W5.heap.size W5 (V2.alloc (.cells #[.int .i64 X] 3)) := (balloc (.cells #[.int .i64 X] 3) BV2)
                      have oR3 := oR2.alloc (.cells #[.int .i64 X] 3)
                      refine hK.out _ _ ?_ (fun hHeld => ?_)
                      · trivial
                      clear hK K
                      try simp only [putQ]
                      generalize (V2.alloc (.cells #[.int .i64 X] 3)) = V3 at *
                      refine wpAnyH_ready (rs := [7]) (by kernel_rfl) (by simp) ?_
                      refine AllReadyH.cons (o := _) rfl (fun K hK => ?_) AllReadyH.nil
                      refine step_app (by rfl) _ _ (by rfl) W5.heap.size (.slice (some ⟨g2, 0, none⟩) k c2) k _ (by rfl) (by simp) oR3 (some ⟨V2.heap.size, 0, none⟩) V2.heap.size 0 rfl 1 1 [X] (by rfl) rfl (fun j hj => by obtain rfl : j = 0 := (by omega); exact cX3) (k + 1) rfl (by omega) BV3.size ?_
                      intro g8 c8 V8 oR8 gr8 hc8
                      have BV8 := own_grow BV3 BV3.size oR3 gr8
                      refine hK.out _ _ ?_ (fun hHeld => ?_)
                      · trivial
                      clear hK K
                      try simp only [putQ]
                      refine wpAnyH_ready (rs := [11]) (by kernel_rfl) (by simp) ?_
                      refine AllReadyH.cons (o := _) rfl (fun K hK => ?_) AllReadyH.nil
                      refine step_app (by rfl) _ _ (by rfl) W5.heap.size (.slice (some ⟨g8, 0, none⟩) (k + 1) c8) (k + 1) _ (by rfl) (by simp) oR8 (if cf = k then some ⟨gf, 0, none⟩ else some ⟨gf, k, none⟩) gf (if cf = k then 0 else k) (by split <;> rfl) (n - k) (cf - k) (Lf.drop k) (by rfl) (by simp; omega) (fun j hj => by rw [if_neg (by omega), keep_below BV8 (hcs (k + j) (by omega))]; simp [List.getD, List.getElem?_drop]) (n + 1) (by omega) (by omega) BV8.size ?_
                      intro g9 c9 V9 oR9 gr9 hc9
                      have BV9 := own_grow BV8 BV8.size oR8 gr9
                      refine hK.out _ _ ?_ (fun hHeld => ?_)
                      · trivial
                      clear hK K
                      try simp only [putQ]
                      refine tkIns 12 (v := ?_) rfl (Or.inl ⟨by rfl, ?_⟩) (by assumption) ?_
                      rotate_left 1
                      · (intro w hS; (try dsimp only at hS); (try obtain ⟨s1, s2⟩ := hS); go_simp; try with_reducible rfl)
                      try simp only [putQ]
                      refine wpAnyH_done (by kernel_rfl) ?_ _
                      clear oR8 gr8 gr9 hc8 BV8 hcs
                      obtain ⟨gF, cF, hgF⟩ : ∃ gF cF, gF = g9 ∧ cF = c9 := ⟨_, _, rfl, rfl⟩
                      obtain ⟨rfl, rfl⟩ := hgF
                      have BB := BV9
                      have hcF := hc9
                      have oFar : V9.ownsRow w.heap.size 3 1 (.slice (some ⟨gF, 0, none⟩) (n + 1) cF) (n + 1) (lv (Lf.take k ++ [X] ++ Lf.drop k)) := by simpa using own_mono (Nat.le_trans hbase hb5.size) oR9
                      have W2o := own_below oO BV9
                      have d19' := keep_below BV9 d19w
                      have c0' := keep_below BV9 c0w
                      have hcs : ∀ j, j < n → V9.cell? ⟨go, j, none⟩ = some (.int .i64 (Lo.getD j 0)) := fun j hj => own_lv W2o j (by omega)
                      clear BV9 oR9 hc9 W2o
                      generalize V9 = W2 at *
                      (try clear cX3); (try clear cX2); (try clear cX1); (try clear nX); (try clear gr3); (try clear gr2); (try clear oR3); (try clear oR2); (try clear oR1); (try clear BV3); (try clear BV2); (try clear BV1)
                      go_upto_region 15 with fail
                      refine wp_region_held_drew (S := fun w' => w'.cell? ⟨xb, 19, none⟩ = some (.slice (some ⟨b, off, none⟩) pll plc) ∧ w'.cell? ⟨b, off + i * 6, none⟩ = some (.int .i64 n1)) (by kernel_rfl) ?_ (fun hHeld => ?_)
                      · (try dsimp only); exact ⟨d19', c0'⟩
                      refine tkIns 1 (v := ?_) rfl (Or.inl ⟨by rfl, ?_⟩) (by assumption) ?_
                      rotate_left 1
                      · (intro w hS; (try dsimp only at hS); (try obtain ⟨s1, s2⟩ := hS); go_simp; try with_reducible rfl)
                      try simp only [putQ]
                      refine tkIns 2 (v := ?_) rfl (Or.inl ⟨by rfl, ?_⟩) (by assumption) ?_
                      rotate_left 1
                      · (intro w hS; (try dsimp only at hS); (try obtain ⟨s1, s2⟩ := hS); go_simp; try with_reducible rfl)
                      try simp only [putQ]
                      refine tkIns 3 (v := ?_) rfl (Or.inl ⟨by rfl, ?_⟩) (by assumption) ?_
                      rotate_left 1
                      · (intro w hS; (try dsimp only at hS); (try obtain ⟨s1, s2⟩ := hS); go_simp; try with_reducible rfl)
                      try simp only [putQ]
                      refine tkIns 5 (v := ?_) rfl (Or.inl ⟨by rfl, ?_⟩) (by assumption) ?_
                      rotate_left 1
                      · (intro w hS; (try dsimp only at hS); (try obtain ⟨s1, s2⟩ := hS); go_simp; try with_reducible rfl)
                      try simp only [putQ]
                      refine tkIns 6 (v := ?_) rfl (Or.inl ⟨by rfl, ?_⟩) (by assumption) ?_
                      rotate_left 1
                      · (intro w hS; (try dsimp only at hS); (try obtain ⟨s1, s2⟩ := hS); go_simp; try with_reducible rfl)
                      try simp only [putQ]
                      refine tkIns 7 (v := ?_) rfl (Or.inl ⟨by rfl, ?_⟩) (by assumption) ?_
                      rotate_left 1
                      · (intro w hS; (try dsimp only at hS); (try obtain ⟨s1, s2⟩ := hS); go_simp; try with_reducible rfl)
                      try simp only [putQ]
                      refine tkIns 8 (v := ?_) rfl (Or.inl ⟨by rfl, ?_⟩) (by assumption) ?_
                      rotate_left 1
                      · (intro w hS; (try dsimp only at hS); (try obtain ⟨s1, s2⟩ := hS); go_simp; try with_reducible rfl)
                      try simp only [putQ]
                      refine tkIns 9 (v := ?_) rfl (Or.inl ⟨by rfl, ?_⟩) (by assumption) ?_
                      rotate_left 1
                      · (intro w hS; (try dsimp only at hS); (try obtain ⟨s1, s2⟩ := hS); go_simp; try with_reducible rfl)
                      try simp only [putQ]
                      refine tkIns 10 (v := ?_) rfl (Or.inl ⟨by rfl, ?_⟩) (by assumption) ?_
                      rotate_left 1
                      · (intro w hS; (try dsimp only at hS); (try obtain ⟨s1, s2⟩ := hS); go_simp; try with_reducible rfl)
                      try simp only [putQ]
                      refine tkIns 13 (v := ?_) rfl (Or.inl ⟨by rfl, ?_⟩) (by assumption) ?_
                      rotate_left 1
                      · (intro w hS; (try dsimp only at hS); (try obtain ⟨s1, s2⟩ := hS); go_simp; try with_reducible rfl)
                      try simp only [putQ]
                      refine tkIns 14 (v := ?_) rfl (Or.inl ⟨by rfl, ?_⟩) (by assumption) ?_
                      rotate_left 1
                      · (intro w hS; (try dsimp only at hS); (try obtain ⟨s1, s2⟩ := hS); go_simp; try with_reducible rfl)
                      try simp only [putQ]
                      refine tkIns 15 (v := ?_) rfl (Or.inl ⟨by rfl, ?_⟩) (by assumption) ?_
                      rotate_left 1
                      · (intro w hS; (try dsimp only at hS); (try obtain ⟨s1, s2⟩ := hS); go_simp; try with_reducible rfl)
                      try simp only [putQ]
                      refine wpAnyH_ready (rs := [0, 11]) (by kernel_rfl) (by simp) ?_
                      refine AllReadyH.cons (o := _) rfl (fun K hK => ?_) (AllReadyH.cons (o := _) rfl (fun K hK => ?_) AllReadyH.nil)
                      · go_simp
                        have oR1 : ((W2.alloc (.cells #[] 3)).drew).ownsRow W2.heap.size 3 1 (.slice (some ⟨W2.heap.size, 0, none⟩) 0 0) 0 (lv []) := World.ownsRow_lit W2 #[] 0 (Nat.le_refl _) (by unfold maxLen; omega) rfl
                        have BV1 : Below W2.heap.size W2 ((W2.alloc (.cells #[] 3)).drew) := QB1 (balloc (.cells #[] 3) (Below.refl _ W2))
                        refine hK.out _ _ ?_ (fun hHeld => ?_)
                        · (try dsimp only); exact ⟨keep_below BV1 d19', keep_below BV1 c0'⟩
                        clear hK K
                        try simp only [putQ]
                        generalize ((W2.alloc (.cells #[] 3)).drew) = V1 at *
                        refine wpAnyH_ready (rs := [4, 11]) (by kernel_rfl) (by simp) ?_
                        refine AllReadyH.cons (o := _) rfl (fun K hK => ?_) (AllReadyH.cons (o := _) rfl (fun K hK => ?_) AllReadyH.nil)
                        · refine step_app (by rfl) _ _ (by rfl) W2.heap.size (.slice (some ⟨W2.heap.size, 0, none⟩) 0 0) 0 [] (by rfl) (by simp) oR1 _ go 0 rfl k co (Lo.take k) (by rfl) (by simp; omega) (fun j hj => by rw [Nat.zero_add, keep_below BV1 (hcs j (by omega))]; simp [List.getD, hj]) k (Nat.zero_add k) (by omega) BV1.size ?_
                          intro g2 c2 V2 oR2 gr2 hc2
                          have BV2 := own_grow BV1 BV1.size oR1 gr2
                          refine hK.out _ _ ?_ (fun hHeld => ?_)
                          · (try dsimp only); exact ⟨keep_below BV2 d19', keep_below BV2 c0'⟩
                          clear hK K
                          try simp only [putQ]
                          refine wpAnyH_ready (rs := [11]) (by kernel_rfl) (by simp) ?_
                          refine AllReadyH.cons (o := _) rfl (fun K hK => ?_) AllReadyH.nil
                          go_simp
                          have cX3 : (V2.alloc (.cells #[.int .i64 n1] 3)).cell? ⟨V2.heap.size, 0, none⟩ = some (.int .i64 n1) := by simp [go_sem]
                          have BV3 : Below W2.heap.size W2 (V2.alloc (.cells #[.int .i64 n1] 3)) := (balloc (.cells #[.int .i64 n1] 3) BV2)
                          have oR3 := oR2.alloc (.cells #[.int .i64 n1] 3)
                          refine hK.out _ _ ?_ (fun hHeld => ?_)
                          · (try dsimp only); exact ⟨keep_below BV3 d19', keep_below BV3 c0'⟩
                          clear hK K
                          try simp only [putQ]
                          generalize (V2.alloc (.cells #[.int .i64 n1] 3)) = V3 at *
                          refine wpAnyH_ready (rs := [12]) (by kernel_rfl) (by simp) ?_
                          refine AllReadyH.cons (o := _) rfl (fun K hK => ?_) AllReadyH.nil
                          refine step_app (by rfl) _ _ (by rfl) W2.heap.size (.slice (some ⟨g2, 0, none⟩) k c2) k _ (by rfl) (by simp) oR3 (some ⟨V2.heap.size, 0, none⟩) V2.heap.size 0 rfl 1 1 [n1] (by rfl) rfl (fun j hj => by obtain rfl : j = 0 := (by omega); exact cX3) (k + 1) rfl (by omega) BV3.size ?_
                          intro g8 c8 V8 oR8 gr8 hc8
                          have BV8 := own_grow BV3 BV3.size oR3 gr8
                          refine hK.out _ _ ?_ (fun hHeld => ?_)
                          · (try dsimp only); exact ⟨keep_below BV8 d19', keep_below BV8 c0'⟩
                          clear hK K
                          try simp only [putQ]
                          refine wpAnyH_ready (rs := [16]) (by kernel_rfl) (by simp) ?_
                          refine AllReadyH.cons (o := _) rfl (fun K hK => ?_) AllReadyH.nil
                          refine step_app (by rfl) _ _ (by rfl) W2.heap.size (.slice (some ⟨g8, 0, none⟩) (k + 1) c8) (k + 1) _ (by rfl) (by simp) oR8 (if co = k then some ⟨go, 0, none⟩ else some ⟨go, k, none⟩) go (if co = k then 0 else k) (by split <;> rfl) (n - k) (co - k) (Lo.drop k) (by rfl) (by simp; omega) (fun j hj => by rw [if_neg (by omega), keep_below BV8 (hcs (k + j) (by omega))]; simp [List.getD, List.getElem?_drop]) (n + 1) (by omega) (by omega) BV8.size ?_
                          intro g9 c9 V9 oR9 gr9 hc9
                          have BV9 := own_grow BV8 BV8.size oR8 gr9
                          refine hK.out _ _ ?_ (fun hHeld => ?_)
                          · (try dsimp only); exact ⟨keep_below BV9 d19', keep_below BV9 c0'⟩
                          clear hK K
                          try simp only [putQ]
                          refine tkIns 17 (v := ?_) rfl (Or.inl ⟨by rfl, ?_⟩) (by assumption) ?_
                          rotate_left 1
                          · (intro w hS; (try dsimp only at hS); (try obtain ⟨s1, s2⟩ := hS); go_simp; try with_reducible rfl)
                          try simp only [putQ]
                          refine wpAnyH_done (by kernel_rfl) ?_ _
                          clear oR8 gr8 gr9 hc8 BV8 hcs
                          have hbF := btrans hb5 (btrans BB BV9)
                          have oF := own_mono (Nat.le_trans hbase (Nat.le_trans hb5.size BB.size)) oR9
                          have oG := own_below oFar BV9
                          clear oR9 BV9 oFar BB hb5
                          go_wp2
                          go_roundw
                          case rel =>
                            refine ⟨i + 1, gF, cF, g9, c9, n + 1, Lf.take k ++ [X] ++ Lf.drop k, Lo.take k ++ [n1] ++ Lo.drop k, by omega, by go_num, rfl, hcF, rfl, hc9, by omega, oG, by simpa using oF, ?_, ?_, ?_, hbF⟩
                            · rw [hstep.out]; exact hnew.out.1
                            · rw [hstep.out]; exact hnew.out.2.1
                            · exact hnew.out.2.2
                          case measure => simp [intOf]; omega
                        · go_simp
                          have cX2 : (V1.alloc (.cells #[.int .i64 n1] 3)).cell? ⟨V1.heap.size, 0, none⟩ = some (.int .i64 n1) := by simp [go_sem]
                          have BV2 : Below W2.heap.size W2 (V1.alloc (.cells #[.int .i64 n1] 3)) := (balloc (.cells #[.int .i64 n1] 3) BV1)
                          have oR2 := oR1.alloc (.cells #[.int .i64 n1] 3)
                          have nX : V1.heap.size ≠ W2.heap.size := by have := oR1.lt W2.heap.size rfl; omega
                          refine hK.out _ _ ?_ (fun hHeld => ?_)
                          · (try dsimp only); exact ⟨keep_below BV2 d19', keep_below BV2 c0'⟩
                          clear hK K
                          try simp only [putQ]
                          generalize (V1.alloc (.cells #[.int .i64 n1] 3)) = V2 at *
                          refine wpAnyH_ready (rs := [4]) (by kernel_rfl) (by simp) ?_
                          refine AllReadyH.cons (o := _) rfl (fun K hK => ?_) AllReadyH.nil
                          refine step_app (by rfl) _ _ (by rfl) W2.heap.size (.slice (some ⟨W2.heap.size, 0, none⟩) 0 0) 0 [] (by rfl) (by simp) oR2 _ go 0 rfl k co (Lo.take k) (by rfl) (by simp; omega) (fun j hj => by rw [Nat.zero_add, keep_below BV2 (hcs j (by omega))]; simp [List.getD, hj]) k (Nat.zero_add k) (by omega) BV2.size ?_
                          intro g3 c3 V3 oR3 gr3 hc3
                          have BV3 := own_grow BV2 BV2.size oR2 gr3
                          have cX3 := keep_grown' gr3 nX cX2
                          refine hK.out _ _ ?_ (fun hHeld => ?_)
                          · (try dsimp only); exact ⟨keep_below BV3 d19', keep_below BV3 c0'⟩
                          clear hK K
                          try simp only [putQ]
                          refine wpAnyH_ready (rs := [12]) (by kernel_rfl) (by simp) ?_
                          refine AllReadyH.cons (o := _) rfl (fun K hK => ?_) AllReadyH.nil
                          refine step_app (by rfl) _ _ (by rfl) W2.heap.size (.slice (some ⟨g3, 0, none⟩) k c3) k _ (by rfl) (by simp) oR3 (some ⟨V1.heap.size, 0, none⟩) V1.heap.size 0 rfl 1 1 [n1] (by rfl) rfl (fun j hj => by obtain rfl : j = 0 := (by omega); exact cX3) (k + 1) rfl (by omega) BV3.size ?_
                          intro g8 c8 V8 oR8 gr8 hc8
                          have BV8 := own_grow BV3 BV3.size oR3 gr8
                          refine hK.out _ _ ?_ (fun hHeld => ?_)
                          · (try dsimp only); exact ⟨keep_below BV8 d19', keep_below BV8 c0'⟩
                          clear hK K
                          try simp only [putQ]
                          refine wpAnyH_ready (rs := [16]) (by kernel_rfl) (by simp) ?_
                          refine AllReadyH.cons (o := _) rfl (fun K hK => ?_) AllReadyH.nil
                          refine step_app (by rfl) _ _ (by rfl) W2.heap.size (.slice (some ⟨g8, 0, none⟩) (k + 1) c8) (k + 1) _ (by rfl) (by simp) oR8 (if co = k then some ⟨go, 0, none⟩ else some ⟨go, k, none⟩) go (if co = k then 0 else k) (by split <;> rfl) (n - k) (co - k) (Lo.drop k) (by rfl) (by simp; omega) (fun j hj => by rw [if_neg (by omega), keep_below BV8 (hcs (k + j) (by omega))]; simp [List.getD, List.getElem?_drop]) (n + 1) (by omega) (by omega) BV8.size ?_
                          intro g9 c9 V9 oR9 gr9 hc9
                          have BV9 := own_grow BV8 BV8.size oR8 gr9
                          refine hK.out _ _ ?_ (fun hHeld => ?_)
                          · (try dsimp only); exact ⟨keep_below BV9 d19', keep_below BV9 c0'⟩
                          clear hK K
                          try simp only [putQ]
                          refine tkIns 17 (v := ?_) rfl (Or.inl ⟨by rfl, ?_⟩) (by assumption) ?_
                          rotate_left 1
                          · (intro w hS; (try dsimp only at hS); (try obtain ⟨s1, s2⟩ := hS); go_simp; try with_reducible rfl)
                          try simp only [putQ]
                          refine wpAnyH_done (by kernel_rfl) ?_ _
                          clear oR8 gr8 gr9 hc8 BV8 hcs
                          have hbF := btrans hb5 (btrans BB BV9)
                          have oF := own_mono (Nat.le_trans hbase (Nat.le_trans hb5.size BB.size)) oR9
                          have oG := own_below oFar BV9
                          clear oR9 BV9 oFar BB hb5
                          go_wp2
                          go_roundw
                          case rel =>
                            refine ⟨i + 1, gF, cF, g9, c9, n + 1, Lf.take k ++ [X] ++ Lf.drop k, Lo.take k ++ [n1] ++ Lo.drop k, by omega, by go_num, rfl, hcF, rfl, hc9, by omega, oG, by simpa using oF, ?_, ?_, ?_, hbF⟩
                            · rw [hstep.out]; exact hnew.out.1
                            · rw [hstep.out]; exact hnew.out.2.1
                            · exact hnew.out.2.2
                          case measure => simp [intOf]; omega
                      · go_simp
                        have cX1 : ((W2.alloc (.cells #[.int .i64 n1] 3)).drew).cell? ⟨W2.heap.size, 0, none⟩ = some (.int .i64 n1) := by simp [go_sem]
                        have BV1 : Below W2.heap.size W2 ((W2.alloc (.cells #[.int .i64 n1] 3)).drew) := QB1 (balloc (.cells #[.int .i64 n1] 3) (Below.refl _ W2))
                        have xlt := World.block_lt_of_cell? _ _ cX1
                        refine hK.out _ _ ?_ (fun hHeld => ?_)
                        · (try dsimp only); exact ⟨keep_below BV1 d19', keep_below BV1 c0'⟩
                        clear hK K
                        try simp only [putQ]
                        generalize ((W2.alloc (.cells #[.int .i64 n1] 3)).drew) = V1 at *
                        refine wpAnyH_ready (rs := [0]) (by kernel_rfl) (by simp) ?_
                        refine AllReadyH.cons (o := _) rfl (fun K hK => ?_) AllReadyH.nil
                        go_simp
                        have oR2 : (V1.alloc (.cells #[] 3)).ownsRow W2.heap.size 3 1 (.slice (some ⟨V1.heap.size, 0, none⟩) 0 0) 0 (lv []) := World.ownsRow_lit V1 #[] 0 (BV1.size) (by unfold maxLen; omega) rfl
                        have BV2 : Below W2.heap.size W2 (V1.alloc (.cells #[] 3)) := (balloc (.cells #[] 3) BV1)
                        have cX2 := keep_alloc (.cells #[] 3) cX1
                        have nX : W2.heap.size ≠ V1.heap.size := by simp at xlt; omega
                        refine hK.out _ _ ?_ (fun hHeld => ?_)
                        · (try dsimp only); exact ⟨keep_below BV2 d19', keep_below BV2 c0'⟩
                        clear hK K
                        try simp only [putQ]
                        generalize (V1.alloc (.cells #[] 3)) = V2 at *
                        refine wpAnyH_ready (rs := [4]) (by kernel_rfl) (by simp) ?_
                        refine AllReadyH.cons (o := _) rfl (fun K hK => ?_) AllReadyH.nil
                        refine step_app (by rfl) _ _ (by rfl) W2.heap.size (.slice (some ⟨V1.heap.size, 0, none⟩) 0 0) 0 [] (by rfl) (by simp) oR2 _ go 0 rfl k co (Lo.take k) (by rfl) (by simp; omega) (fun j hj => by rw [Nat.zero_add, keep_below BV2 (hcs j (by omega))]; simp [List.getD, hj]) k (Nat.zero_add k) (by omega) BV2.size ?_
                        intro g3 c3 V3 oR3 gr3 hc3
                        have BV3 := own_grow BV2 BV2.size oR2 gr3
                        have cX3 := keep_grown' gr3 nX cX2
                        refine hK.out _ _ ?_ (fun hHeld => ?_)
                        · (try dsimp only); exact ⟨keep_below BV3 d19', keep_below BV3 c0'⟩
                        clear hK K
                        try simp only [putQ]
                        refine wpAnyH_ready (rs := [12]) (by kernel_rfl) (by simp) ?_
                        refine AllReadyH.cons (o := _) rfl (fun K hK => ?_) AllReadyH.nil
                        refine step_app (by rfl) _ _ (by rfl) W2.heap.size (.slice (some ⟨g3, 0, none⟩) k c3) k _ (by rfl) (by simp) oR3 (some ⟨W2.heap.size, 0, none⟩) W2.heap.size 0 rfl 1 1 [n1] (by rfl) rfl (fun j hj => by obtain rfl : j = 0 := (by omega); exact cX3) (k + 1) rfl (by omega) BV3.size ?_
                        intro g8 c8 V8 oR8 gr8 hc8
                        have BV8 := own_grow BV3 BV3.size oR3 gr8
                        refine hK.out _ _ ?_ (fun hHeld => ?_)
                        · (try dsimp only); exact ⟨keep_below BV8 d19', keep_below BV8 c0'⟩
                        clear hK K
                        try simp only [putQ]
                        refine wpAnyH_ready (rs := [16]) (by kernel_rfl) (by simp) ?_
                        refine AllReadyH.cons (o := _) rfl (fun K hK => ?_) AllReadyH.nil
                        refine step_app (by rfl) _ _ (by rfl) W2.heap.size (.slice (some ⟨g8, 0, none⟩) (k + 1) c8) (k + 1) _ (by rfl) (by simp) oR8 (if co = k then some ⟨go, 0, none⟩ else some ⟨go, k, none⟩) go (if co = k then 0 else k) (by split <;> rfl) (n - k) (co - k) (Lo.drop k) (by rfl) (by simp; omega) (fun j hj => by rw [if_neg (by omega), keep_below BV8 (hcs (k + j) (by omega))]; simp [List.getD, List.getElem?_drop]) (n + 1) (by omega) (by omega) BV8.size ?_
                        intro g9 c9 V9 oR9 gr9 hc9
                        have BV9 := own_grow BV8 BV8.size oR8 gr9
                        refine hK.out _ _ ?_ (fun hHeld => ?_)
                        · (try dsimp only); exact ⟨keep_below BV9 d19', keep_below BV9 c0'⟩
                        clear hK K
                        try simp only [putQ]
                        refine tkIns 17 (v := ?_) rfl (Or.inl ⟨by rfl, ?_⟩) (by assumption) ?_
                        rotate_left 1
                        · (intro w hS; (try dsimp only at hS); (try obtain ⟨s1, s2⟩ := hS); go_simp; try with_reducible rfl)
                        try simp only [putQ]
                        refine wpAnyH_done (by kernel_rfl) ?_ _
                        clear oR8 gr8 gr9 hc8 BV8 hcs
                        have hbF := btrans hb5 (btrans BB BV9)
                        have oF := own_mono (Nat.le_trans hbase (Nat.le_trans hb5.size BB.size)) oR9
                        have oG := own_below oFar BV9
                        clear oR9 BV9 oFar BB hb5
                        go_wp2
                        go_roundw
                        case rel =>
                          refine ⟨i + 1, gF, cF, g9, c9, n + 1, Lf.take k ++ [X] ++ Lf.drop k, Lo.take k ++ [n1] ++ Lo.drop k, by omega, by go_num, rfl, hcF, rfl, hc9, by omega, oG, by simpa using oF, ?_, ?_, ?_, hbF⟩
                          · rw [hstep.out]; exact hnew.out.1
                          · rw [hstep.out]; exact hnew.out.2.1
                          · exact hnew.out.2.2
                        case measure => simp [intOf]; omega
                    · go_simp
                      have cX2 : (V1.alloc (.cells #[.int .i64 X] 3)).cell? ⟨V1.heap.size, 0, none⟩ = some (.int .i64 X) := by simp [go_sem]
                      have BV2 : Below W5.heap.size W5 (V1.alloc (.cells #[.int .i64 X] 3)) := (balloc (.cells #[.int .i64 X] 3) BV1)
                      have oR2 := oR1.alloc (.cells #[.int .i64 X] 3)
                      have nX : V1.heap.size ≠ W5.heap.size := by have := oR1.lt W5.heap.size rfl; omega
                      refine hK.out _ _ ?_ (fun hHeld => ?_)
                      · trivial
                      clear hK K
                      try simp only [putQ]
                      generalize (V1.alloc (.cells #[.int .i64 X] 3)) = V2 at *
                      refine wpAnyH_ready (rs := [4]) (by kernel_rfl) (by simp) ?_
                      refine AllReadyH.cons (o := _) rfl (fun K hK => ?_) AllReadyH.nil
                      refine step_app (by rfl) _ _ (by rfl) W5.heap.size (.slice (some ⟨W5.heap.size, 0, none⟩) 0 0) 0 [] (by rfl) (by simp) oR2 _ gf 0 rfl k cf (Lf.take k) (by rfl) (by simp; omega) (fun j hj => by rw [Nat.zero_add, keep_below BV2 (hcs j (by omega))]; simp [List.getD, hj]) k (Nat.zero_add k) (by omega) BV2.size ?_
                      intro g3 c3 V3 oR3 gr3 hc3
                      have BV3 := own_grow BV2 BV2.size oR2 gr3
                      have cX3 := keep_grown' gr3 nX cX2
                      refine hK.out _ _ ?_ (fun hHeld => ?_)
                      · trivial
                      clear hK K
                      try simp only [putQ]
                      refine wpAnyH_ready (rs := [7]) (by kernel_rfl) (by simp) ?_
                      refine AllReadyH.cons (o := _) rfl (fun K hK => ?_) AllReadyH.nil
                      refine step_app (by rfl) _ _ (by rfl) W5.heap.size (.slice (some ⟨g3, 0, none⟩) k c3) k _ (by rfl) (by simp) oR3 (some ⟨V1.heap.size, 0, none⟩) V1.heap.size 0 rfl 1 1 [X] (by rfl) rfl (fun j hj => by obtain rfl : j = 0 := (by omega); exact cX3) (k + 1) rfl (by omega) BV3.size ?_
                      intro g8 c8 V8 oR8 gr8 hc8
                      have BV8 := own_grow BV3 BV3.size oR3 gr8
                      refine hK.out _ _ ?_ (fun hHeld => ?_)
                      · trivial
                      clear hK K
                      try simp only [putQ]
                      refine wpAnyH_ready (rs := [11]) (by kernel_rfl) (by simp) ?_
                      refine AllReadyH.cons (o := _) rfl (fun K hK => ?_) AllReadyH.nil
                      refine step_app (by rfl) _ _ (by rfl) W5.heap.size (.slice (some ⟨g8, 0, none⟩) (k + 1) c8) (k + 1) _ (by rfl) (by simp) oR8 (if cf = k then some ⟨gf, 0, none⟩ else some ⟨gf, k, none⟩) gf (if cf = k then 0 else k) (by split <;> rfl) (n - k) (cf - k) (Lf.drop k) (by rfl) (by simp; omega) (fun j hj => by rw [if_neg (by omega), keep_below BV8 (hcs (k + j) (by omega))]; simp [List.getD, List.getElem?_drop]) (n + 1) (by omega) (by omega) BV8.size ?_
                      intro g9 c9 V9 oR9 gr9 hc9
                      have BV9 := own_grow BV8 BV8.size oR8 gr9
                      refine hK.out _ _ ?_ (fun hHeld => ?_)
                      · trivial
                      clear hK K
                      try simp only [putQ]
                      refine tkIns 12 (v := ?_) rfl (Or.inl ⟨by rfl, ?_⟩) (by assumption) ?_
                      rotate_left 1
                      · (intro w hS; (try dsimp only at hS); (try obtain ⟨s1, s2⟩ := hS); go_simp; try with_reducible rfl)
                      try simp only [putQ]
                      refine wpAnyH_done (by kernel_rfl) ?_ _
                      clear oR8 gr8 gr9 hc8 BV8 hcs
                      obtain ⟨gF, cF, hgF⟩ : ∃ gF cF, gF = g9 ∧ cF = c9 := ⟨_, _, rfl, rfl⟩
                      obtain ⟨rfl, rfl⟩ := hgF
                      have BB := BV9
                      have hcF := hc9
                      have oFar : V9.ownsRow w.heap.size 3 1 (.slice (some ⟨gF, 0, none⟩) (n + 1) cF) (n + 1) (lv (Lf.take k ++ [X] ++ Lf.drop k)) := by simpa using own_mono (Nat.le_trans hbase hb5.size) oR9
                      have W2o := own_below oO BV9
                      have d19' := keep_below BV9 d19w
                      have c0' := keep_below BV9 c0w
                      have hcs : ∀ j, j < n → V9.cell? ⟨go, j, none⟩ = some (.int .i64 (Lo.getD j 0)) := fun j hj => own_lv W2o j (by omega)
                      clear BV9 oR9 hc9 W2o
                      generalize V9 = W2 at *
                      (try clear cX3); (try clear cX2); (try clear cX1); (try clear nX); (try clear gr3); (try clear gr2); (try clear oR3); (try clear oR2); (try clear oR1); (try clear BV3); (try clear BV2); (try clear BV1)
                      go_upto_region 15 with fail
                      refine wp_region_held_drew (S := fun w' => w'.cell? ⟨xb, 19, none⟩ = some (.slice (some ⟨b, off, none⟩) pll plc) ∧ w'.cell? ⟨b, off + i * 6, none⟩ = some (.int .i64 n1)) (by kernel_rfl) ?_ (fun hHeld => ?_)
                      · (try dsimp only); exact ⟨d19', c0'⟩
                      refine tkIns 1 (v := ?_) rfl (Or.inl ⟨by rfl, ?_⟩) (by assumption) ?_
                      rotate_left 1
                      · (intro w hS; (try dsimp only at hS); (try obtain ⟨s1, s2⟩ := hS); go_simp; try with_reducible rfl)
                      try simp only [putQ]
                      refine tkIns 2 (v := ?_) rfl (Or.inl ⟨by rfl, ?_⟩) (by assumption) ?_
                      rotate_left 1
                      · (intro w hS; (try dsimp only at hS); (try obtain ⟨s1, s2⟩ := hS); go_simp; try with_reducible rfl)
                      try simp only [putQ]
                      refine tkIns 3 (v := ?_) rfl (Or.inl ⟨by rfl, ?_⟩) (by assumption) ?_
                      rotate_left 1
                      · (intro w hS; (try dsimp only at hS); (try obtain ⟨s1, s2⟩ := hS); go_simp; try with_reducible rfl)
                      try simp only [putQ]
                      refine tkIns 5 (v := ?_) rfl (Or.inl ⟨by rfl, ?_⟩) (by assumption) ?_
                      rotate_left 1
                      · (intro w hS; (try dsimp only at hS); (try obtain ⟨s1, s2⟩ := hS); go_simp; try with_reducible rfl)
                      try simp only [putQ]
                      refine tkIns 6 (v := ?_) rfl (Or.inl ⟨by rfl, ?_⟩) (by assumption) ?_
                      rotate_left 1
                      · (intro w hS; (try dsimp only at hS); (try obtain ⟨s1, s2⟩ := hS); go_simp; try with_reducible rfl)
                      try simp only [putQ]
                      refine tkIns 7 (v := ?_) rfl (Or.inl ⟨by rfl, ?_⟩) (by assumption) ?_
                      rotate_left 1
                      · (intro w hS; (try dsimp only at hS); (try obtain ⟨s1, s2⟩ := hS); go_simp; try with_reducible rfl)
                      try simp only [putQ]
                      refine tkIns 8 (v := ?_) rfl (Or.inl ⟨by rfl, ?_⟩) (by assumption) ?_
                      rotate_left 1
                      · (intro w hS; (try dsimp only at hS); (try obtain ⟨s1, s2⟩ := hS); go_simp; try with_reducible rfl)
                      try simp only [putQ]
                      refine tkIns 9 (v := ?_) rfl (Or.inl ⟨by rfl, ?_⟩) (by assumption) ?_
                      rotate_left 1
                      · (intro w hS; (try dsimp only at hS); (try obtain ⟨s1, s2⟩ := hS); go_simp; try with_reducible rfl)
                      try simp only [putQ]
                      refine tkIns 10 (v := ?_) rfl (Or.inl ⟨by rfl, ?_⟩) (by assumption) ?_
                      rotate_left 1
                      · (intro w hS; (try dsimp only at hS); (try obtain ⟨s1, s2⟩ := hS); go_simp; try with_reducible rfl)
                      try simp only [putQ]
                      refine tkIns 13 (v := ?_) rfl (Or.inl ⟨by rfl, ?_⟩) (by assumption) ?_
                      rotate_left 1
                      · (intro w hS; (try dsimp only at hS); (try obtain ⟨s1, s2⟩ := hS); go_simp; try with_reducible rfl)
                      try simp only [putQ]
                      refine tkIns 14 (v := ?_) rfl (Or.inl ⟨by rfl, ?_⟩) (by assumption) ?_
                      rotate_left 1
                      · (intro w hS; (try dsimp only at hS); (try obtain ⟨s1, s2⟩ := hS); go_simp; try with_reducible rfl)
                      try simp only [putQ]
                      refine tkIns 15 (v := ?_) rfl (Or.inl ⟨by rfl, ?_⟩) (by assumption) ?_
                      rotate_left 1
                      · (intro w hS; (try dsimp only at hS); (try obtain ⟨s1, s2⟩ := hS); go_simp; try with_reducible rfl)
                      try simp only [putQ]
                      refine wpAnyH_ready (rs := [0, 11]) (by kernel_rfl) (by simp) ?_
                      refine AllReadyH.cons (o := _) rfl (fun K hK => ?_) (AllReadyH.cons (o := _) rfl (fun K hK => ?_) AllReadyH.nil)
                      · go_simp
                        have oR1 : ((W2.alloc (.cells #[] 3)).drew).ownsRow W2.heap.size 3 1 (.slice (some ⟨W2.heap.size, 0, none⟩) 0 0) 0 (lv []) := World.ownsRow_lit W2 #[] 0 (Nat.le_refl _) (by unfold maxLen; omega) rfl
                        have BV1 : Below W2.heap.size W2 ((W2.alloc (.cells #[] 3)).drew) := QB1 (balloc (.cells #[] 3) (Below.refl _ W2))
                        refine hK.out _ _ ?_ (fun hHeld => ?_)
                        · (try dsimp only); exact ⟨keep_below BV1 d19', keep_below BV1 c0'⟩
                        clear hK K
                        try simp only [putQ]
                        generalize ((W2.alloc (.cells #[] 3)).drew) = V1 at *
                        refine wpAnyH_ready (rs := [4, 11]) (by kernel_rfl) (by simp) ?_
                        refine AllReadyH.cons (o := _) rfl (fun K hK => ?_) (AllReadyH.cons (o := _) rfl (fun K hK => ?_) AllReadyH.nil)
                        · refine step_app (by rfl) _ _ (by rfl) W2.heap.size (.slice (some ⟨W2.heap.size, 0, none⟩) 0 0) 0 [] (by rfl) (by simp) oR1 _ go 0 rfl k co (Lo.take k) (by rfl) (by simp; omega) (fun j hj => by rw [Nat.zero_add, keep_below BV1 (hcs j (by omega))]; simp [List.getD, hj]) k (Nat.zero_add k) (by omega) BV1.size ?_
                          intro g2 c2 V2 oR2 gr2 hc2
                          have BV2 := own_grow BV1 BV1.size oR1 gr2
                          refine hK.out _ _ ?_ (fun hHeld => ?_)
                          · (try dsimp only); exact ⟨keep_below BV2 d19', keep_below BV2 c0'⟩
                          clear hK K
                          try simp only [putQ]
                          refine wpAnyH_ready (rs := [11]) (by kernel_rfl) (by simp) ?_
                          refine AllReadyH.cons (o := _) rfl (fun K hK => ?_) AllReadyH.nil
                          go_simp
                          have cX3 : (V2.alloc (.cells #[.int .i64 n1] 3)).cell? ⟨V2.heap.size, 0, none⟩ = some (.int .i64 n1) := by simp [go_sem]
                          have BV3 : Below W2.heap.size W2 (V2.alloc (.cells #[.int .i64 n1] 3)) := (balloc (.cells #[.int .i64 n1] 3) BV2)
                          have oR3 := oR2.alloc (.cells #[.int .i64 n1] 3)
                          refine hK.out _ _ ?_ (fun hHeld => ?_)
                          · (try dsimp only); exact ⟨keep_below BV3 d19', keep_below BV3 c0'⟩
                          clear hK K
                          try simp only [putQ]
                          generalize (V2.alloc (.cells #[.int .i64 n1] 3)) = V3 at *
                          refine wpAnyH_ready (rs := [12]) (by kernel_rfl) (by simp) ?_
                          refine AllReadyH.cons (o := _) rfl (fun K hK => ?_) AllReadyH.nil
                          refine step_app (by rfl) _ _ (by rfl) W2.heap.size (.slice (some ⟨g2, 0, none⟩) k c2) k _ (by rfl) (by simp) oR3 (some ⟨V2.heap.size, 0, none⟩) V2.heap.size 0 rfl 1 1 [n1] (by rfl) rfl (fun j hj => by obtain rfl : j = 0 := (by omega); exact cX3) (k + 1) rfl (by omega) BV3.size ?_
                          intro g8 c8 V8 oR8 gr8 hc8
                          have BV8 := own_grow BV3 BV3.size oR3 gr8
                          refine hK.out _ _ ?_ (fun hHeld => ?_)
                          · (try dsimp only); exact ⟨keep_below BV8 d19', keep_below BV8 c0'⟩
                          clear hK K
                          try simp only [putQ]
                          refine wpAnyH_ready (rs := [16]) (by kernel_rfl) (by simp) ?_
                          refine AllReadyH.cons (o := _) rfl (fun K hK => ?_) AllReadyH.nil
                          refine step_app (by rfl) _ _ (by rfl) W2.heap.size (.slice (some ⟨g8, 0, none⟩) (k + 1) c8) (k + 1) _ (by rfl) (by simp) oR8 (if co = k then some ⟨go, 0, none⟩ else some ⟨go, k, none⟩) go (if co = k then 0 else k) (by split <;> rfl) (n - k) (co - k) (Lo.drop k) (by rfl) (by simp; omega) (fun j hj => by rw [if_neg (by omega), keep_below BV8 (hcs (k + j) (by omega))]; simp [List.getD, List.getElem?_drop]) (n + 1) (by omega) (by omega) BV8.size ?_
                          intro g9 c9 V9 oR9 gr9 hc9
                          have BV9 := own_grow BV8 BV8.size oR8 gr9
                          refine hK.out _ _ ?_ (fun hHeld => ?_)
                          · (try dsimp only); exact ⟨keep_below BV9 d19', keep_below BV9 c0'⟩
                          clear hK K
                          try simp only [putQ]
                          refine tkIns 17 (v := ?_) rfl (Or.inl ⟨by rfl, ?_⟩) (by assumption) ?_
                          rotate_left 1
                          · (intro w hS; (try dsimp only at hS); (try obtain ⟨s1, s2⟩ := hS); go_simp; try with_reducible rfl)
                          try simp only [putQ]
                          refine wpAnyH_done (by kernel_rfl) ?_ _
                          clear oR8 gr8 gr9 hc8 BV8 hcs
                          have hbF := btrans hb5 (btrans BB BV9)
                          have oF := own_mono (Nat.le_trans hbase (Nat.le_trans hb5.size BB.size)) oR9
                          have oG := own_below oFar BV9
                          clear oR9 BV9 oFar BB hb5
                          go_wp2
                          go_roundw
                          case rel =>
                            refine ⟨i + 1, gF, cF, g9, c9, n + 1, Lf.take k ++ [X] ++ Lf.drop k, Lo.take k ++ [n1] ++ Lo.drop k, by omega, by go_num, rfl, hcF, rfl, hc9, by omega, oG, by simpa using oF, ?_, ?_, ?_, hbF⟩
                            · rw [hstep.out]; exact hnew.out.1
                            · rw [hstep.out]; exact hnew.out.2.1
                            · exact hnew.out.2.2
                          case measure => simp [intOf]; omega
                        · go_simp
                          have cX2 : (V1.alloc (.cells #[.int .i64 n1] 3)).cell? ⟨V1.heap.size, 0, none⟩ = some (.int .i64 n1) := by simp [go_sem]
                          have BV2 : Below W2.heap.size W2 (V1.alloc (.cells #[.int .i64 n1] 3)) := (balloc (.cells #[.int .i64 n1] 3) BV1)
                          have oR2 := oR1.alloc (.cells #[.int .i64 n1] 3)
                          have nX : V1.heap.size ≠ W2.heap.size := by have := oR1.lt W2.heap.size rfl; omega
                          refine hK.out _ _ ?_ (fun hHeld => ?_)
                          · (try dsimp only); exact ⟨keep_below BV2 d19', keep_below BV2 c0'⟩
                          clear hK K
                          try simp only [putQ]
                          generalize (V1.alloc (.cells #[.int .i64 n1] 3)) = V2 at *
                          refine wpAnyH_ready (rs := [4]) (by kernel_rfl) (by simp) ?_
                          refine AllReadyH.cons (o := _) rfl (fun K hK => ?_) AllReadyH.nil
                          refine step_app (by rfl) _ _ (by rfl) W2.heap.size (.slice (some ⟨W2.heap.size, 0, none⟩) 0 0) 0 [] (by rfl) (by simp) oR2 _ go 0 rfl k co (Lo.take k) (by rfl) (by simp; omega) (fun j hj => by rw [Nat.zero_add, keep_below BV2 (hcs j (by omega))]; simp [List.getD, hj]) k (Nat.zero_add k) (by omega) BV2.size ?_
                          intro g3 c3 V3 oR3 gr3 hc3
                          have BV3 := own_grow BV2 BV2.size oR2 gr3
                          have cX3 := keep_grown' gr3 nX cX2
                          refine hK.out _ _ ?_ (fun hHeld => ?_)
                          · (try dsimp only); exact ⟨keep_below BV3 d19', keep_below BV3 c0'⟩
                          clear hK K
                          try simp only [putQ]
                          refine wpAnyH_ready (rs := [12]) (by kernel_rfl) (by simp) ?_
                          refine AllReadyH.cons (o := _) rfl (fun K hK => ?_) AllReadyH.nil
                          refine step_app (by rfl) _ _ (by rfl) W2.heap.size (.slice (some ⟨g3, 0, none⟩) k c3) k _ (by rfl) (by simp) oR3 (some ⟨V1.heap.size, 0, none⟩) V1.heap.size 0 rfl 1 1 [n1] (by rfl) rfl (fun j hj => by obtain rfl : j = 0 := (by omega); exact cX3) (k + 1) rfl (by omega) BV3.size ?_
                          intro g8 c8 V8 oR8 gr8 hc8
                          have BV8 := own_grow BV3 BV3.size oR3 gr8
                          refine hK.out _ _ ?_ (fun hHeld => ?_)
                          · (try dsimp only); exact ⟨keep_below BV8 d19', keep_below BV8 c0'⟩
                          clear hK K
                          try simp only [putQ]
                          refine wpAnyH_ready (rs := [16]) (by kernel_rfl) (by simp) ?_
                          refine AllReadyH.cons (o := _) rfl (fun K hK => ?_) AllReadyH.nil
                          refine step_app (by rfl) _ _ (by rfl) W2.heap.size (.slice (some ⟨g8, 0, none⟩) (k + 1) c8) (k + 1) _ (by rfl) (by simp) oR8 (if co = k then some ⟨go, 0, none⟩ else some ⟨go, k, none⟩) go (if co = k then 0 else k) (by split <;> rfl) (n - k) (co - k) (Lo.drop k) (by rfl) (by simp; omega) (fun j hj => by rw [if_neg (by omega), keep_below BV8 (hcs (k + j) (by omega))]; simp [List.getD, List.getElem?_drop]) (n + 1) (by omega) (by omega) BV8.size ?_
                          intro g9 c9 V9 oR9 gr9 hc9
                          have BV9 := own_grow BV8 BV8.size oR8 gr9
                          refine hK.out _ _ ?_ (fun hHeld => ?_)
                          · (try dsimp only); exact ⟨keep_below BV9 d19', keep_below BV9 c0'⟩
                          clear hK K
                          try simp only [putQ]
                          refine tkIns 17 (v := ?_) rfl (Or.inl ⟨by rfl, ?_⟩) (by assumption) ?_
                          rotate_left 1
                          · (intro w hS; (try dsimp only at hS); (try obtain ⟨s1, s2⟩ := hS); go_simp; try with_reducible rfl)
                          try simp only [putQ]
                          refine wpAnyH_done (by kernel_rfl) ?_ _
                          clear oR8 gr8 gr9 hc8 BV8 hcs
                          have hbF := btrans hb5 (btrans BB BV9)
                          have oF := own_mono (Nat.le_trans hbase (Nat.le_trans hb5.size BB.size)) oR9
                          have oG := own_below oFar BV9
                          clear oR9 BV9 oFar BB hb5
                          go_wp2
                          go_roundw
                          case rel =>
                            refine ⟨i + 1, gF, cF, g9, c9, n + 1, Lf.take k ++ [X] ++ Lf.drop k, Lo.take k ++ [n1] ++ Lo.drop k, by omega, by go_num, rfl, hcF, rfl, hc9, by omega, oG, by simpa using oF, ?_, ?_, ?_, hbF⟩
                            · rw [hstep.out]; exact hnew.out.1
                            · rw [hstep.out]; exact hnew.out.2.1
                            · exact hnew.out.2.2
                          case measure => simp [intOf]; omega
                      · go_simp
                        have cX1 : ((W2.alloc (.cells #[.int .i64 n1] 3)).drew).cell? ⟨W2.heap.size, 0, none⟩ = some (.int .i64 n1) := by simp [go_sem]
                        have BV1 : Below W2.heap.size W2 ((W2.alloc (.cells #[.int .i64 n1] 3)).drew) := QB1 (balloc (.cells #[.int .i64 n1] 3) (Below.refl _ W2))
                        have xlt := World.block_lt_of_cell? _ _ cX1
                        refine hK.out _ _ ?_ (fun hHeld => ?_)
                        · (try dsimp only); exact ⟨keep_below BV1 d19', keep_below BV1 c0'⟩
                        clear hK K
                        try simp only [putQ]
                        generalize ((W2.alloc (.cells #[.int .i64 n1] 3)).drew) = V1 at *
                        refine wpAnyH_ready (rs := [0]) (by kernel_rfl) (by simp) ?_
                        refine AllReadyH.cons (o := _) rfl (fun K hK => ?_) AllReadyH.nil
                        go_simp
                        have oR2 : (V1.alloc (.cells #[] 3)).ownsRow W2.heap.size 3 1 (.slice (some ⟨V1.heap.size, 0, none⟩) 0 0) 0 (lv []) := World.ownsRow_lit V1 #[] 0 (BV1.size) (by unfold maxLen; omega) rfl
                        have BV2 : Below W2.heap.size W2 (V1.alloc (.cells #[] 3)) := (balloc (.cells #[] 3) BV1)
                        have cX2 := keep_alloc (.cells #[] 3) cX1
                        have nX : W2.heap.size ≠ V1.heap.size := by simp at xlt; omega
                        refine hK.out _ _ ?_ (fun hHeld => ?_)
                        · (try dsimp only); exact ⟨keep_below BV2 d19', keep_below BV2 c0'⟩
                        clear hK K
                        try simp only [putQ]
                        generalize (V1.alloc (.cells #[] 3)) = V2 at *
                        refine wpAnyH_ready (rs := [4]) (by kernel_rfl) (by simp) ?_
                        refine AllReadyH.cons (o := _) rfl (fun K hK => ?_) AllReadyH.nil
                        refine step_app (by rfl) _ _ (by rfl) W2.heap.size (.slice (some ⟨V1.heap.size, 0, none⟩) 0 0) 0 [] (by rfl) (by simp) oR2 _ go 0 rfl k co (Lo.take k) (by rfl) (by simp; omega) (fun j hj => by rw [Nat.zero_add, keep_below BV2 (hcs j (by omega))]; simp [List.getD, hj]) k (Nat.zero_add k) (by omega) BV2.size ?_
                        intro g3 c3 V3 oR3 gr3 hc3
                        have BV3 := own_grow BV2 BV2.size oR2 gr3
                        have cX3 := keep_grown' gr3 nX cX2
                        refine hK.out _ _ ?_ (fun hHeld => ?_)
                        · (try dsimp only); exact ⟨keep_below BV3 d19', keep_below BV3 c0'⟩
                        clear hK K
                        try simp only [putQ]
                        refine wpAnyH_ready (rs := [12]) (by kernel_rfl) (by simp) ?_
                        refine AllReadyH.cons (o := _) rfl (fun K hK => ?_) AllReadyH.nil
                        refine step_app (by rfl) _ _ (by rfl) W2.heap.size (.slice (some ⟨g3, 0, none⟩) k c3) k _ (by rfl) (by simp) oR3 (some ⟨W2.heap.size, 0, none⟩) W2.heap.size 0 rfl 1 1 [n1] (by rfl) rfl (fun j hj => by obtain rfl : j = 0 := (by omega); exact cX3) (k + 1) rfl (by omega) BV3.size ?_
                        intro g8 c8 V8 oR8 gr8 hc8
                        have BV8 := own_grow BV3 BV3.size oR3 gr8
                        refine hK.out _ _ ?_ (fun hHeld => ?_)
                        · (try dsimp only); exact ⟨keep_below BV8 d19', keep_below BV8 c0'⟩
                        clear hK K
                        try simp only [putQ]
                        refine wpAnyH_ready (rs := [16]) (by kernel_rfl) (by simp) ?_
                        refine AllReadyH.cons (o := _) rfl (fun K hK => ?_) AllReadyH.nil
                        refine step_app (by rfl) _ _ (by rfl) W2.heap.size (.slice (some ⟨g8, 0, none⟩) (k + 1) c8) (k + 1) _ (by rfl) (by simp) oR8 (if co = k then some ⟨go, 0, none⟩ else some ⟨go, k, none⟩) go (if co = k then 0 else k) (by split <;> rfl) (n - k) (co - k) (Lo.drop k) (by rfl) (by simp; omega) (fun j hj => by rw [if_neg (by omega), keep_below BV8 (hcs (k + j) (by omega))]; simp [List.getD, List.getElem?_drop]) (n + 1) (by omega) (by omega) BV8.size ?_
                        intro g9 c9 V9 oR9 gr9 hc9
                        have BV9 := own_grow BV8 BV8.size oR8 gr9
                        refine hK.out _ _ ?_ (fun hHeld => ?_)
                        · (try dsimp only); exact ⟨keep_below BV9 d19', keep_below BV9 c0'⟩
                        clear hK K
                        try simp only [putQ]
                        refine tkIns 17 (v := ?_) rfl (Or.inl ⟨by rfl, ?_⟩) (by assumption) ?_
                        rotate_left 1
                        · (intro w hS; (try dsimp only at hS); (try obtain ⟨s1, s2⟩ := hS); go_simp; try with_reducible rfl)
                        try simp only [putQ]
                        refine wpAnyH_done (by kernel_rfl) ?_ _
                        clear oR8 gr8 gr9 hc8 BV8 hcs
                        have hbF := btrans hb5 (btrans BB BV9)
                        have oF := own_mono (Nat.le_trans hbase (Nat.le_trans hb5.size BB.size)) oR9
                        have oG := own_below oFar BV9
                        clear oR9 BV9 oFar BB hb5
                        go_wp2
                        go_roundw
                        case rel =>
                          refine ⟨i + 1, gF, cF, g9, c9, n + 1, Lf.take k ++ [X] ++ Lf.drop k, Lo.take k ++ [n1] ++ Lo.drop k, by omega, by go_num, rfl, hcF, rfl, hc9, by omega, oG, by simpa using oF, ?_, ?_, ?_, hbF⟩
                          · rw [hstep.out]; exact hnew.out.1
                          · rw [hstep.out]; exact hnew.out.2.1
                          · exact hnew.out.2.2
                        case measure => simp [intOf]; omega
                  · go_simp
                    have cX1 : ((W5.alloc (.cells #[.int .i64 X] 3)).drew).cell? ⟨W5.heap.size, 0, none⟩ = some (.int .i64 X) := by simp [go_sem]
                    have BV1 : Below W5.heap.size W5 ((W5.alloc (.cells #[.int .i64 X] 3)).drew) := QB1 (balloc (.cells #[.int .i64 X] 3) (Below.refl _ W5))
                    have xlt := World.block_lt_of_cell? _ _ cX1
                    refine hK.out _ _ ?_ (fun hHeld => ?_)
                    · trivial
                    clear hK K
                    try simp only [putQ]
                    generalize ((W5.alloc (.cells #[.int .i64 X] 3)).drew) = V1 at *
                    refine wpAnyH_ready (rs := [0]) (by kernel_rfl) (by simp) ?_
                    refine AllReadyH.cons (o := _) rfl (fun K hK => ?_) AllReadyH.nil
                    go_simp
                    have oR2 : (V1.alloc (.cells #[] 3)).ownsRow W5.heap.size 3 1 (.slice (some ⟨V1.heap.size, 0, none⟩) 0 0) 0 (lv []) := World.ownsRow_lit V1 #[] 0 (BV1.size) (by unfold maxLen; omega) rfl
                    have BV2 : Below W5.heap.size W5 (V1.alloc (.cells #[] 3)) := (balloc (.cells #[] 3) BV1)
                    have cX2 := keep_alloc (.cells #[] 3) cX1
                    have nX : W5.heap.size ≠ V1.heap.size := by simp at xlt; omega
                    refine hK.out _ _ ?_ (fun hHeld => ?_)
                    · trivial
                    clear hK K
                    try simp only [putQ]
                    generalize (V1.alloc (.cells #[] 3)) = V2 at *
                    refine wpAnyH_ready (rs := [4]) (by kernel_rfl) (by simp) ?_
                    refine AllReadyH.cons (o := _) rfl (fun K hK => ?_) AllReadyH.nil
                    refine step_app (by rfl) _ _ (by rfl) W5.heap.size (.slice (some ⟨V1.heap.size, 0, none⟩) 0 0) 0 [] (by rfl) (by simp) oR2 _ gf 0 rfl k cf (Lf.take k) (by rfl) (by simp; omega) (fun j hj => by rw [Nat.zero_add, keep_below BV2 (hcs j (by omega))]; simp [List.getD, hj]) k (Nat.zero_add k) (by omega) BV2.size ?_
                    intro g3 c3 V3 oR3 gr3 hc3
                    have BV3 := own_grow BV2 BV2.size oR2 gr3
                    have cX3 := keep_grown' gr3 nX cX2
                    refine hK.out _ _ ?_ (fun hHeld => ?_)
                    · trivial
                    clear hK K
                    try simp only [putQ]
                    refine wpAnyH_ready (rs := [7]) (by kernel_rfl) (by simp) ?_
                    refine AllReadyH.cons (o := _) rfl (fun K hK => ?_) AllReadyH.nil
                    refine step_app (by rfl) _ _ (by rfl) W5.heap.size (.slice (some ⟨g3, 0, none⟩) k c3) k _ (by rfl) (by simp) oR3 (some ⟨W5.heap.size, 0, none⟩) W5.heap.size 0 rfl 1 1 [X] (by rfl) rfl (fun j hj => by obtain rfl : j = 0 := (by omega); exact cX3) (k + 1) rfl (by omega) BV3.size ?_
                    intro g8 c8 V8 oR8 gr8 hc8
                    have BV8 := own_grow BV3 BV3.size oR3 gr8
                    refine hK.out _ _ ?_ (fun hHeld => ?_)
                    · trivial
                    clear hK K
                    try simp only [putQ]
                    refine wpAnyH_ready (rs := [11]) (by kernel_rfl) (by simp) ?_
                    refine AllReadyH.cons (o := _) rfl (fun K hK => ?_) AllReadyH.nil
                    refine step_app (by rfl) _ _ (by rfl) W5.heap.size (.slice (some ⟨g8, 0, none⟩) (k + 1) c8) (k + 1) _ (by rfl) (by simp) oR8 (if cf = k then some ⟨gf, 0, none⟩ else some ⟨gf, k, none⟩) gf (if cf = k then 0 else k) (by split <;> rfl) (n - k) (cf - k) (Lf.drop k) (by rfl) (by simp; omega) (fun j hj => by rw [if_neg (by omega), keep_below BV8 (hcs (k + j) (by omega))]; simp [List.getD, List.getElem?_drop]) (n + 1) (by omega) (by omega) BV8.size ?_
                    intro g9 c9 V9 oR9 gr9 hc9
                    have BV9 := own_grow BV8 BV8.size oR8 gr9
                    refine hK.out _ _ ?_ (fun hHeld => ?_)
                    · trivial
                    clear hK K
                    try simp only [putQ]
                    refine tkIns 12 (v := ?_) rfl (Or.inl ⟨by rfl, ?_⟩) (by assumption) ?_
                    rotate_left 1
                    · (intro w hS; (try dsimp only at hS); (try obtain ⟨s1, s2⟩ := hS); go_simp; try with_reducible rfl)
                    try simp only [putQ]
                    refine wpAnyH_done (by kernel_rfl) ?_ _
                    clear oR8 gr8 gr9 hc8 BV8 hcs
                    obtain ⟨gF, cF, hgF⟩ : ∃ gF cF, gF = g9 ∧ cF = c9 := ⟨_, _, rfl, rfl⟩
                    obtain ⟨rfl, rfl⟩ := hgF
                    have BB := BV9
                    have hcF := hc9
                    have oFar : V9.ownsRow w.heap.size 3 1 (.slice (some ⟨gF, 0, none⟩) (n + 1) cF) (n + 1) (lv (Lf.take k ++ [X] ++ Lf.drop k)) := by simpa using own_mono (Nat.le_trans hbase hb5.size) oR9
                    have W2o := own_below oO BV9
                    have d19' := keep_below BV9 d19w
                    have c0' := keep_below BV9 c0w
                    have hcs : ∀ j, j < n → V9.cell? ⟨go, j, none⟩ = some (.int .i64 (Lo.getD j 0)) := fun j hj => own_lv W2o j (by omega)
                    clear BV9 oR9 hc9 W2o
                    generalize V9 = W2 at *
                    (try clear cX3); (try clear cX2); (try clear cX1); (try clear nX); (try clear gr3); (try clear gr2); (try clear oR3); (try clear oR2); (try clear oR1); (try clear BV3); (try clear BV2); (try clear BV1)
                    go_upto_region 15 with fail
                    refine wp_region_held_drew (S := fun w' => w'.cell? ⟨xb, 19, none⟩ = some (.slice (some ⟨b, off, none⟩) pll plc) ∧ w'.cell? ⟨b, off + i * 6, none⟩ = some (.int .i64 n1)) (by kernel_rfl) ?_ (fun hHeld => ?_)
                    · (try dsimp only); exact ⟨d19', c0'⟩
                    refine tkIns 1 (v := ?_) rfl (Or.inl ⟨by rfl, ?_⟩) (by assumption) ?_
                    rotate_left 1
                    · (intro w hS; (try dsimp only at hS); (try obtain ⟨s1, s2⟩ := hS); go_simp; try with_reducible rfl)
                    try simp only [putQ]
                    refine tkIns 2 (v := ?_) rfl (Or.inl ⟨by rfl, ?_⟩) (by assumption) ?_
                    rotate_left 1
                    · (intro w hS; (try dsimp only at hS); (try obtain ⟨s1, s2⟩ := hS); go_simp; try with_reducible rfl)
                    try simp only [putQ]
                    refine tkIns 3 (v := ?_) rfl (Or.inl ⟨by rfl, ?_⟩) (by assumption) ?_
                    rotate_left 1
                    · (intro w hS; (try dsimp only at hS); (try obtain ⟨s1, s2⟩ := hS); go_simp; try with_reducible rfl)
                    try simp only [putQ]
                    refine tkIns 5 (v := ?_) rfl (Or.inl ⟨by rfl, ?_⟩) (by assumption) ?_
                    rotate_left 1
                    · (intro w hS; (try dsimp only at hS); (try obtain ⟨s1, s2⟩ := hS); go_simp; try with_reducible rfl)
                    try simp only [putQ]
                    refine tkIns 6 (v := ?_) rfl (Or.inl ⟨by rfl, ?_⟩) (by assumption) ?_
                    rotate_left 1
                    · (intro w hS; (try dsimp only at hS); (try obtain ⟨s1, s2⟩ := hS); go_simp; try with_reducible rfl)
                    try simp only [putQ]
                    refine tkIns 7 (v := ?_) rfl (Or.inl ⟨by rfl, ?_⟩) (by assumption) ?_
                    rotate_left 1
                    · (intro w hS; (try dsimp only at hS); (try obtain ⟨s1, s2⟩ := hS); go_simp; try with_reducible rfl)
                    try simp only [putQ]
                    refine tkIns 8 (v := ?_) rfl (Or.inl ⟨by rfl, ?_⟩) (by assumption) ?_
                    rotate_left 1
                    · (intro w hS; (try dsimp only at hS); (try obtain ⟨s1, s2⟩ := hS); go_simp; try with_reducible rfl)
                    try simp only [putQ]
                    refine tkIns 9 (v := ?_) rfl (Or.inl ⟨by rfl, ?_⟩) (by assumption) ?_
                    rotate_left 1
                    · (intro w hS; (try dsimp only at hS); (try obtain ⟨s1, s2⟩ := hS); go_simp; try with_reducible rfl)
                    try simp only [putQ]
                    refine tkIns 10 (v := ?_) rfl (Or.inl ⟨by rfl, ?_⟩) (by assumption) ?_
                    rotate_left 1
                    · (intro w hS; (try dsimp only at hS); (try obtain ⟨s1, s2⟩ := hS); go_simp; try with_reducible rfl)
                    try simp only [putQ]
                    refine tkIns 13 (v := ?_) rfl (Or.inl ⟨by rfl, ?_⟩) (by assumption) ?_
                    rotate_left 1
                    · (intro w hS; (try dsimp only at hS); (try obtain ⟨s1, s2⟩ := hS); go_simp; try with_reducible rfl)
                    try simp only [putQ]
                    refine tkIns 14 (v := ?_) rfl (Or.inl ⟨by rfl, ?_⟩) (by assumption) ?_
                    rotate_left 1
                    · (intro w hS; (try dsimp only at hS); (try obtain ⟨s1, s2⟩ := hS); go_simp; try with_reducible rfl)
                    try simp only [putQ]
                    refine tkIns 15 (v := ?_) rfl (Or.inl ⟨by rfl, ?_⟩) (by assumption) ?_
                    rotate_left 1
                    · (intro w hS; (try dsimp only at hS); (try obtain ⟨s1, s2⟩ := hS); go_simp; try with_reducible rfl)
                    try simp only [putQ]
                    refine wpAnyH_ready (rs := [0, 11]) (by kernel_rfl) (by simp) ?_
                    refine AllReadyH.cons (o := _) rfl (fun K hK => ?_) (AllReadyH.cons (o := _) rfl (fun K hK => ?_) AllReadyH.nil)
                    · go_simp
                      have oR1 : ((W2.alloc (.cells #[] 3)).drew).ownsRow W2.heap.size 3 1 (.slice (some ⟨W2.heap.size, 0, none⟩) 0 0) 0 (lv []) := World.ownsRow_lit W2 #[] 0 (Nat.le_refl _) (by unfold maxLen; omega) rfl
                      have BV1 : Below W2.heap.size W2 ((W2.alloc (.cells #[] 3)).drew) := QB1 (balloc (.cells #[] 3) (Below.refl _ W2))
                      refine hK.out _ _ ?_ (fun hHeld => ?_)
                      · (try dsimp only); exact ⟨keep_below BV1 d19', keep_below BV1 c0'⟩
                      clear hK K
                      try simp only [putQ]
                      generalize ((W2.alloc (.cells #[] 3)).drew) = V1 at *
                      refine wpAnyH_ready (rs := [4, 11]) (by kernel_rfl) (by simp) ?_
                      refine AllReadyH.cons (o := _) rfl (fun K hK => ?_) (AllReadyH.cons (o := _) rfl (fun K hK => ?_) AllReadyH.nil)
                      · refine step_app (by rfl) _ _ (by rfl) W2.heap.size (.slice (some ⟨W2.heap.size, 0, none⟩) 0 0) 0 [] (by rfl) (by simp) oR1 _ go 0 rfl k co (Lo.take k) (by rfl) (by simp; omega) (fun j hj => by rw [Nat.zero_add, keep_below BV1 (hcs j (by omega))]; simp [List.getD, hj]) k (Nat.zero_add k) (by omega) BV1.size ?_
                        intro g2 c2 V2 oR2 gr2 hc2
                        have BV2 := own_grow BV1 BV1.size oR1 gr2
                        refine hK.out _ _ ?_ (fun hHeld => ?_)
                        · (try dsimp only); exact ⟨keep_below BV2 d19', keep_below BV2 c0'⟩
                        clear hK K
                        try simp only [putQ]
                        refine wpAnyH_ready (rs := [11]) (by kernel_rfl) (by simp) ?_
                        refine AllReadyH.cons (o := _) rfl (fun K hK => ?_) AllReadyH.nil
                        go_simp
                        have cX3 : (V2.alloc (.cells #[.int .i64 n1] 3)).cell? ⟨V2.heap.size, 0, none⟩ = some (.int .i64 n1) := by simp [go_sem]
                        have BV3 : Below W2.heap.size W2 (V2.alloc (.cells #[.int .i64 n1] 3)) := (balloc (.cells #[.int .i64 n1] 3) BV2)
                        have oR3 := oR2.alloc (.cells #[.int .i64 n1] 3)
                        refine hK.out _ _ ?_ (fun hHeld => ?_)
                        · (try dsimp only); exact ⟨keep_below BV3 d19', keep_below BV3 c0'⟩
                        clear hK K
                        try simp only [putQ]
                        generalize (V2.alloc (.cells #[.int .i64 n1] 3)) = V3 at *
                        refine wpAnyH_ready (rs := [12]) (by kernel_rfl) (by simp) ?_
                        refine AllReadyH.cons (o := _) rfl (fun K hK => ?_) AllReadyH.nil
                        refine step_app (by rfl) _ _ (by rfl) W2.heap.size (.slice (some ⟨g2, 0, none⟩) k c2) k _ (by rfl) (by simp) oR3 (some ⟨V2.heap.size, 0, none⟩) V2.heap.size 0 rfl 1 1 [n1] (by rfl) rfl (fun j hj => by obtain rfl : j = 0 := (by omega); exact cX3) (k + 1) rfl (by omega) BV3.size ?_
                        intro g8 c8 V8 oR8 gr8 hc8
                        have BV8 := own_grow BV3 BV3.size oR3 gr8
                        refine hK.out _ _ ?_ (fun hHeld => ?_)
                        · (try dsimp only); exact ⟨keep_below BV8 d19', keep_below BV8 c0'⟩
                        clear hK K
                        try simp only [putQ]
                        refine wpAnyH_ready (rs := [16]) (by kernel_rfl) (by simp) ?_
                        refine AllReadyH.cons (o := _) rfl (fun K hK => ?_) AllReadyH.nil
                        refine step_app (by rfl) _ _ (by rfl) W2.heap.size (.slice (some ⟨g8, 0, none⟩) (k + 1) c8) (k + 1) _ (by rfl) (by simp) oR8 (if co = k then some ⟨go, 0, none⟩ else some ⟨go, k, none⟩) go (if co = k then 0 else k) (by split <;> rfl) (n - k) (co - k) (Lo.drop k) (by rfl) (by simp; omega) (fun j hj => by rw [if_neg (by omega), keep_below BV8 (hcs (k + j) (by omega))]; simp [List.getD, List.getElem?_drop]) (n + 1) (by omega) (by omega) BV8.size ?_
                        intro g9 c9 V9 oR9 gr9 hc9
                        have BV9 := own_grow BV8 BV8.size oR8 gr9
                        refine hK.out _ _ ?_ (fun hHeld => ?_)
                        · (try dsimp only); exact ⟨keep_below BV9 d19', keep_below BV9 c0'⟩
                        clear hK K
                        try simp only [putQ]
                        refine tkIns 17 (v := ?_) rfl (Or.inl ⟨by rfl, ?_⟩) (by assumption) ?_
                        rotate_left 1
                        · (intro w hS; (try dsimp only at hS); (try obtain ⟨s1, s2⟩ := hS); go_simp; try with_reducible rfl)
                        try simp only [putQ]
                        refine wpAnyH_done (by kernel_rfl) ?_ _
                        clear oR8 gr8 gr9 hc8 BV8 hcs
                        have hbF := btrans hb5 (btrans BB BV9)
                        have oF := own_mono (Nat.le_trans hbase (Nat.le_trans hb5.size BB.size)) oR9
                        have oG := own_below oFar BV9
                        clear oR9 BV9 oFar BB hb5
                        go_wp2
                        go_roundw
                        case rel =>
                          refine ⟨i + 1, gF, cF, g9, c9, n + 1, Lf.take k ++ [X] ++ Lf.drop k, Lo.take k ++ [n1] ++ Lo.drop k, by omega, by go_num, rfl, hcF, rfl, hc9, by omega, oG, by simpa using oF, ?_, ?_, ?_, hbF⟩
                          · rw [hstep.out]; exact hnew.out.1
                          · rw [hstep.out]; exact hnew.out.2.1
                          · exact hnew.out.2.2
                        case measure => simp [intOf]; omega
                      · go_simp
                        have cX2 : (V1.alloc (.cells #[.int .i64 n1] 3)).cell? ⟨V1.heap.size, 0, none⟩ = some (.int .i64 n1) := by simp [go_sem]
                        have BV2 : Below W2.heap.size W2 (V1.alloc (.cells #[.int .i64 n1] 3)) := (balloc (.cells #[.int .i64 n1] 3) BV1)
                        have oR2 := oR1.alloc (.cells #[.int .i64 n1] 3)
                        have nX : V1.heap.size ≠ W2.heap.size := by have := oR1.lt W2.heap.size rfl; omega
                        refine hK.out _ _ ?_ (fun hHeld => ?_)
                        · (try dsimp only); exact ⟨keep_below BV2 d19', keep_below BV2 c0'⟩
                        clear hK K
                        try simp only [putQ]
                        generalize (V1.alloc (.cells #[.int .i64 n1] 3)) = V2 at *
                        refine wpAnyH_ready (rs := [4]) (by kernel_rfl) (by simp) ?_
                        refine AllReadyH.cons (o := _) rfl (fun K hK => ?_) AllReadyH.nil
                        refine step_app (by rfl) _ _ (by rfl) W2.heap.size (.slice (some ⟨W2.heap.size, 0, none⟩) 0 0) 0 [] (by rfl) (by simp) oR2 _ go 0 rfl k co (Lo.take k) (by rfl) (by simp; omega) (fun j hj => by rw [Nat.zero_add, keep_below BV2 (hcs j (by omega))]; simp [List.getD, hj]) k (Nat.zero_add k) (by omega) BV2.size ?_
                        intro g3 c3 V3 oR3 gr3 hc3
                        have BV3 := own_grow BV2 BV2.size oR2 gr3
                        have cX3 := keep_grown' gr3 nX cX2
                        refine hK.out _ _ ?_ (fun hHeld => ?_)
                        · (try dsimp only); exact ⟨keep_below BV3 d19', keep_below BV3 c0'⟩
                        clear hK K
                        try simp only [putQ]
                        refine wpAnyH_ready (rs := [12]) (by kernel_rfl) (by simp) ?_
                        refine AllReadyH.cons (o := _) rfl (fun K hK => ?_) AllReadyH.nil
                        refine step_app (by rfl) _ _ (by rfl) W2.heap.size (.slice (some ⟨g3, 0, none⟩) k c3) k _ (by rfl) (by simp) oR3 (some ⟨V1.heap.size, 0, none⟩) V1.heap.size 0 rfl 1 1 [n1] (by rfl) rfl (fun j hj => by obtain rfl : j = 0 := (by omega); exact cX3) (k + 1) rfl (by omega) BV3.size ?_
                        intro g8 c8 V8 oR8 gr8 hc8
                        have BV8 := own_grow BV3 BV3.size oR3 gr8
                        refine hK.out _ _ ?_ (fun hHeld => ?_)
                        · (try dsimp only); exact ⟨keep_below BV8 d19', keep_below BV8 c0'⟩
                        clear hK K
                        try simp only [putQ]
                        refine wpAnyH_ready (rs := [16]) (by kernel_rfl) (by simp) ?_
                        refine AllReadyH.cons (o := _) rfl (fun K hK => ?_) AllReadyH.nil
                        refine step_app (by rfl) _ _ (by rfl) W2.heap.size (.slice (some ⟨g8, 0, none⟩) (k + 1) c8) (k + 1) _ (by rfl) (by simp) oR8 (if co = k then some ⟨go, 0, none⟩ else some ⟨go, k, none⟩) go (if co = k then 0 else k) (by split <;> rfl) (n - k) (co - k) (Lo.drop k) (by rfl) (by simp; omega) (fun j hj => by rw [if_neg (by omega), keep_below BV8 (hcs (k + j) (by omega))]; simp [List.getD, List.getElem?_drop]) (n + 1) (by omega) (by omega) BV8.size ?_
                        intro g9 c9 V9 oR9 gr9 hc9
                        have BV9 := own_grow BV8 BV8.size oR8 gr9
                        refine hK.out _ _ ?_ (fun hHeld => ?_)
                        · (try dsimp only); exact ⟨keep_below BV9 d19', keep_below BV9 c0'⟩
                        clear hK K
                        try simp only [putQ]
                        refine tkIns 17 (v := ?_) rfl (Or.inl ⟨by rfl, ?_⟩) (by assumption) ?_
                        rotate_left 1
                        · (intro w hS; (try dsimp only at hS); (try obtain ⟨s1, s2⟩ := hS); go_simp; try with_reducible rfl)
                        try simp only [putQ]
                        refine wpAnyH_done (by kernel_rfl) ?_ _
                        clear oR8 gr8 gr9 hc8 BV8 hcs
                        have hbF := btrans hb5 (btrans BB BV9)
                        have oF := own_mono (Nat.le_trans hbase (Nat.le_trans hb5.size BB.size)) oR9
                        have oG := own_below oFar BV9
                        clear oR9 BV9 oFar BB hb5
                        go_wp2
                        go_roundw
                        case rel =>
                          refine ⟨i + 1, gF, cF, g9, c9, n + 1, Lf.take k ++ [X] ++ Lf.drop k, Lo.take k ++ [n1] ++ Lo.drop k, by omega, by go_num, rfl, hcF, rfl, hc9, by omega, oG, by simpa using oF, ?_, ?_, ?_, hbF⟩
                          · rw [hstep.out]; exact hnew.out.1
                          · rw [hstep.out]; exact hnew.out.2.1
                          · exact hnew.out.2.2
                        case measure => simp [intOf]; omega
                    · go_simp
                      have cX1 : ((W2.alloc (.cells #[.int .i64 n1] 3)).drew).cell? ⟨W2.heap.size, 0, none⟩ = some (.int .i64 n1) := by simp [go_sem]
                      have BV1 : Below W2.heap.size W2 ((W2.alloc (.cells #[.int .i64 n1] 3)).drew) := QB1 (balloc (.cells #[.int .i64 n1] 3) (Below.refl _ W2))
                      have xlt := World.block_lt_of_cell? _ _ cX1
                      refine hK.out _ _ ?_ (fun hHeld => ?_)
                      · (try dsimp only); exact ⟨keep_below BV1 d19', keep_below BV1 c0'⟩
                      clear hK K
                      try simp only [putQ]
                      generalize ((W2.alloc (.cells #[.int .i64 n1] 3)).drew) = V1 at *
                      refine wpAnyH_ready (rs := [0]) (by kernel_rfl) (by simp) ?_
                      refine AllReadyH.cons (o := _) rfl (fun K hK => ?_) AllReadyH.nil
                      go_simp
                      have oR2 : (V1.alloc (.cells #[] 3)).ownsRow W2.heap.size 3 1 (.slice (some ⟨V1.heap.size, 0, none⟩) 0 0) 0 (lv []) := World.ownsRow_lit V1 #[] 0 (BV1.size) (by unfold maxLen; omega) rfl
                      have BV2 : Below W2.heap.size W2 (V1.alloc (.cells #[] 3)) := (balloc (.cells #[] 3) BV1)
                      have cX2 := keep_alloc (.cells #[] 3) cX1
                      have nX : W2.heap.size ≠ V1.heap.size := by simp at xlt; omega
                      refine hK.out _ _ ?_ (fun hHeld => ?_)
                      · (try dsimp only); exact ⟨keep_below BV2 d19', keep_below BV2 c0'⟩
                      clear hK K
                      try simp only [putQ]
                      generalize (V1.alloc (.cells #[] 3)) = V2 at *
                      refine wpAnyH_ready (rs := [4]) (by kernel_rfl) (by simp) ?_
                      refine AllReadyH.cons (o := _) rfl (fun K hK => ?_) AllReadyH.nil
                      refine step_app (by rfl) _ _ (by rfl) W2.heap.size (.slice (some ⟨V1.heap.size, 0, none⟩) 0 0) 0 [] (by rfl) (by simp) oR2 _ go 0 rfl k co (Lo.take k) (by rfl) (by simp; omega) (fun j hj => by rw [Nat.zero_add, keep_below BV2 (hcs j (by omega))]; simp [List.getD, hj]) k (Nat.zero_add k) (by omega) BV2.size ?_
                      intro g3 c3 V3 oR3 gr3 hc3
                      have BV3 := own_grow BV2 BV2.size oR2 gr3
                      have cX3 := keep_grown' gr3 nX cX2
                      refine hK.out _ _ ?_ (fun hHeld => ?_)
                      · (try dsimp only); exact ⟨keep_below BV3 d19', keep_below BV3 c0'⟩
                      clear hK K
                      try simp only [putQ]
                      refine wpAnyH_ready (rs := [12]) (by kernel_rfl) (by simp) ?_
                      refine AllReadyH.cons (o := _) rfl (fun K hK => ?_) AllReadyH.nil
                      refine step_app (by rfl) _ _ (by rfl) W2.heap.size (.slice (some ⟨g3, 0, none⟩) k c3) k _ (by rfl) (by simp) oR3 (some ⟨W2.heap.size, 0, none⟩) W2.heap.size 0 rfl 1 1 [n1] (by rfl) rfl (fun j hj => by obtain rfl : j = 0 := (by omega); exact cX3) (k + 1) rfl (by omega) BV3.size ?_
                      intro g8 c8 V8 oR8 gr8 hc8
                      have BV8 := own_grow BV3 BV3.size oR3 gr8
                      refine hK.out _ _ ?_ (fun hHeld => ?_)
                      · (try dsimp only); exact ⟨keep_below BV8 d19', keep_below BV8 c0'⟩
                      clear hK K
                      try simp only [putQ]
                      refine wpAnyH_ready (rs := [16]) (by kernel_rfl) (by simp) ?_
                      refine AllReadyH.cons (o := _) rfl (fun K hK => ?_) AllReadyH.nil
                      refine step_app (by rfl) _ _ (by rfl) W2.heap.size (.slice (some ⟨g8, 0, none⟩) (k + 1) c8) (k + 1) _ (by rfl) (by simp) oR8 (if co = k then some ⟨go, 0, none⟩ else some ⟨go, k, none⟩) go (if co = k then 0 else k) (by split <;> rfl) (n - k) (co - k) (Lo.drop k) (by rfl) (by simp; omega) (fun j hj => by rw [if_neg (by omega), keep_below BV8 (hcs (k + j) (by omega))]; simp [List.getD, List.getElem?_drop]) (n + 1) (by omega) (by omega) BV8.size ?_
                      intro g9 c9 V9 oR9 gr9 hc9
                      have BV9 := own_grow BV8 BV8.size oR8 gr9
                      refine hK.out _ _ ?_ (fun hHeld => ?_)
                      · (try dsimp only); exact ⟨keep_below BV9 d19', keep_below BV9 c0'⟩
                      clear hK K
                      try simp only [putQ]
                      refine tkIns 17 (v := ?_) rfl (Or.inl ⟨by rfl, ?_⟩) (by assumption) ?_
                      rotate_left 1
                      · (intro w hS; (try dsimp only at hS); (try obtain ⟨s1, s2⟩ := hS); go_simp; try with_reducible rfl)
                      try simp only [putQ]
                      refine wpAnyH_done (by kernel_rfl) ?_ _
                      clear oR8 gr8 gr9 hc8 BV8 hcs
                      have hbF := btrans hb5 (btrans BB BV9)
                      have oF := own_mono (Nat.le_trans hbase (Nat.le_trans hb5.size BB.size)) oR9
                      have oG := own_below oFar BV9
                      clear oR9 BV9 oFar BB hb5
                      go_wp2
                      go_roundw
                      case rel =>
                        refine ⟨i + 1, gF, cF, g9, c9, n + 1, Lf.take k ++ [X] ++ Lf.drop k, Lo.take k ++ [n1] ++ Lo.drop k, by omega, by go_num, rfl, hcF, rfl, hc9, by omega, oG, by simpa using oF, ?_, ?_, ?_, hbF⟩
                        · rw [hstep.out]; exact hnew.out.1
                        · rw [hstep.out]; exact hnew.out.2.1
                        · exact hnew.out.2.2
                      case measure => simp [intOf]; omega
            · have hS := hno.out (by rw [hal2.out]; simpa using e1)
              clear hno hyes hal2 hX0 rcc rpc c0c
              go_upto_region 9 with fail
              refine wp_region_q0 s18_9 t18_9 (fun hbq => ?_)
              refine qY ?_
              refine qV (.bool false) ?_ (by (intro w; go_simp; all_goals (first | with_reducible rfl | (simp; omega; done) | assumption | (simp; done) | (simp; omega))))
              iterate 2 refine qY ?_
              refine qL ?_
              iterate 3 refine qY ?_
              refine qL ?_
              refine qV (.bool true) ?_ (by (intro w; go_simp; all_goals (first | with_reducible rfl | (simp [e1]; done) | assumption | (simp; done) | (simp; omega))))
              refine qY ?_
              refine qE ?_
              clear hbq t2'
              go_wp2
              go_roundw
              case rel => exact ⟨i + 1, gf, cf, go, co, n, Lf, Lo, by omega, by go_num, rfl, hcf, rfl, hco, by omega, oF2, oO2, by rw [hS]; exact eF'.out, by rw [hS]; exact eO'.out, hlF, hb2⟩
              case measure => simp [intOf]; omega
        · obtain rfl : i = pll := by omega
          have hN : Hid (nrL most cx cy ch ce tl F i GP = Lo.take most.toNat) := by
            rw [Hid, nrL, ← near_eq _ _ _ h3, eO, List.map_take]
          have hlo : Lo.length = n := by rw [← hlF, eF, eO]; simp
          have bF := btrans b2 hb1
          have d19b := keep_below hb1 d19a
          by_cases m0 : most < 0
          · have e0 : most.toNat = 0 := by omega
            go_wp2
            go_ret
            refine ⟨⟨_, rfl, ?_⟩, balloc _ bF⟩
            rw [hL.out, hN.out, e0, List.take_zero]
            exact World.ownsRow_lit wr #[] 0 (by have := bF.size; omega) (by unfold maxLen; omega) rfl
          · by_cases m1 : most < (n : Int)
            · have m2 : (0 : Int) ≤ most := by omega
              have m3 : most ≤ (co : Int) := by omega
              have m4 : most.toNat ≤ co := by omega
              go_wp2
              go_ret
              refine ⟨⟨_, rfl, ?_⟩, bF⟩
              rw [hL.out, hN.out]
              have := own_pre oO1 most.toNat (by omega)
              rw [List.length_take, show min most.toNat Lo.length = most.toNat by omega]
              exact this
            · go_wp2
              go_ret
              refine ⟨⟨_, rfl, ?_⟩, bF⟩
              rw [hL.out, hN.out, List.take_of_length_le (by omega), hlo]
              exact oO1
end Go.Proofs.YtgcdcfjaeehnbaaGreat
