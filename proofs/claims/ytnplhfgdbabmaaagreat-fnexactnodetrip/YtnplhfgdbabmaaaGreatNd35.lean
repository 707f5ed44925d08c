/- Nodes: how long a trip should take, by the program and by the model. -/
import Derived.Test.YtnplhfgdbabmaaaGreatNd25
import Derived.Test.YtnplhfgdbabmaaaGreatNd30
import Derived.Test.YtnplhfgdbabmaaaGreatWk
import Derived.Test.YtnplhfgdbabmaaaGreatCd
namespace Go.Proofs.YtnplhfgdbabmaaaGreat
open Go.ChangeShapes Go.WideShapes Go.ChangeAt Go.RowKit
attribute [local go_sem ↓] Go.wp_at_zero Go.wp_at_succ
def s18_7 : List Stp := [⟨some 25, .fieldAddr 43 (.tmp 2) 12, 0, none, 0⟩, ⟨some 26, .load 39 (.tmp 25), 39, none, 0⟩, ⟨some 27, .fieldAddr 43 (.tmp 2) 13, 0, none, 0⟩, ⟨some 28, .load 40 (.tmp 27), 40, none, 0⟩, ⟨some 29, .move (.tmp 6), 3, none, 0⟩, ⟨some 30, .indexAddr 40 (.tmp 28) (.tmp 29), 0, none, 0⟩, ⟨some 31, .fieldAddr 91 (.tmp 30) 1, 0, none, 0⟩, ⟨some 32, .load 39 (.tmp 31), 39, none, 0⟩, ⟨some 33, .call { callee := .value (.func 70), args := #[.tmp 26, .tmp 32], argTypes := #[39, 39] }, 3, none, 1⟩, ⟨some 4, .assign (.tmp 33), 3, none, 0⟩, ⟨some 5, .assign (.const (.bool true)), 4, none, 0⟩]
def t18_7 : List (Nat × Nat) := [(0, 0), (1, 0), (2, 0), (3, 0), (4, 0), (5, 0), (6, 0), (7, 0), (8, 1), (9, 0), (10, 0)]
/-- how long a trip should take, and whether the place is known -/
def tripP (q : Bool) (cx cy ch ce : Int) (pll : Nat) (GP : Nat → Pl) (key : Int) : Int × Bool := if q then (match nfd pll (fun k => (GP k).n) key with | none => (0, false) | some k => (Cd.dst cx cy ch ce (GP k).x (GP k).y (GP k).h (GP k).e, true)) else (0, false)
def tripV (p : Int × Bool) : Value := .tuple #[.int .i64 p.1, .bool p.2]
set_option maxRecDepth 20000 in
set_option maxHeartbeats 4000000 in
theorem trip19_any (me : Int) (up gone gate : Bool) (inc now sq turn : Int) (ta : Option Addr) (tl tc : Nat) (ca : Option Addr) (cl cc : Nat) (pn ps pq : Int) (pa : Bool) (da : Option Addr) (dl dc : Nat) (cx cy ch ce : Int) (pla : Option Addr) (pll plc : Nat) (oa : Option Addr) (ol oc : Nat) (F : Nat → Fc) (GI : Nat → It) (GD : Nat → Dt) (GP : Nat → Pl) (GO : Nat → Fg) (key : Int) (w : World) (h : NdIn w ta tl F ca cl GI da dl GD pla pll GP oa ol GO) :
    Calls Tryz.prog 19 #[.agg #[.int .i64 me, .bool up, .bool gone, .bool gate, .int .i64 inc, .int .i64 now, .int .i64 sq, .int .i64 turn, .slice ta tl tc, .slice ca cl cc, .int .i64 pn, .int .i64 ps, .int .i64 pq, .bool pa, .slice da dl dc, .int .i64 cx, .int .i64 cy, .int .i64 ch, .int .i64 ce, .slice pla pll plc, .slice oa ol oc], .int .i64 key] w fun r w' => r = .returned (tripV (tripP (nodB me up gone gate inc now sq turn tl F cl GI pn ps pq pa dl GD cx cy ch ce pll GP ol GO) cx cy ch ce pll GP key)) ∧ Below w.heap.size w w' := by
  have b0 := balloc (.cells #[.int .i64 me, .bool up, .bool gone, .bool gate, .int .i64 inc, .int .i64 now, .int .i64 sq, .int .i64 turn, .slice ta tl tc, .slice ca cl cc, .int .i64 pn, .int .i64 ps, .int .i64 pq, .bool pa, .slice da dl dc, .int .i64 cx, .int .i64 cy, .int .i64 ch, .int .i64 ce, .slice pla pll plc, .slice oa ol oc] 43) (Below.refl w.heap.size w)
  have X := Ws.box (w := w) #[.int .i64 me, .bool up, .bool gone, .bool gate, .int .i64 inc, .int .i64 now, .int .i64 sq, .int .i64 turn, .slice ta tl tc, .slice ca cl cc, .int .i64 pn, .int .i64 ps, .int .i64 pq, .bool pa, .slice da dl dc, .int .i64 cx, .int .i64 cy, .int .i64 ch, .int .i64 ce, .slice pla pll plc, .slice oa ol oc] 43
  go_enter Tryz.func19, Tryz.ntmps19
  go_upto_region 1 with fail
  generalize w.alloc (.cells #[.int .i64 me, .bool up, .bool gone, .bool gate, .int .i64 inc, .int .i64 now, .int .i64 sq, .int .i64 turn, .slice ta tl tc, .slice ca cl cc, .int .i64 pn, .int .i64 ps, .int .i64 pq, .bool pa, .slice da dl dc, .int .i64 cx, .int .i64 cy, .int .i64 ch, .int .i64 ce, .slice pla pll plc, .slice oa ol oc] 43) = u at *
  have h0 := h.below b0
  have d19 := X.c 19 (.slice pla pll plc) rfl
  clear h
  go_wp2_with fail
  refine (Plfind_any pla pll plc GP key _ h0.p h0.hp).mono ?_
  rintro r w1 ⟨hF, k1⟩
  have b1 := btrans b0 k1
  have X1 := X.below k1
  have h1 := h0.below k1
  clear b0 X h0 k1 d19
  obtain ⟨q, hq⟩ : ∃ q, Hid (nodB me up gone gate inc now sq turn tl F cl GI pn ps pq pa dl GD cx cy ch ce pll GP ol GO = q) := ⟨_, rfl⟩
  rcases hF with ⟨ef, rfl⟩ | ⟨k, ef, hk, hn, rfl⟩
  · have hr : Hid (tripP (nodB me up gone gate inc now sq turn tl F cl GI pn ps pq pa dl GD cx cy ch ce pll GP ol GO) cx cy ch ce pll GP key = (0, false)) := by
      rw [Hid, tripP, ef]; split <;> rfl
    clear ef
    have kk := balloc (.cells #[.int .i64 0, .int .i64 0, .int .i64 0, .int .i64 0, .int .i64 0, .slice none 0 0] 91) (Below.refl w1.heap.size w1)
    have b2 := btrans b1 kk
    have h2 := h1.below kk
    have r2 := (X1.below kk).range
    go_upto_region 2 with fail
    generalize w1.alloc (.cells #[.int .i64 0, .int .i64 0, .int .i64 0, .int .i64 0, .int .i64 0, .slice none 0 0] 91) = v at *
    clear X1 h1 kk
    go_wp2_with (refine load43L (by rfl) (.tmp 2) rfl w.heap.size rfl [.int .i64 me, .bool up, .bool gone, .bool gate, .int .i64 inc, .int .i64 now, .int .i64 sq, .int .i64 turn, .slice ta tl tc, .slice ca cl cc, .int .i64 pn, .int .i64 ps, .int .i64 pq, .bool pa, .slice da dl dc, .int .i64 cx, .int .i64 cy, .int .i64 ch, .int .i64 ce, .slice pla pll plc, .slice oa ol oc] r2 rfl ?_; clear r2)
    refine (nodeOk11_any me up gone gate inc now sq turn ta tl tc ca cl cc pn ps pq pa da dl dc cx cy ch ce pla pll plc oa ol oc F GI GD GP GO _ h2).mono ?_
    rintro r w3 ⟨rfl, k3⟩
    rw [hq.out]
    clear hq
    cases q
    · go_wp2
      try simp only [Exit.inBlock, Exit.then]
      exact bodyPost_ret (v := .tuple #[.int .i64 0, .bool false]) (by simp [results, Tryz.results19, go_sem]) rfl ⟨by rw [hr.out]; rfl, btrans b2 k3⟩
    · go_wp2
      try simp only [Exit.inBlock, Exit.then]
      exact bodyPost_ret (v := .tuple #[.int .i64 0, .bool false]) (by simp [results, Tryz.results19, go_sem]) rfl ⟨by rw [hr.out]; rfl, btrans b2 k3⟩
  · have hr : Hid (tripP (nodB me up gone gate inc now sq turn tl F cl GI pn ps pq pa dl GD cx cy ch ce pll GP ol GO) cx cy ch ce pll GP key = if nodB me up gone gate inc now sq turn tl F cl GI pn ps pq pa dl GD cx cy ch ce pll GP ol GO then (Cd.dst cx cy ch ce (GP k).x (GP k).y (GP k).h (GP k).e, true) else (0, false)) := by
      rw [Hid, tripP, ef]
    clear ef hn hk
    generalize GP k = x at *
    obtain ⟨n, px, py, ph, pe, ba, bl, bc, bf⟩ := x
    dsimp only at hr ⊢
    have kk := balloc (.cells #[.int .i64 n, .int .i64 px, .int .i64 py, .int .i64 ph, .int .i64 pe, .slice ba bl bc] 91) (Below.refl w1.heap.size w1)
    have b2 := btrans b1 kk
    have h2 := h1.below kk
    have X2 := X1.below kk
    have Y := Ws.box (w := w1) #[.int .i64 n, .int .i64 px, .int .i64 py, .int .i64 ph, .int .i64 pe, .slice ba bl bc] 91
    go_upto_region 2 with fail
    generalize w1.alloc (.cells #[.int .i64 n, .int .i64 px, .int .i64 py, .int .i64 ph, .int .i64 pe, .slice ba bl bc] 91) = v at *
    generalize w1.heap.size = KD at *
    have r2 := X2.range
    clear X1 h1 kk
    go_wp2_with (refine load43L (by rfl) (.tmp 2) rfl w.heap.size rfl [.int .i64 me, .bool up, .bool gone, .bool gate, .int .i64 inc, .int .i64 now, .int .i64 sq, .int .i64 turn, .slice ta tl tc, .slice ca cl cc, .int .i64 pn, .int .i64 ps, .int .i64 pq, .bool pa, .slice da dl dc, .int .i64 cx, .int .i64 cy, .int .i64 ch, .int .i64 ce, .slice pla pll plc, .slice oa ol oc] r2 rfl ?_; clear r2)
    refine (nodeOk11_any me up gone gate inc now sq turn ta tl tc ca cl cc pn ps pq pa da dl dc cx cy ch ce pla pll plc oa ol oc F GI GD GP GO _ h2).mono ?_
    rintro r w3 ⟨rfl, k3⟩
    have b3 := btrans b2 k3
    have X3 := X2.below k3
    have Y3 := Y.below k3
    rw [hq.out]
    have hr2 : Hid (tripP (nodB me up gone gate inc now sq turn tl F cl GI pn ps pq pa dl GD cx cy ch ce pll GP ol GO) cx cy ch ce pll GP key = if q then (Cd.dst cx cy ch ce px py ph pe, true) else (0, false)) := by
      rw [Hid, hr.out, hq.out]
    clear hq hr X2 Y h2 b2 k3
    cases q
    · clear X3 Y3
      go_wp2
      try simp only [Exit.inBlock, Exit.then]
      exact bodyPost_ret (v := .tuple #[.int .i64 0, .bool false]) (by simp [results, Tryz.results19, go_sem]) rfl ⟨by rw [hr2.out]; rfl, b3⟩
    · have y1 := Y3.c 1 (.int .i64 px) rfl
      have y2 := Y3.c 2 (.int .i64 py) rfl
      have y3 := Y3.c 3 (.int .i64 ph) rfl
      have y4 := Y3.c 4 (.int .i64 pe) rfl
      have d15 := X3.c 15 (.int .i64 cx) rfl
      have d16 := X3.c 16 (.int .i64 cy) rfl
      have d17 := X3.c 17 (.int .i64 ch) rfl
      have d18 := X3.c 18 (.int .i64 ce) rfl
      clear X3 Y3
      go_wp2_with fail
      refine (Cd.fdist_any cx cy ch ce px py ph pe _).mono ?_
      rintro r w4 ⟨rfl, k4⟩
      generalize Cd.dst cx cy ch ce px py ph pe = z at *
      clear y1 y2 y3 y4 d15 d16 d17 d18
      go_wp2
      try simp only [Exit.inBlock, Exit.then]
      exact bodyPost_ret (v := .tuple #[.int .i64 z, .bool true]) (by simp [results, Tryz.results19, go_sem]) rfl ⟨by rw [hr2.out]; rfl, btrans b3 k4⟩
set_option maxRecDepth 20000 in
set_option maxHeartbeats 4000000 in
set_option linter.unusedSimpArgs false in
theorem trip18_any (me : Int) (up gone gate : Bool) (inc now sq turn : Int) (ta : Option Addr) (tl tc : Nat) (ca : Option Addr) (cl cc : Nat) (pn ps pq : Int) (pa : Bool) (da : Option Addr) (dl dc : Nat) (cx cy ch ce : Int) (pla : Option Addr) (pll plc : Nat) (oa : Option Addr) (ol oc : Nat) (F : Nat → Fc) (GI : Nat → It) (GD : Nat → Dt) (GP : Nat → Pl) (GO : Nat → Fg) (key : Int) (w : World) (h : NdIn w ta tl F ca cl GI da dl GD pla pll GP oa ol GO) :
    Calls Tryz.prog 18 #[.agg #[.int .i64 me, .bool up, .bool gone, .bool gate, .int .i64 inc, .int .i64 now, .int .i64 sq, .int .i64 turn, .slice ta tl tc, .slice ca cl cc, .int .i64 pn, .int .i64 ps, .int .i64 pq, .bool pa, .slice da dl dc, .int .i64 cx, .int .i64 cy, .int .i64 ch, .int .i64 ce, .slice pla pll plc, .slice oa ol oc], .int .i64 key] w fun r w' => r = .returned (tripV (tripP (snodB me up gone gate inc now sq turn tl F cl GI pn ps pq pa dl GD cx cy ch ce pll GP ol GO) cx cy ch ce pll GP key)) ∧ Below w.heap.size w w' := by
  have b0 := balloc (.cells #[.int .i64 me, .bool up, .bool gone, .bool gate, .int .i64 inc, .int .i64 now, .int .i64 sq, .int .i64 turn, .slice ta tl tc, .slice ca cl cc, .int .i64 pn, .int .i64 ps, .int .i64 pq, .bool pa, .slice da dl dc, .int .i64 cx, .int .i64 cy, .int .i64 ch, .int .i64 ce, .slice pla pll plc, .slice oa ol oc] 43) (Below.refl w.heap.size w)
  have X := Ws.box (w := w) #[.int .i64 me, .bool up, .bool gone, .bool gate, .int .i64 inc, .int .i64 now, .int .i64 sq, .int .i64 turn, .slice ta tl tc, .slice ca cl cc, .int .i64 pn, .int .i64 ps, .int .i64 pq, .bool pa, .slice da dl dc, .int .i64 cx, .int .i64 cy, .int .i64 ch, .int .i64 ce, .slice pla pll plc, .slice oa ol oc] 43
  go_enter Tryz.func18, Tryz.ntmps18
  go_upto_region 1 with fail
  generalize w.alloc (.cells #[.int .i64 me, .bool up, .bool gone, .bool gate, .int .i64 inc, .int .i64 now, .int .i64 sq, .int .i64 turn, .slice ta tl tc, .slice ca cl cc, .int .i64 pn, .int .i64 ps, .int .i64 pq, .bool pa, .slice da dl dc, .int .i64 cx, .int .i64 cy, .int .i64 ch, .int .i64 ce, .slice pla pll plc, .slice oa ol oc] 43) = u at *
  have h0 := h.below b0
  have r0 := X.range
  clear h
  go_wp2_with (refine load43L (by rfl) (.tmp 2) rfl w.heap.size rfl [.int .i64 me, .bool up, .bool gone, .bool gate, .int .i64 inc, .int .i64 now, .int .i64 sq, .int .i64 turn, .slice ta tl tc, .slice ca cl cc, .int .i64 pn, .int .i64 ps, .int .i64 pq, .bool pa, .slice da dl dc, .int .i64 cx, .int .i64 cy, .int .i64 ch, .int .i64 ce, .slice pla pll plc, .slice oa ol oc] r0 rfl ?_; clear r0)
  refine (nodeOk9_any me up gone gate inc now sq turn ta tl tc ca cl cc pn ps pq pa da dl dc cx cy ch ce pla pll plc oa ol oc F GI GD GP GO _ h0).mono ?_
  rintro r w1 ⟨rfl, k1⟩
  have b1 := btrans b0 k1
  have X1 := X.below k1
  have h1 := h0.below k1
  clear b0 X h0 k1
  have hr : Hid (tripP (snodB me up gone gate inc now sq turn tl F cl GI pn ps pq pa dl GD cx cy ch ce pll GP ol GO) cx cy ch ce pll GP key = if snodB me up gone gate inc now sq turn tl F cl GI pn ps pq pa dl GD cx cy ch ce pll GP ol GO then (match nfd pll (fun k => (GP k).n) key with | none => (0, false) | some k => (Cd.dst cx cy ch ce (GP k).x (GP k).y (GP k).h (GP k).e, true)) else (0, false)) := rfl
  obtain ⟨q, hq⟩ : ∃ q, Hid (snodB me up gone gate inc now sq turn tl F cl GI pn ps pq pa dl GD cx cy ch ce pll GP ol GO = q) := ⟨_, rfl⟩
  rw [hq.out]
  rw [hq.out] at hr
  cases q
  · clear X1 h1
    go_wp2
    try simp only [Exit.inBlock, Exit.then]
    exact bodyPost_ret (v := .tuple #[.int .i64 0, .bool false]) (by simp [results, Tryz.results18, go_sem]) rfl ⟨by rw [hq.out, hr.out]; rfl, b1⟩
  have hr2 : Hid (tripP true cx cy ch ce pll GP key = (match nfd pll (fun k => (GP k).n) key with | none => (0, false) | some k => (Cd.dst cx cy ch ce (GP k).x (GP k).y (GP k).h (GP k).e, true))) := by rw [Hid, hr.out]; rfl
  clear hr
  have d19 := X1.c 19 (.slice pla pll plc) rfl
  have d15 := X1.c 15 (.int .i64 cx) rfl
  have d16 := X1.c 16 (.int .i64 cy) rfl
  have d17 := X1.c 17 (.int .i64 ch) rfl
  have d18 := X1.c 18 (.int .i64 ce) rfl
  have hd := h1.p
  have hdl := h1.hp
  clear X1 h1
  go_wp2
  go_loopw [6] (fun i wr => ∃ k : Nat, k ≤ pll ∧ i = .int .i64 k ∧ Below w1.heap.size w1 wr ∧ (∀ j, j < k → (GP j).n ≠ key)) (fun i _ => pll - (intOf i).toNat)
  case atStart => exact ⟨0, by omega, rfl, Below.refl _ _, fun j h1 => by omega⟩
  case round =>
    obtain ⟨k, hk, rfl, hb, hall⟩ := hrel
    have f19 := keep_below hb d19
    have r15 := range4 (keep_below hb d15) (keep_below hb d16) (keep_below hb d17) (keep_below hb d18)
    by_cases hlt : k < pll
    · obtain ⟨b, off, rfl, hbl, hf⟩ := hd (by omega)
      obtain ⟨c0, c1, c2, c3, c4, _⟩ := (hf.below hb hbl) k hlt
      have i0 : (0 : Int) ≤ (k : Int) := by omega
      have i1 : (k : Int) < (pll : Int) := by omega
      have hyes : Hid ((GP k).n ≠ key → ∀ j, j < k + 1 → (GP j).n ≠ key) := fun e j hj => by
        by_cases ej : j = k
        · subst ej; exact e
        · exact hall j (by omega)
      have hit : Hid ((GP k).n = key → tripP true cx cy ch ce pll GP key = (Cd.dst cx cy ch ce (GP k).x (GP k).y (GP k).h (GP k).e, true)) := fun e => by
        rw [hr2.out, nfd_some hall hlt e]
      clear hall
      generalize GP k = x at *
      obtain ⟨n, px, py, ph, pe, ba, bl, bc, bf⟩ := x
      dsimp only at c0 c1 c2 c3 c4 hyes hit
      by_cases e : n = key
      · subst e
        have e' : Hid (tripP true cx cy ch ce pll GP n = (Cd.dst cx cy ch ce px py ph pe, true)) := hit.out rfl
        clear hit hyes hr2
        have rp := range4 c1 c2 c3 c4
        clear c1 c2 c3 c4
        go_upto_region 7 with fail
        refine wp_region_q s18_7 t18_7 (fun hbq => ?_)
        refine qY ?_
        refine qR ?_
        refine qY ?_
        refine qL ?_
        iterate 3 refine qY ?_
        refine qR ?_
        refine qC (fun K hK => ?_)
        go_simp
        refine (Cd.sdist_any cx cy ch ce px py ph pe _).mono ?_; rintro r w5 ⟨rfl, k5⟩
        go_wp2_with fail
        refine hK.out _ _ (btrans hbq k5) (.inl ?_)
        clear hK K
        replace hbq := btrans hbq k5
        clear k5
        try simp only [putQ]
        iterate 2 refine qY ?_
        refine qE ?_
        generalize Cd.dst cx cy ch ce px py ph pe = z at *
        clear rp r15 f19 c0
        go_wp2
        try simp only [Exit.inBlock, Exit.then]
        exact bodyPost_ret (v := .tuple #[.int .i64 z, .bool true]) (by simp [results, Tryz.results18, go_sem]) rfl ⟨by rw [hq.out, e'.out]; rfl, btrans b1 (btrans hb hbq)⟩
      · have e1 : (n == key) = false := by simpa using e
        have e2 := hyes.out e
        clear hyes hit c1 c2 c3 c4
        go_wp2
        go_roundw
        case rel => exact ⟨k + 1, by omega, by go_num, hb, e2⟩
        case measure => simp [intOf]; omega
    · have hn : Hid (tripP true cx cy ch ce pll GP key = (0, false)) := by
        rw [Hid, hr2.out, nfd_none fun j hj => hall j (by omega)]
      clear hall hr2
      go_wp2
      try simp only [Exit.inBlock, Exit.then]
      exact bodyPost_ret (v := .tuple #[.int .i64 0, .bool false]) (by simp [results, Tryz.results18, go_sem]) rfl ⟨by rw [hq.out, hn.out]; rfl, btrans b1 hb⟩
end Go.Proofs.YtnplhfgdbabmaaaGreat
