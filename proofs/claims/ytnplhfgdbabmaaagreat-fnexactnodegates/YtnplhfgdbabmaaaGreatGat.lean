/- Nodes: the gateways of a site, by the program and by the model. -/
import Derived.Test.YtnplhfgdbabmaaaGreatNd25
import Derived.Test.YtnplhfgdbabmaaaGreatNd30
import Derived.Test.YtnplhfgdbabmaaaGreatWk
import Derived.Test.YtnplhfgdbabmaaaGreatGatesF
import Derived.Test.YtnplhfgdbabmaaaGreatNd27
import Derived.Test.YtnplhfgdbabmaaaGreatNd40
namespace Go.Proofs.YtnplhfgdbabmaaaGreat
open Go.ChangeShapes Go.WideShapes Go.ChangeAt Go.RowKit
attribute [local go_sem ↓] Go.wp_at_zero Go.wp_at_succ
def s75_1 : List Stp := [⟨some 7, .move (.tmp 1), 3, none, 0⟩, ⟨some 8, .load 43 (.tmp 2), 43, none, 0⟩, ⟨some 9, .call { callee := .value (.func 104), args := #[.tmp 8], argTypes := #[43] }, 3, none, 1⟩, ⟨some 10, .binOp .eql 3 (.tmp 7) (.tmp 9) 3, 4, none, 2⟩]
def t75_1 : List (Nat × Nat) := [(0, 0), (1, 0), (2, 1), (3, 2)]
def s21_1 : List Stp := [⟨some 5, .load 43 (.tmp 2), 43, none, 0⟩, ⟨some 6, .call { callee := .value (.func 11), args := #[.tmp 5], argTypes := #[43] }, 4, none, 1⟩, ⟨some 7, .unOp .not 4 (.tmp 6), 4, none, 0⟩, ⟨some 8, .move (.tmp 7), 4, none, 0⟩, ⟨some 9, .fieldAddr 43 (.tmp 2) 1, 0, some (8, false), 0⟩, ⟨some 10, .load 4 (.tmp 9), 4, some (8, false), 0⟩, ⟨some 11, .unOp .not 4 (.tmp 10), 4, some (8, false), 0⟩, ⟨some 12, .pick (.tmp 8) (.const (.bool true)) (.tmp 11), 4, none, 0⟩]
def t21_1 : List (Nat × Nat) := [(0, 0), (1, 1), (2, 0), (3, 0), (4, 0), (5, 0), (6, 0), (7, 0)]
def s21_3 : List Stp := [⟨some 13, .load 43 (.tmp 2), 43, none, 0⟩, ⟨some 14, .move (.tmp 1), 3, none, 0⟩, ⟨some 15, .call { callee := .value (.func 75), args := #[.tmp 13, .tmp 14], argTypes := #[43, 3] }, 35, none, 1⟩, ⟨some 16, .call { callee := .value (.func 74), args := #[.tmp 15, .const (.int .i64 2)], argTypes := #[35, 3] }, 59, none, 1⟩, ⟨some 4, .assign (.tmp 16), 59, none, 0⟩]
def t21_3 : List (Nat × Nat) := [(0, 0), (1, 0), (2, 1), (3, 1), (4, 0)]
def s20_1 : List Stp := [⟨some 6, .load 43 (.tmp 2), 43, none, 0⟩, ⟨some 7, .call { callee := .value (.func 9), args := #[.tmp 6], argTypes := #[43] }, 4, none, 1⟩, ⟨some 8, .unOp .not 4 (.tmp 7), 4, none, 0⟩, ⟨some 9, .move (.tmp 8), 4, none, 0⟩, ⟨some 10, .fieldAddr 43 (.tmp 2) 1, 0, some (9, false), 0⟩, ⟨some 11, .load 4 (.tmp 10), 4, some (9, false), 0⟩, ⟨some 12, .unOp .not 4 (.tmp 11), 4, some (9, false), 0⟩, ⟨some 13, .pick (.tmp 9) (.const (.bool true)) (.tmp 12), 4, none, 0⟩]
def t20_1 : List (Nat × Nat) := [(0, 0), (1, 1), (2, 0), (3, 0), (4, 0), (5, 0), (6, 0), (7, 0)]
def fot (site : Int) (ol : Nat) (GO : Nat → Fg) : Nat × (Nat → Fc) := match nfd ol (fun k => (GO k).n) site with | none => (0, fun _ => Fc.zero) | some k => ((GO k).bl, (GO k).bf)
/-- what is known of a site -/
def fof (me site : Int) (tl : Nat) (F : Nat → Fc) (ol : Nat) (GO : Nat → Fg) : Nat × (Nat → Fc) := if site = ste me then (tl, F) else fot site ol GO
/-- the gateways of a site -/
def gatL (q up : Bool) (me site : Int) (tl : Nat) (F : Nat → Fc) (ol : Nat) (GO : Nat → Fg) : List Int := if q && up then gsel (fof me site tl F ol GO).2 2 (fof me site tl F ol GO).1 else []
theorem nod_tok (me : Int) (up gone gate : Bool) (inc now sq turn : Int) (tl : Nat) (F : Nat → Fc) (cl : Nat) (GI : Nat → It) (pn ps pq : Int) (pa : Bool) (dl : Nat) (GD : Nat → Dt) (cx cy ch ce : Int) (pll : Nat) (GP : Nat → Pl) (ol : Nat) (GO : Nat → Fg) (h : nodB me up gone gate inc now sq turn tl F cl GI pn ps pq pa dl GD cx cy ch ce pll GP ol GO = true) (hu : up = true) : tokB tl F = true ∧ ∀ k, k < ol → tokB (GO k).bl (GO k).bf = true := by
  unfold nodB at h
  rw [Bool.and_eq_true, Bool.or_eq_true] at h
  obtain ⟨_, h2⟩ := h
  rcases h2 with h2 | h2
  · unfold dwn at h2
    simp [hu] at h2
  · rw [Bool.and_eq_true] at h2
    have h3 := h2.2
    unfold upB at h3
    simp only [Bool.and_eq_true] at h3
    have h4 := h3.1.1.1.1.1.2
    have h5 := h3.2
    unfold tbB at h4
    simp only [Bool.and_eq_true] at h4
    refine ⟨h4.1.1, fun k hk => ?_⟩
    unfold othsB otA at h5
    rw [Bool.and_eq_true, decide_eq_true_iff] at h5
    have h6 := h5.2 k hk
    unfold othB at h6
    simp only [Bool.and_eq_true] at h6
    exact h6.1.2
theorem fof_tok (me : Int) (up gone gate : Bool) (inc now sq turn : Int) (tl : Nat) (F : Nat → Fc) (cl : Nat) (GI : Nat → It) (pn ps pq : Int) (pa : Bool) (dl : Nat) (GD : Nat → Dt) (cx cy ch ce : Int) (pll : Nat) (GP : Nat → Pl) (ol : Nat) (GO : Nat → Fg) (site : Int) (h : nodB me up gone gate inc now sq turn tl F cl GI pn ps pq pa dl GD cx cy ch ce pll GP ol GO = true) (hu : up = true) : gT (fof me site tl F ol GO).1 (fof me site tl F ol GO).2 2 = gsel (fof me site tl F ol GO).2 2 (fof me site tl F ol GO).1 := by
  obtain ⟨h1, h2⟩ := nod_tok me up gone gate inc now sq turn tl F cl GI pn ps pq pa dl GD cx cy ch ce pll GP ol GO h hu
  unfold gT
  split
  · rfl
  · rename_i hn
    exfalso
    apply hn
    unfold fof
    split
    · exact h1
    · unfold fot
      split
      · rfl
      · rename_i k hk
        exact h2 k (nfd_at hk).1
theorem fof_len {me site : Int} {tl : Nat} {F : Nat → Fc} {ol : Nat} {GO : Nat → Fg} (h1 : tl ≤ 1048576) (h2 : ∀ k, k < ol → (GO k).bl ≤ 1048576) : (fof me site tl F ol GO).1 ≤ 1048576 := by
  unfold fof
  split
  · exact h1
  · unfold fot
    split
    · exact Nat.zero_le _
    · rename_i k hk
      exact h2 k (nfd_at hk).1
def FoR (e : Ending) (w' : World) (p : Nat × (Nat → Fc)) : Prop := ∃ a cap, e = .returned (.slice a p.1 cap) ∧ FSl w' a p.1 p.2
set_option maxRecDepth 20000 in
set_option maxHeartbeats 4000000 in
theorem factsOf_any (me : Int) (up gone gate : Bool) (inc now sq turn : Int) (ta : Option Addr) (tl tc : Nat) (ca : Option Addr) (cl cc : Nat) (pn ps pq : Int) (pa : Bool) (da : Option Addr) (dl dc : Nat) (cx cy ch ce : Int) (pla : Option Addr) (pll plc : Nat) (oa : Option Addr) (ol oc : Nat) (F : Nat → Fc) (GI : Nat → It) (GD : Nat → Dt) (GP : Nat → Pl) (GO : Nat → Fg) (site : Int) (w : World) (h : NdIn w ta tl F ca cl GI da dl GD pla pll GP oa ol GO) :
    Calls Tryz.prog 75 #[.agg #[.int .i64 me, .bool up, .bool gone, .bool gate, .int .i64 inc, .int .i64 now, .int .i64 sq, .int .i64 turn, .slice ta tl tc, .slice ca cl cc, .int .i64 pn, .int .i64 ps, .int .i64 pq, .bool pa, .slice da dl dc, .int .i64 cx, .int .i64 cy, .int .i64 ch, .int .i64 ce, .slice pla pll plc, .slice oa ol oc], .int .i64 site] w fun e w' => FoR e w' (fof me site tl F ol GO) ∧ Below w.heap.size w w' := by
  have b0 := balloc (.cells #[.int .i64 me, .bool up, .bool gone, .bool gate, .int .i64 inc, .int .i64 now, .int .i64 sq, .int .i64 turn, .slice ta tl tc, .slice ca cl cc, .int .i64 pn, .int .i64 ps, .int .i64 pq, .bool pa, .slice da dl dc, .int .i64 cx, .int .i64 cy, .int .i64 ch, .int .i64 ce, .slice pla pll plc, .slice oa ol oc] 43) (Below.refl w.heap.size w)
  have X := Ws.box (w := w) #[.int .i64 me, .bool up, .bool gone, .bool gate, .int .i64 inc, .int .i64 now, .int .i64 sq, .int .i64 turn, .slice ta tl tc, .slice ca cl cc, .int .i64 pn, .int .i64 ps, .int .i64 pq, .bool pa, .slice da dl dc, .int .i64 cx, .int .i64 cy, .int .i64 ch, .int .i64 ce, .slice pla pll plc, .slice oa ol oc] 43
  go_enter Tryz.func75, Tryz.ntmps75
  go_upto_region 1 with fail
  generalize w.alloc (.cells #[.int .i64 me, .bool up, .bool gone, .bool gate, .int .i64 inc, .int .i64 now, .int .i64 sq, .int .i64 turn, .slice ta tl tc, .slice ca cl cc, .int .i64 pn, .int .i64 ps, .int .i64 pq, .bool pa, .slice da dl dc, .int .i64 cx, .int .i64 cy, .int .i64 ch, .int .i64 ce, .slice pla pll plc, .slice oa ol oc] 43) = u at *
  have h0 := h.below b0
  have r0 : u.rangeAt w.heap.size 0 [.int .i64 me, .bool up, .bool gone, .bool gate, .int .i64 inc, .int .i64 now, .int .i64 sq, .int .i64 turn, .slice ta tl tc, .slice ca cl cc, .int .i64 pn, .int .i64 ps, .int .i64 pq, .bool pa, .slice da dl dc, .int .i64 cx, .int .i64 cy, .int .i64 ch, .int .i64 ce, .slice pla pll plc, .slice oa ol oc] := X.range
  clear h
  obtain ⟨sm, hsm⟩ : ∃ sm, Hid (ste me = sm) := ⟨_, rfl⟩
  by_cases e0 : site = sm
  · have y0 : Hid (site = sm) := e0
    have hp : Hid (fof me site tl F ol GO = (tl, F)) := by rw [Hid, fof, if_pos (by rw [hsm.out]; exact e0)]
    clear e0
    refine wp_region_q0 s75_1 t75_1 (fun hbq => ?_)
    refine qY ?_
    refine qR ?_
    refine qC (fun K hK => ?_)
    go_simp
    refine (site_any me up gone gate inc now sq turn ta tl tc ca cl cc pn ps pq pa da dl dc cx cy ch ce pla pll plc oa ol oc _).mono ?_; rintro r w5 ⟨rfl, k5⟩; rw [hsm.out]
    go_wp2_with fail
    refine hK.out _ _ (btrans hbq k5) (.inl ?_)
    clear hK K
    replace hbq := btrans hbq k5
    clear k5
    try simp only [putQ]
    refine qV (.bool true) ?_ (by (intro w; go_simp; all_goals (first | with_reducible rfl | (simp [y0.out]; done) | assumption | (simp; done) | (simp; omega))))
    refine qE ?_
    have d8 := (X.below hbq).c 8 (.slice ta tl tc) rfl
    clear r0 X
    go_wp2
    try simp only [Exit.inBlock, Exit.then]
    exact bodyPost_ret (v := .slice ta tl tc) (by simp [results, Tryz.results75, go_sem]) rfl ⟨⟨ta, tc, by rw [hp.out], by rw [hp.out]; exact h0.f.below hbq⟩, btrans b0 hbq⟩
  · have z0 : (site == sm) = false := by simpa using e0
    have hp : Hid (fof me site tl F ol GO = fot site ol GO) := by rw [Hid, fof, if_neg (by rw [hsm.out]; exact e0)]
    refine wp_region_q0 s75_1 t75_1 (fun hbq => ?_)
    refine qY ?_
    refine qR ?_
    refine qC (fun K hK => ?_)
    go_simp
    refine (site_any me up gone gate inc now sq turn ta tl tc ca cl cc pn ps pq pa da dl dc cx cy ch ce pla pll plc oa ol oc _).mono ?_; rintro r w5 ⟨rfl, k5⟩; rw [hsm.out]
    go_wp2_with fail
    refine hK.out _ _ (btrans hbq k5) (.inl ?_)
    clear hK K
    replace hbq := btrans hbq k5
    clear k5
    try simp only [putQ]
    refine qV (.bool false) ?_ (by (intro w; go_simp; all_goals (first | with_reducible rfl | (simp [e0]; done) | assumption | (simp; done) | (simp; omega))))
    refine qE ?_
    have b1 := btrans b0 hbq
    have h1 := h0.below hbq
    have d20 := (X.below hbq).c 20 (.slice oa ol oc) rfl
    clear r0 X b0 h0 hbq z0 e0 hsm
    go_wp2_with fail
    refine (Fgfind_any oa ol oc GO site _ h1.o h1.ho).mono ?_
    rintro r w2 ⟨hF, k2⟩
    have b2 := btrans b1 k2
    have h2 := h1.below k2
    clear b1 h1 k2 d20
    rcases hF with ⟨ef, rfl⟩ | ⟨k, ef, hk, hn, rfl⟩
    · have hp2 : Hid (fof me site tl F ol GO = (0, fun _ => Fc.zero)) := by rw [Hid, hp.out, fot, ef]
      clear ef hp
      have b3 := balloc (.cells #[.int .i64 0, .slice none 0 0] 97) b2
      go_wp2
      try simp only [Exit.inBlock, Exit.then]
      exact bodyPost_ret (v := .slice none 0 0) (by simp [results, Tryz.results75, go_sem]) rfl ⟨⟨none, 0, by rw [hp2.out], by rw [hp2.out]; exact fun h => by simp at h⟩, b3⟩
    · have hp2 : Hid (fof me site tl F ol GO = ((GO k).bl, (GO k).bf)) := by rw [Hid, hp.out, fot, ef]
      have hS := (h2.ob k hk).1
      clear ef hn hp
      generalize GO k = x at *
      obtain ⟨n, ba, bl, bc, bf⟩ := x
      dsimp only at hp2 hS ⊢
      have kk := balloc (.cells #[.int .i64 n, .slice ba bl bc] 97) (Below.refl w2.heap.size w2)
      have b3 := btrans b2 kk
      have hS2 := hS.below kk
      go_wp2
      try simp only [Exit.inBlock, Exit.then]
      exact bodyPost_ret (v := .slice ba bl bc) (by simp [results, Tryz.results75, go_sem]) rfl ⟨⟨ba, bc, by rw [hp2.out], by rw [hp2.out]; exact hS2⟩, b3⟩
theorem nodeOk11_litG (me : Int) (up gone gate : Bool) (inc now sq turn : Int) (ta : Option Addr) (tl tc : Nat) (ca : Option Addr) (cl cc : Nat) (pn ps pq : Int) (pa : Bool) (da : Option Addr) (dl dc : Nat) (cx cy ch ce : Int) (pla : Option Addr) (pll plc : Nat) (oa : Option Addr) (ol oc : Nat) (F : Nat → Fc) (GI : Nat → It) (GD : Nat → Dt) (GP : Nat → Pl) (GO : Nat → Fg) (b : Bool) (hb : nodB me up gone gate inc now sq turn tl F cl GI pn ps pq pa dl GD cx cy ch ce pll GP ol GO = b) (w : World) (h : NdIn w ta tl F ca cl GI da dl GD pla pll GP oa ol GO) :
    Calls Tryz.prog 11 #[.agg #[.int .i64 me, .bool up, .bool gone, .bool gate, .int .i64 inc, .int .i64 now, .int .i64 sq, .int .i64 turn, .slice ta tl tc, .slice ca cl cc, .int .i64 pn, .int .i64 ps, .int .i64 pq, .bool pa, .slice da dl dc, .int .i64 cx, .int .i64 cy, .int .i64 ch, .int .i64 ce, .slice pla pll plc, .slice oa ol oc]] w fun r w' => r = .returned (.bool b) ∧ Below w.heap.size w w' := hb ▸ nodeOk11_any me up gone gate inc now sq turn ta tl tc ca cl cc pn ps pq pa da dl dc cx cy ch ce pla pll plc oa ol oc F GI GD GP GO w h
theorem nodeOk9_litG (me : Int) (up gone gate : Bool) (inc now sq turn : Int) (ta : Option Addr) (tl tc : Nat) (ca : Option Addr) (cl cc : Nat) (pn ps pq : Int) (pa : Bool) (da : Option Addr) (dl dc : Nat) (cx cy ch ce : Int) (pla : Option Addr) (pll plc : Nat) (oa : Option Addr) (ol oc : Nat) (F : Nat → Fc) (GI : Nat → It) (GD : Nat → Dt) (GP : Nat → Pl) (GO : Nat → Fg) (b : Bool) (hb : snodB me up gone gate inc now sq turn tl F cl GI pn ps pq pa dl GD cx cy ch ce pll GP ol GO = b) (w : World) (h : NdIn w ta tl F ca cl GI da dl GD pla pll GP oa ol GO) :
    Calls Tryz.prog 9 #[.agg #[.int .i64 me, .bool up, .bool gone, .bool gate, .int .i64 inc, .int .i64 now, .int .i64 sq, .int .i64 turn, .slice ta tl tc, .slice ca cl cc, .int .i64 pn, .int .i64 ps, .int .i64 pq, .bool pa, .slice da dl dc, .int .i64 cx, .int .i64 cy, .int .i64 ch, .int .i64 ce, .slice pla pll plc, .slice oa ol oc]] w fun r w' => r = .returned (.bool b) ∧ Below w.heap.size w w' := hb ▸ nodeOk9_any me up gone gate inc now sq turn ta tl tc ca cl cc pn ps pq pa da dl dc cx cy ch ce pla pll plc oa ol oc F GI GD GP GO w h
def GaR (e : Ending) (base : Nat) (w' : World) (L : List Int) : Prop := ∃ v, e = .returned v ∧ w'.ownsRow base 3 1 v L.length (lv L)
set_option maxRecDepth 20000 in
set_option maxHeartbeats 4000000 in
theorem gates21_any (me : Int) (up gone gate : Bool) (inc now sq turn : Int) (ta : Option Addr) (tl tc : Nat) (ca : Option Addr) (cl cc : Nat) (pn ps pq : Int) (pa : Bool) (da : Option Addr) (dl dc : Nat) (cx cy ch ce : Int) (pla : Option Addr) (pll plc : Nat) (oa : Option Addr) (ol oc : Nat) (F : Nat → Fc) (GI : Nat → It) (GD : Nat → Dt) (GP : Nat → Pl) (GO : Nat → Fg) (site : Int) (w : World) (h : NdIn w ta tl F ca cl GI da dl GD pla pll GP oa ol GO) :
    Calls Tryz.prog 21 #[.agg #[.int .i64 me, .bool up, .bool gone, .bool gate, .int .i64 inc, .int .i64 now, .int .i64 sq, .int .i64 turn, .slice ta tl tc, .slice ca cl cc, .int .i64 pn, .int .i64 ps, .int .i64 pq, .bool pa, .slice da dl dc, .int .i64 cx, .int .i64 cy, .int .i64 ch, .int .i64 ce, .slice pla pll plc, .slice oa ol oc], .int .i64 site] w fun e w' => GaR e w.heap.size w' (gatL (nodB me up gone gate inc now sq turn tl F cl GI pn ps pq pa dl GD cx cy ch ce pll GP ol GO) up me site tl F ol GO) ∧ Below w.heap.size w w' := by
  have b0 := balloc (.cells #[.int .i64 me, .bool up, .bool gone, .bool gate, .int .i64 inc, .int .i64 now, .int .i64 sq, .int .i64 turn, .slice ta tl tc, .slice ca cl cc, .int .i64 pn, .int .i64 ps, .int .i64 pq, .bool pa, .slice da dl dc, .int .i64 cx, .int .i64 cy, .int .i64 ch, .int .i64 ce, .slice pla pll plc, .slice oa ol oc] 43) (Below.refl w.heap.size w)
  have X := Ws.box (w := w) #[.int .i64 me, .bool up, .bool gone, .bool gate, .int .i64 inc, .int .i64 now, .int .i64 sq, .int .i64 turn, .slice ta tl tc, .slice ca cl cc, .int .i64 pn, .int .i64 ps, .int .i64 pq, .bool pa, .slice da dl dc, .int .i64 cx, .int .i64 cy, .int .i64 ch, .int .i64 ce, .slice pla pll plc, .slice oa ol oc] 43
  go_enter Tryz.func21, Tryz.ntmps21
  go_upto_region 1 with fail
  generalize w.alloc (.cells #[.int .i64 me, .bool up, .bool gone, .bool gate, .int .i64 inc, .int .i64 now, .int .i64 sq, .int .i64 turn, .slice ta tl tc, .slice ca cl cc, .int .i64 pn, .int .i64 ps, .int .i64 pq, .bool pa, .slice da dl dc, .int .i64 cx, .int .i64 cy, .int .i64 ch, .int .i64 ce, .slice pla pll plc, .slice oa ol oc] 43) = u at *
  have h0 := h.below b0
  have r0 : u.rangeAt w.heap.size 0 [.int .i64 me, .bool up, .bool gone, .bool gate, .int .i64 inc, .int .i64 now, .int .i64 sq, .int .i64 turn, .slice ta tl tc, .slice ca cl cc, .int .i64 pn, .int .i64 ps, .int .i64 pq, .bool pa, .slice da dl dc, .int .i64 cx, .int .i64 cy, .int .i64 ch, .int .i64 ce, .slice pla pll plc, .slice oa ol oc] := X.range
  have d1 := X.c 1 (.bool up) rfl
  clear h
  cases zb0 : nodB me up gone gate inc now sq turn tl F cl GI pn ps pq pa dl GD cx cy ch ce pll GP ol GO
  · have yb0 : Hid (nodB me up gone gate inc now sq turn tl F cl GI pn ps pq pa dl GD cx cy ch ce pll GP ol GO = false) := zb0
    clear zb0
    refine wp_region_q0 s21_1 t21_1 (fun hbq => ?_)
    refine qR ?_
    refine qC (fun K hK => ?_)
    go_simp
    refine (nodeOk11_litG me up gone gate inc now sq turn ta tl tc ca cl cc pn ps pq pa da dl dc cx cy ch ce pla pll plc oa ol oc F GI GD GP GO false yb0.out _ (h0.below hbq)).mono ?_; rintro r w5 ⟨rfl, k5⟩
    go_wp2_with fail
    refine hK.out _ _ (btrans hbq k5) (.inl ?_)
    clear hK K
    replace hbq := btrans hbq k5
    clear k5
    try simp only [putQ]
    iterate 2 refine qY ?_
    iterate 3 refine qN ?_
    refine qY ?_
    refine qE ?_
    go_wp2
    try simp only [Exit.inBlock, Exit.then]
    exact bodyPost_ret (v := .slice none 0 0) (by simp [results, Tryz.results21, go_sem]) rfl ⟨⟨_, rfl, by rw [gatL, yb0.out]; exact World.ownsRow_nil _ _ _ _⟩, btrans b0 hbq⟩
  · have yb0 : Hid (nodB me up gone gate inc now sq turn tl F cl GI pn ps pq pa dl GD cx cy ch ce pll GP ol GO = true) := zb0
    clear zb0
    cases up
    · skip
      refine wp_region_q0 s21_1 t21_1 (fun hbq => ?_)
      refine qR ?_
      refine qC (fun K hK => ?_)
      go_simp
      refine (nodeOk11_litG me false gone gate inc now sq turn ta tl tc ca cl cc pn ps pq pa da dl dc cx cy ch ce pla pll plc oa ol oc F GI GD GP GO true yb0.out _ (h0.below hbq)).mono ?_; rintro r w5 ⟨rfl, k5⟩
      go_wp2_with fail
      refine hK.out _ _ (btrans hbq k5) (.inl ?_)
      clear hK K
      replace hbq := btrans hbq k5
      clear k5
      try simp only [putQ]
      iterate 3 refine qY ?_
      refine qL ?_
      iterate 2 refine qY ?_
      refine qE ?_
      go_wp2
      try simp only [Exit.inBlock, Exit.then]
      exact bodyPost_ret (v := .slice none 0 0) (by simp [results, Tryz.results21, go_sem]) rfl ⟨⟨_, rfl, by rw [gatL, yb0.out]; exact World.ownsRow_nil _ _ _ _⟩, btrans b0 hbq⟩
    · skip
      refine wp_region_q0 s21_1 t21_1 (fun hbq => ?_)
      refine qR ?_
      refine qC (fun K hK => ?_)
      go_simp
      refine (nodeOk11_litG me true gone gate inc now sq turn ta tl tc ca cl cc pn ps pq pa da dl dc cx cy ch ce pla pll plc oa ol oc F GI GD GP GO true yb0.out _ (h0.below hbq)).mono ?_; rintro r w5 ⟨rfl, k5⟩
      go_wp2_with fail
      refine hK.out _ _ (btrans hbq k5) (.inl ?_)
      clear hK K
      replace hbq := btrans hbq k5
      clear k5
      try simp only [putQ]
      iterate 3 refine qY ?_
      refine qL ?_
      iterate 2 refine qY ?_
      refine qE ?_
      have b1 := btrans b0 hbq
      have h1 := h0.below hbq
      have rN := range_keep r0 hbq
      have htk := fof_tok me true gone gate inc now sq turn tl F cl GI pn ps pq pa dl GD cx cy ch ce pll GP ol GO site yb0.out rfl
      have hln := fof_len (me := me) (site := site) (F := F) h0.hf (fun k hk => (h0.ob k hk).2)
      have hg : Hid (gatL (nodB me true gone gate inc now sq turn tl F cl GI pn ps pq pa dl GD cx cy ch ce pll GP ol GO) true me site tl F ol GO = gsel (fof me site tl F ol GO).2 2 (fof me site tl F ol GO).1) := by rw [Hid, gatL, yb0.out]; rfl
      obtain ⟨p, hfp⟩ : ∃ p, Hid (fof me site tl F ol GO = p) := ⟨_, rfl⟩
      rw [hfp.out] at htk hln hg
      obtain ⟨pl, pF⟩ := p
      dsimp only at htk hln hg
      clear hbq h0 b0 r0 X d1
      go_upto_region 3 with fail
      refine wp_region_q0 s21_3 t21_3 (fun hbq => ?_)
      refine qR ?_
      refine qY ?_
      refine qC (fun K hK => ?_)
      go_simp
      refine (factsOf_any me true gone gate inc now sq turn ta tl tc ca cl cc pn ps pq pa da dl dc cx cy ch ce pla pll plc oa ol oc F GI GD GP GO site _ (h1.below hbq)).mono ?_; rintro r w6 ⟨hfo, k6⟩; rw [hfp.out] at hfo; obtain ⟨fa, fc, rfl, hfS⟩ := hfo; dsimp only at hfS ⊢
      go_wp2_with fail
      refine hK.out _ _ (btrans hbq k6) (.inl ?_)
      clear hK K
      replace hbq := btrans hbq k6
      clear k6
      try simp only [putQ]
      refine qC (fun K hK => ?_)
      go_simp
      refine (gates_any fa pl fc pF 2 _ hfS hln).mono ?_; rintro r w7 ⟨v7, rfl, o7, k7⟩; have hB7 := btrans hbq k7; have hsz := hbq.size
      go_wp2_with fail
      refine hK.out _ _ (btrans hbq k7) (.inl ?_)
      clear hK K
      replace hbq := btrans hbq k7
      clear k7
      try simp only [putQ]
      refine qY ?_
      refine qE ?_
      go_wp2
      try simp only [Exit.inBlock, Exit.then]
      exact bodyPost_ret (v := v7) (by simp [results, Tryz.results21, go_sem]) rfl ⟨⟨v7, rfl, by rw [hg.out, ← htk]; exact own_mono (Nat.le_trans b1.size hsz) o7⟩, btrans b1 hbq⟩
set_option maxRecDepth 20000 in
set_option maxHeartbeats 4000000 in
theorem gates20_any (me : Int) (up gone gate : Bool) (inc now sq turn : Int) (ta : Option Addr) (tl tc : Nat) (ca : Option Addr) (cl cc : Nat) (pn ps pq : Int) (pa : Bool) (da : Option Addr) (dl dc : Nat) (cx cy ch ce : Int) (pla : Option Addr) (pll plc : Nat) (oa : Option Addr) (ol oc : Nat) (F : Nat → Fc) (GI : Nat → It) (GD : Nat → Dt) (GP : Nat → Pl) (GO : Nat → Fg) (site : Int) (w : World) (h : NdIn w ta tl F ca cl GI da dl GD pla pll GP oa ol GO) :
    Calls Tryz.prog 20 #[.agg #[.int .i64 me, .bool up, .bool gone, .bool gate, .int .i64 inc, .int .i64 now, .int .i64 sq, .int .i64 turn, .slice ta tl tc, .slice ca cl cc, .int .i64 pn, .int .i64 ps, .int .i64 pq, .bool pa, .slice da dl dc, .int .i64 cx, .int .i64 cy, .int .i64 ch, .int .i64 ce, .slice pla pll plc, .slice oa ol oc], .int .i64 site] w fun e w' => GaR e w.heap.size w' (gatL (snodB me up gone gate inc now sq turn tl F cl GI pn ps pq pa dl GD cx cy ch ce pll GP ol GO) up me site tl F ol GO) ∧ Below w.heap.size w w' := by
  have b0 := balloc (.cells #[.int .i64 me, .bool up, .bool gone, .bool gate, .int .i64 inc, .int .i64 now, .int .i64 sq, .int .i64 turn, .slice ta tl tc, .slice ca cl cc, .int .i64 pn, .int .i64 ps, .int .i64 pq, .bool pa, .slice da dl dc, .int .i64 cx, .int .i64 cy, .int .i64 ch, .int .i64 ce, .slice pla pll plc, .slice oa ol oc] 43) (Below.refl w.heap.size w)
  have X := Ws.box (w := w) #[.int .i64 me, .bool up, .bool gone, .bool gate, .int .i64 inc, .int .i64 now, .int .i64 sq, .int .i64 turn, .slice ta tl tc, .slice ca cl cc, .int .i64 pn, .int .i64 ps, .int .i64 pq, .bool pa, .slice da dl dc, .int .i64 cx, .int .i64 cy, .int .i64 ch, .int .i64 ce, .slice pla pll plc, .slice oa ol oc] 43
  go_enter Tryz.func20, Tryz.ntmps20
  go_upto_region 1 with fail
  generalize w.alloc (.cells #[.int .i64 me, .bool up, .bool gone, .bool gate, .int .i64 inc, .int .i64 now, .int .i64 sq, .int .i64 turn, .slice ta tl tc, .slice ca cl cc, .int .i64 pn, .int .i64 ps, .int .i64 pq, .bool pa, .slice da dl dc, .int .i64 cx, .int .i64 cy, .int .i64 ch, .int .i64 ce, .slice pla pll plc, .slice oa ol oc] 43) = u at *
  have h0 := h.below b0
  have r0 : u.rangeAt w.heap.size 0 [.int .i64 me, .bool up, .bool gone, .bool gate, .int .i64 inc, .int .i64 now, .int .i64 sq, .int .i64 turn, .slice ta tl tc, .slice ca cl cc, .int .i64 pn, .int .i64 ps, .int .i64 pq, .bool pa, .slice da dl dc, .int .i64 cx, .int .i64 cy, .int .i64 ch, .int .i64 ce, .slice pla pll plc, .slice oa ol oc] := X.range
  have d1 := X.c 1 (.bool up) rfl
  clear h
  cases zb0 : snodB me up gone gate inc now sq turn tl F cl GI pn ps pq pa dl GD cx cy ch ce pll GP ol GO
  · have yb0 : Hid (snodB me up gone gate inc now sq turn tl F cl GI pn ps pq pa dl GD cx cy ch ce pll GP ol GO = false) := zb0
    clear zb0
    refine wp_region_q0 s20_1 t20_1 (fun hbq => ?_)
    refine qR ?_
    refine qC (fun K hK => ?_)
    go_simp
    refine (nodeOk9_litG me up gone gate inc now sq turn ta tl tc ca cl cc pn ps pq pa da dl dc cx cy ch ce pla pll plc oa ol oc F GI GD GP GO false yb0.out _ (h0.below hbq)).mono ?_; rintro r w5 ⟨rfl, k5⟩
    go_wp2_with fail
    refine hK.out _ _ (btrans hbq k5) (.inl ?_)
    clear hK K
    replace hbq := btrans hbq k5
    clear k5
    try simp only [putQ]
    iterate 2 refine qY ?_
    iterate 3 refine qN ?_
    refine qY ?_
    refine qE ?_
    go_wp2
    try simp only [Exit.inBlock, Exit.then]
    exact bodyPost_ret (v := .slice (some ⟨w5.heap.size, 0, none⟩) 0 0) (by simp [results, Tryz.results20, go_sem]) rfl ⟨⟨_, rfl, by rw [gatL, yb0.out]; exact World.ownsRow_lit w5 #[] 0 (btrans b0 hbq).size (by unfold maxLen; omega) rfl⟩, balloc _ (btrans b0 hbq)⟩
  · have yb0 : Hid (snodB me up gone gate inc now sq turn tl F cl GI pn ps pq pa dl GD cx cy ch ce pll GP ol GO = true) := zb0
    clear zb0
    cases up
    · skip
      refine wp_region_q0 s20_1 t20_1 (fun hbq => ?_)
      refine qR ?_
      refine qC (fun K hK => ?_)
      go_simp
      refine (nodeOk9_litG me false gone gate inc now sq turn ta tl tc ca cl cc pn ps pq pa da dl dc cx cy ch ce pla pll plc oa ol oc F GI GD GP GO true yb0.out _ (h0.below hbq)).mono ?_; rintro r w5 ⟨rfl, k5⟩
      go_wp2_with fail
      refine hK.out _ _ (btrans hbq k5) (.inl ?_)
      clear hK K
      replace hbq := btrans hbq k5
      clear k5
      try simp only [putQ]
      iterate 3 refine qY ?_
      refine qL ?_
      iterate 2 refine qY ?_
      refine qE ?_
      go_wp2
      try simp only [Exit.inBlock, Exit.then]
      exact bodyPost_ret (v := .slice (some ⟨w5.heap.size, 0, none⟩) 0 0) (by simp [results, Tryz.results20, go_sem]) rfl ⟨⟨_, rfl, by rw [gatL, yb0.out]; exact World.ownsRow_lit w5 #[] 0 (btrans b0 hbq).size (by unfold maxLen; omega) rfl⟩, balloc _ (btrans b0 hbq)⟩
    · skip
      refine wp_region_q0 s20_1 t20_1 (fun hbq => ?_)
      refine qR ?_
      refine qC (fun K hK => ?_)
      go_simp
      refine (nodeOk9_litG me true gone gate inc now sq turn ta tl tc ca cl cc pn ps pq pa da dl dc cx cy ch ce pla pll plc oa ol oc F GI GD GP GO true yb0.out _ (h0.below hbq)).mono ?_; rintro r w5 ⟨rfl, k5⟩
      go_wp2_with fail
      refine hK.out _ _ (btrans hbq k5) (.inl ?_)
      clear hK K
      replace hbq := btrans hbq k5
      clear k5
      try simp only [putQ]
      iterate 3 refine qY ?_
      refine qL ?_
      iterate 2 refine qY ?_
      refine qE ?_
      have b1 := btrans b0 hbq
      have h1 := h0.below hbq
      have d0 := (X.below hbq).c 0 (.int .i64 me) rfl
      have d8 := (X.below hbq).c 8 (.slice ta tl tc) rfl
      have d20 := (X.below hbq).c 20 (.slice oa ol oc) rfl
      have hg : Hid (gatL (snodB me true gone gate inc now sq turn tl F cl GI pn ps pq pa dl GD cx cy ch ce pll GP ol GO) true me site tl F ol GO = gsel (fof me site tl F ol GO).2 2 (fof me site tl F ol GO).1) := by rw [Hid, gatL, yb0.out]; rfl
      clear hbq h0 b0 r0 X d1
      obtain ⟨sm, hsm⟩ : ∃ sm, Hid (ste me = sm) := ⟨_, rfl⟩
      go_wp2_with fail
      refine (lsite_any me _).mono ?_
      rintro r w6 ⟨rfl, hw⟩
      obtain rfl := hw.symm
      clear hw
      rw [hsm.out]
      by_cases e0 : site = sm
      · have hg2 : Hid (gatL (snodB me true gone gate inc now sq turn tl F cl GI pn ps pq pa dl GD cx cy ch ce pll GP ol GO) true me site tl F ol GO = gsel F 2 tl) := by rw [Hid, hg.out, fof, if_pos (by rw [hsm.out]; exact e0)]
        have z0 : (site == sm) = true := by simpa using e0
        clear e0 hg
        go_wp2_with fail
        refine (l3gates_any ta tl tc F 2 _ h1.f h1.hf).mono ?_
        rintro r w7 ⟨v7, rfl, o7, k7⟩
        clear d0 d8 d20
        go_wp2
        try simp only [Exit.inBlock, Exit.then]
        exact bodyPost_ret (v := v7) (by simp [results, Tryz.results20, go_sem]) rfl ⟨⟨v7, rfl, by rw [hg2.out]; exact own_mono b1.size o7⟩, btrans b1 k7⟩
      · have hg2 : Hid (gatL (snodB me true gone gate inc now sq turn tl F cl GI pn ps pq pa dl GD cx cy ch ce pll GP ol GO) true me site tl F ol GO = gsel (fot site ol GO).2 2 (fot site ol GO).1) := by rw [Hid, hg.out, fof, if_neg (by rw [hsm.out]; exact e0)]
        have z0 : (site == sm) = false := by simpa using e0
        clear hg hsm d0 d8
        have hd := h1.o
        have hob := h1.ob
        have hol := h1.ho
        clear h1
        go_wp2
        clear z0 e0
        go_loopw [5] (fun i wr => ∃ k : Nat, k ≤ ol ∧ i = .int .i64 k ∧ Below w5.heap.size w5 wr ∧ (∀ j, j < k → (GO j).n ≠ site)) (fun i _ => ol - (intOf i).toNat)
        case atStart => exact ⟨0, by omega, rfl, Below.refl _ _, fun j h1 => by omega⟩
        case round =>
          obtain ⟨k, hk, rfl, hb, hall⟩ := hrel
          have f20 := keep_below hb d20
          by_cases hlt : k < ol
          · obtain ⟨b, off, rfl, hbl, hf⟩ := hd (by omega)
            obtain ⟨c0, c1⟩ := (hf.below hb hbl) k hlt
            have hS := (hob k hlt).1.below hb
            have hSl := (hob k hlt).2
            have i0 : (0 : Int) ≤ (k : Int) := by omega
            have i1 : (k : Int) < (ol : Int) := by omega
            have hyes : Hid ((GO k).n ≠ site → ∀ j, j < k + 1 → (GO j).n ≠ site) := fun e j hj => by
              by_cases ej : j = k
              · subst ej; exact e
              · exact hall j (by omega)
            have hit : Hid ((GO k).n = site → gatL (snodB me true gone gate inc now sq turn tl F cl GI pn ps pq pa dl GD cx cy ch ce pll GP ol GO) true me site tl F ol GO = gsel (GO k).bf 2 (GO k).bl) := fun e => by
              rw [hg2.out, fot, nfd_some hall hlt e]
            clear hall
            generalize GO k = x at *
            obtain ⟨n, ba, bl, bc, bf⟩ := x
            dsimp only at c0 c1 hS hSl hyes hit
            by_cases e : n = site
            · have e' := hit.out e
              have e1 : (n == site) = true := by simpa using e
              have e'' : Hid (gatL (snodB me true gone gate inc now sq turn tl F cl GI pn ps pq pa dl GD cx cy ch ce pll GP ol GO) true me site tl F ol GO = gsel bf 2 bl) := e'
              clear hit hyes hg2 e' e
              go_wp2_with fail
              refine (l3gates_any ba bl bc bf 2 _ hS hSl).mono ?_
              rintro r w7 ⟨v7, rfl, o7, k7⟩
              clear c0 c1 f20 e1
              go_wp2
              try simp only [Exit.inBlock, Exit.then]
              exact bodyPost_ret (v := v7) (by simp [results, Tryz.results20, go_sem]) rfl ⟨⟨v7, rfl, by rw [e''.out]; exact own_mono (Nat.le_trans b1.size hb.size) o7⟩, btrans b1 (btrans hb k7)⟩
            · have e1 : (n == site) = false := by simpa using e
              have e2 := hyes.out e
              clear hyes hit c1
              go_wp2
              go_roundw
              case rel => exact ⟨k + 1, by omega, by go_num, hb, e2⟩
              case measure => simp [intOf]; omega
          · have hn : Hid (gatL (snodB me true gone gate inc now sq turn tl F cl GI pn ps pq pa dl GD cx cy ch ce pll GP ol GO) true me site tl F ol GO = []) := by
              rw [Hid, hg2.out, fot, nfd_none fun j hj => hall j (by omega)]; rfl
            clear hall hg2
            go_wp2
            try simp only [Exit.inBlock, Exit.then]
            exact bodyPost_ret (v := .slice (some ⟨wr.heap.size, 0, none⟩) 0 0) (by simp [results, Tryz.results20, go_sem]) rfl ⟨⟨_, rfl, by rw [hn.out]; exact World.ownsRow_lit wr #[] 0 (btrans b1 hb).size (by unfold maxLen; omega) rfl⟩, balloc _ (btrans b1 hb)⟩
end Go.Proofs.YtnplhfgdbabmaaaGreat
/- Nodes: at every node NodeGates answers as its model does, and its answer is its own. -/
namespace Go.Proofs.YtnplhfgdbabmaaaGreat
open Go.ChangeShapes Go.WideShapes Go.ChangeAt Go.RowKit
attribute [local go_sem ↓] Go.wp_at_zero Go.wp_at_succ
def s6_5 : List Stp := [⟨some 18, .load 32 (.tmp 2), 32, none, 0⟩, ⟨some 19, .call { callee := .value (.func 10), args := #[.tmp 18], argTypes := #[32] }, 43, none, 1⟩, ⟨some 20, .move (.tmp 1), 3, none, 0⟩, ⟨some 21, .call { callee := .value (.func 20), args := #[.tmp 19, .tmp 20], argTypes := #[43, 3] }, 59, none, 1⟩, ⟨some 6, .assign (.tmp 21), 59, none, 0⟩]
def t6_5 : List (Nat × Nat) := [(0, 0), (1, 1), (2, 0), (3, 1), (4, 0)]
def s6_7 : List Stp := [⟨some 24, .load 43 (.tmp 7), 43, none, 0⟩, ⟨some 25, .move (.tmp 1), 3, none, 0⟩, ⟨some 26, .call { callee := .value (.func 21), args := #[.tmp 24, .tmp 25], argTypes := #[43, 3] }, 59, none, 1⟩, ⟨some 8, .assign (.tmp 26), 59, none, 0⟩]
def t6_7 : List (Nat × Nat) := [(0, 0), (1, 0), (2, 1), (3, 0)]
def s6_10 : List Stp := [⟨some 31, .load 43 (.tmp 7), 43, none, 0⟩, ⟨some 32, .load 32 (.tmp 2), 32, none, 0⟩, ⟨some 33, .call { callee := .value (.func 10), args := #[.tmp 32], argTypes := #[32] }, 43, none, 1⟩, ⟨some 34, .call { callee := .value (.func 12), args := #[.tmp 31, .tmp 33], argTypes := #[43, 43] }, 4, none, 1⟩, ⟨some 35, .unOp .not 4 (.tmp 34), 4, none, 0⟩]
def t6_10 : List (Nat × Nat) := [(0, 0), (1, 0), (2, 1), (3, 1), (4, 0)]
def s6_24 : List Stp := [⟨some 58, .load 32 (.tmp 2), 32, none, 0⟩, ⟨some 59, .call { callee := .value (.func 10), args := #[.tmp 58], argTypes := #[32] }, 43, none, 1⟩, ⟨some 60, .move (.tmp 1), 3, none, 0⟩, ⟨some 61, .call { callee := .value (.func 21), args := #[.tmp 59, .tmp 60], argTypes := #[43, 3] }, 59, none, 1⟩, ⟨some 12, .assign (.tmp 61), 59, none, 0⟩]
def t6_24 : List (Nat × Nat) := [(0, 0), (1, 1), (2, 0), (3, 1), (4, 0)]
theorem fot_congr {G G' : Nat → Fg} (h : ∀ j, FgEq (G j) (G' j)) (site : Int) (ol : Nat) : fot site ol G = fot site ol G' := by
  have e0 : (fun k => (G k).n) = fun k => (G' k).n := funext fun k => (h k).1
  unfold fot
  rw [e0]
  cases nfd ol (fun k => (G' k).n) site with
  | none => rfl
  | some k =>
    obtain ⟨_, h1, h2⟩ := h k
    simp only [h1, h2]
theorem gat_congr {G G' : Nat → Fg} (h : ∀ j, FgEq (G j) (G' j)) (q up : Bool) (me site : Int) (tl : Nat) (F : Nat → Fc) (ol : Nat) : gatL q up me site tl F ol G = gatL q up me site tl F ol G' := by
  unfold gatL fof
  rw [fot_congr h]
theorem gat_le {q up : Bool} {me site : Int} {tl : Nat} {F : Nat → Fc} {ol : Nat} {GO : Nat → Fg} (h1 : tl ≤ 1048576) (h2 : ∀ k, k < ol → (GO k).bl ≤ 1048576) : (gatL q up me site tl F ol GO).length ≤ 1048576 := by
  unfold gatL
  split
  · exact Nat.le_trans (gsel_le _ _ _) (fof_len h1 h2)
  · exact Nat.zero_le _
theorem markInts_own (base n cap : Nat) (a : Option Addr) (xs : List Value) (k0 : Nat) (w : World) (h : w.ownsRow base 3 1 (.slice a n cap) n xs) (hl : n ≤ 1048576) (hk0 : k0 ≤ 1048576) :
    Calls Tryz.prog 24 #[.slice a n cap, .int .i64 (k0 : Int)] w fun e w' => e = .returned (.int .i64 ((k0 + n : Nat) : Int)) ∧ w'.ownsRow base 3 1 (.slice a n cap) n (mk k0 n) ∧ w.grownBy w' (Value.slice a n cap).ownBlock := by
  rcases own_shape h with ⟨e, rfl⟩ | ⟨g, c, e, _⟩
  · simp only [Value.slice.injEq, true_and] at e
    obtain ⟨rfl, rfl⟩ := e
    exact (markInts_nil k0 w).mono (by rintro r w' ⟨rfl, rfl⟩; exact ⟨rfl, by simpa [mk] using World.ownsRow_nil w' base 3 1, World.grownBy.refl _ _⟩)
  · simp only [Value.slice.injEq, true_and] at e
    obtain ⟨rfl, rfl⟩ := e
    exact markInts_any base g n cap xs k0 w h hl hk0
theorem ne_two {w w' : World} {base size n : Nat} {e : TypeId} {v : Value} {xs : List Value} {base' size' n' : Nat} {e' : TypeId} {v' : Value} {xs' : List Value} (h : w.ownsRow base e size v n xs) (h' : w'.ownsRow base' e' size' v' n' xs') (hb : w.heap.size ≤ base') : v.ownBlock = none ∨ v.ownBlock ≠ v'.ownBlock := by
  cases hv : v.ownBlock with
  | none => exact .inl rfl
  | some k => exact .inr fun e => by have := (h.lt k hv).2; have := (h'.lt k e.symm).1; omega
theorem own_mrk {w w' : World} {lo hi base size n : Nat} {e : TypeId} {v : Value} {xs : List Value} (h : w.ownsRow base e size v n xs) (k : Mrk lo hi w w') (q : ∀ x, v.ownBlock = some x → x < lo ∨ hi ≤ x) : w'.ownsRow base e size v n xs := by
  have h0 := h
  refine ⟨h.1, h.2.imp id ?_⟩
  rintro ⟨g, cap, cur, rfl, hg, r⟩
  have hb : (Value.slice (some ⟨g, 0, none⟩) n cap).ownBlock = some g := rfl
  exact ⟨g, cap, cur, rfl, hg, (k.block g (h0.lt g hb).2 (q g hb)).trans r.1, r.2⟩
theorem range_lt {w : World} {b : Nat} {v : Value} {xs : List Value} (h : w.rangeAt b 0 (v :: xs)) : b < w.heap.size := by
  have hc := h 0 v rfl
  unfold World.cell? at hc
  rcases Nat.lt_or_ge b w.heap.size with q | q
  · exact q
  · exfalso
    simp [Array.getElem?_eq_none q] at hc
theorem Mrk.range {lo hi : Nat} {w w' : World} {b o : Nat} {xs : List Value} (k : Mrk lo hi w w') (h : w.rangeAt b o xs) (q : b < lo ∨ hi ≤ b) : w'.rangeAt b o xs := fun j x hx => k.cell (h j x hx) q
theorem range_grow {w w' : World} {b : Nat} {v : Value} {xs : List Value} {r : Option Nat} (h : w.rangeAt b 0 (v :: xs)) (g : w.grownBy w' r) (hr : ∀ k, r = some k → k ≠ b) : w'.rangeAt b 0 (v :: xs) := fun j x hx =>
  (World.cell?_of_block (a := ⟨b, 0 + j, none⟩) (g.block b (range_lt h) (fun e => hr b e.symm rfl))).trans (h j x hx)
set_option maxRecDepth 20000 in
set_option maxHeartbeats 8000000 in
set_option linter.unusedSimpArgs false in
theorem exNodeGates_walk (me : Int) (up gone gate : Bool) (inc now sq turn : Int) (ta : Option Addr) (tl tc : Nat) (ca : Option Addr) (cl cc : Nat) (pn ps pq : Int) (pa : Bool) (da : Option Addr) (dl dc : Nat) (cx cy ch ce : Int) (pla : Option Addr) (pll plc : Nat) (oa : Option Addr) (ol oc : Nat) (F : Nat → Fc) (GI : Nat → It) (GD : Nat → Dt) (GP : Nat → Pl) (GO : Nat → Fg) (site : Int) (w : World) (h : NdRaw w ta tl tc F ca cl cc GI da dl GD pla pll GP oa ol GO) :
    Calls Tryz.prog 6 #[.agg #[.int .i64 me, .bool up, .bool gone, .bool gate, .int .i64 inc, .int .i64 now, .int .i64 sq, .int .i64 turn, .slice ta tl tc, .slice ca cl cc, .int .i64 pn, .int .i64 ps, .int .i64 pq, .bool pa, .slice da dl dc, .int .i64 cx, .int .i64 cy, .int .i64 ch, .int .i64 ce, .slice pla pll plc, .slice oa ol oc], .int .i64 site] w fun r w' => r = .returned (.bool true) ∧ Below w.heap.size w w' := by
  have b0 := balloc (.cells #[.int .i64 me, .bool up, .bool gone, .bool gate, .int .i64 inc, .int .i64 now, .int .i64 sq, .int .i64 turn, .slice ta tl tc, .slice ca cl cc, .int .i64 pn, .int .i64 ps, .int .i64 pq, .bool pa, .slice da dl dc, .int .i64 cx, .int .i64 cy, .int .i64 ch, .int .i64 ce, .slice pla pll plc, .slice oa ol oc] 32) (Below.refl w.heap.size w)
  have X0 := Ws.box (w := w) #[.int .i64 me, .bool up, .bool gone, .bool gate, .int .i64 inc, .int .i64 now, .int .i64 sq, .int .i64 turn, .slice ta tl tc, .slice ca cl cc, .int .i64 pn, .int .i64 ps, .int .i64 pq, .bool pa, .slice da dl dc, .int .i64 cx, .int .i64 cy, .int .i64 ch, .int .i64 ce, .slice pla pll plc, .slice oa ol oc] 32
  go_enter Tryz.func6, Tryz.ntmps6
  go_upto_region 1 with fail
  generalize w.alloc (.cells #[.int .i64 me, .bool up, .bool gone, .bool gate, .int .i64 inc, .int .i64 now, .int .i64 sq, .int .i64 turn, .slice ta tl tc, .slice ca cl cc, .int .i64 pn, .int .i64 ps, .int .i64 pq, .bool pa, .slice da dl dc, .int .i64 cx, .int .i64 cy, .int .i64 ch, .int .i64 ce, .slice pla pll plc, .slice oa ol oc] 32) = u at *
  have h0 := h.below b0
  have x0 : u.rangeAt w.heap.size 0 [.int .i64 me, .bool up, .bool gone, .bool gate, .int .i64 inc, .int .i64 now, .int .i64 sq, .int .i64 turn, .slice ta tl tc, .slice ca cl cc, .int .i64 pn, .int .i64 ps, .int .i64 pq, .bool pa, .slice da dl dc, .int .i64 cx, .int .i64 cy, .int .i64 ch, .int .i64 ce, .slice pla pll plc, .slice oa ol oc] := X0.range
  clear X0
  obtain ⟨L, hL⟩ : ∃ L, Hid (gatL (nodB me up gone gate inc now sq turn tl F cl GI pn ps pq pa dl GD cx cy ch ce pll GP ol GO) up me site tl F ol GO = L) := ⟨_, rfl⟩
  go_wp2_with (refine load32L (by rfl) (.tmp 2) rfl w.heap.size rfl [.int .i64 me, .bool up, .bool gone, .bool gate, .int .i64 inc, .int .i64 now, .int .i64 sq, .int .i64 turn, .slice ta tl tc, .slice ca cl cc, .int .i64 pn, .int .i64 ps, .int .i64 pq, .bool pa, .slice da dl dc, .int .i64 cx, .int .i64 cy, .int .i64 ch, .int .i64 ce, .slice pla pll plc, .slice oa ol oc] x0 rfl ?_)
  refine (szNode_any me up gone gate inc now sq turn ta tl tc ca cl cc pn ps pq pa da dl dc cx cy ch ce pla pll plc oa ol oc F GI GD GP GO _ h0).mono ?_
  rintro r w1 ⟨⟨z, rfl, hz⟩, k1⟩
  have b1 := btrans b0 k1
  have x1 := range_keep x0 k1
  have h1 := h0.below k1
  clear b0 x0 h0 k1
  rcases hz with hz | ⟨hz, hm⟩
  · have hz' := hz
    subst hz'
    clear x1 h1
    go_wp2
    go_ret
    exact ⟨rfl, b1⟩
  obtain ⟨hz0, hz1⟩ := hz
  have hz2 : ¬ z < 0 := by omega
  have hgl : L.length ≤ 1048576 := by rw [← hL.out]; exact gat_le (h1.toIn hm).hf (fun k hk => ((h1.toIn hm).ob k hk).2)
  clear hz0 hz1
  go_upto_region 5 with fail
  clear hz2
  refine wp_region_q0 s6_5 t6_5 (fun hbq => ?_)
  refine qR ?_
  refine qC (fun K hK => ?_)
  go_simp
  refine (toNode_any me up gone gate inc now sq turn ta tl tc ca cl cc pn ps pq pa da dl dc cx cy ch ce pla pll plc oa ol oc F GI GD GP GO _ ((h1.below hbq).toIn hm) (h1.below hbq).cf (h1.below hbq).ci (fun j hj => ((h1.below hbq).db j hj).2.2) (fun j hj => ((h1.below hbq).pb j hj).2.2) (fun j hj => ((h1.below hbq).ob j hj).2.2)).mono ?_; rintro r w2 ⟨s1, s2, s3, s4, s5, sD, sP, sO, rfl, sN, sd, sp, so, k2⟩
  go_wp2_with fail
  refine hK.out _ _ (btrans hbq k2) (.inl ?_)
  clear hK K
  replace hbq := btrans hbq k2
  clear k2
  try simp only [putQ]
  refine qY ?_
  refine qC (fun K hK => ?_)
  go_simp
  refine (gates20_any me up gone gate inc now sq turn (some ⟨s1, 0, none⟩) tl tl (some ⟨s2, 0, none⟩) cl cl pn ps pq pa (some ⟨s3, 0, none⟩) dl dl cx cy ch ce (some ⟨s4, 0, none⟩) pll pll (some ⟨s5, 0, none⟩) ol ol F GI sD sP sO site _ sN).mono ?_; rintro r w3 ⟨hga, k3⟩; rw [← nod_same, nod_congr _ _ _ _ _ _ _ _ _ _ _ _ _ _ _ _ _ GD _ _ _ _ _ GP _ GO sD sP sO sd sp so, gat_congr so, hL.out] at hga; obtain ⟨v0, rfl, o0⟩ := hga
  go_wp2_with fail
  refine hK.out _ _ (btrans hbq k3) (.inl ?_)
  clear hK K
  replace hbq := btrans hbq k3
  clear k3
  try simp only [putQ]
  refine qY ?_
  refine qE ?_
  have b2 := btrans b1 hbq
  have x2 := range_keep x1 hbq
  have h2 := h1.below hbq
  clear b1 x1 h1 hbq sN sd sp so
  obtain ⟨a0, c0, rfl, _, _⟩ := own_list o0
  go_wp2_with (refine load32L (by rfl) (.tmp 2) rfl w.heap.size rfl [.int .i64 me, .bool up, .bool gone, .bool gate, .int .i64 inc, .int .i64 now, .int .i64 sq, .int .i64 turn, .slice ta tl tc, .slice ca cl cc, .int .i64 pn, .int .i64 ps, .int .i64 pq, .bool pa, .slice da dl dc, .int .i64 cx, .int .i64 cy, .int .i64 ch, .int .i64 ce, .slice pla pll plc, .slice oa ol oc] x2 rfl ?_)
  refine (toNodeM_any me up gone gate inc now sq turn ta tl tc ca cl cc pn ps pq pa da dl dc cx cy ch ce pla pll plc oa ol oc F GI GD GP GO _ (h2.toIn hm) h2.cf h2.ci (fun j hj => (h2.db j hj).2.2) (fun j hj => (h2.pb j hj).2.2) (fun j hj => (h2.ob j hj).2.2)).mono ?_
  rintro r w4 ⟨f1, f2, f3, f4, f5, fD, fP, fO, rfl, fN, fd, fp, fo, k4⟩
  have lo0 := (o0.lt · ·)
  have hlo : ∀ x, (Value.slice a0 L.length c0).ownBlock = some x → x < w3.heap.size := fun x e => (o0.lt x e).2
  clear lo0
  obtain ⟨lo, hlo2⟩ : ∃ lo, Hid (w3.heap.size = lo) := ⟨_, rfl⟩
  rw [hlo2.out] at hlo fN
  have hbl : w.heap.size ≤ lo := by rw [← hlo2.out]; exact b2.size
  have f5h := fN.o.lt
  have fOh := fN.oO.lt
  obtain ⟨hi, hhi⟩ : ∃ hi, Hid (w4.heap.size = hi) := ⟨_, rfl⟩
  rw [hhi.out] at f5h fOh
  have R := Ws.box (w := w4) #[.int .i64 0, .bool false, .bool false, .bool false, .int .i64 0, .int .i64 0, .int .i64 0, .int .i64 0, .slice none 0 0, .slice none 0 0, .int .i64 0, .int .i64 0, .int .i64 0, .bool false, .slice none 0 0, .int .i64 0, .int .i64 0, .int .i64 0, .int .i64 0, .slice none 0 0, .slice none 0 0] 43
  have hth : (w4.alloc (.cells #[.int .i64 0, .bool false, .bool false, .bool false, .int .i64 0, .int .i64 0, .int .i64 0, .int .i64 0, .slice none 0 0, .slice none 0 0, .int .i64 0, .int .i64 0, .int .i64 0, .bool false, .slice none 0 0, .int .i64 0, .int .i64 0, .int .i64 0, .int .i64 0, .slice none 0 0, .slice none 0 0] 43)).there w4.heap.size 0 21 := R.there rfl
  have kk := below_cells (w := w4) w4.heap.size (#[.int .i64 me, .bool up, .bool gone, .bool gate, .int .i64 inc, .int .i64 now, .int .i64 sq, .int .i64 turn, .slice (some ⟨f1, 0, none⟩) tl tl, .slice (some ⟨f2, 0, none⟩) cl cl, .int .i64 pn, .int .i64 ps, .int .i64 pq, .bool pa, .slice (some ⟨f3, 0, none⟩) dl dl, .int .i64 cx, .int .i64 cy, .int .i64 ch, .int .i64 ce, .slice (some ⟨f4, 0, none⟩) pll pll, .slice (some ⟨f5, 0, none⟩) ol ol] : Array Value).toList 0 (w4.alloc (.cells #[.int .i64 0, .bool false, .bool false, .bool false, .int .i64 0, .int .i64 0, .int .i64 0, .int .i64 0, .slice none 0 0, .slice none 0 0, .int .i64 0, .int .i64 0, .int .i64 0, .bool false, .slice none 0 0, .int .i64 0, .int .i64 0, .int .i64 0, .int .i64 0, .slice none 0 0, .slice none 0 0] 43)) (Nat.le_refl _) (balloc (.cells #[.int .i64 0, .bool false, .bool false, .bool false, .int .i64 0, .int .i64 0, .int .i64 0, .int .i64 0, .slice none 0 0, .slice none 0 0, .int .i64 0, .int .i64 0, .int .i64 0, .bool false, .slice none 0 0, .int .i64 0, .int .i64 0, .int .i64 0, .int .i64 0, .slice none 0 0, .slice none 0 0] 43) (Below.refl w4.heap.size w4))
  have rr := World.rangeAt_setCells_same (w4.alloc (.cells #[.int .i64 0, .bool false, .bool false, .bool false, .int .i64 0, .int .i64 0, .int .i64 0, .int .i64 0, .slice none 0 0, .slice none 0 0, .int .i64 0, .int .i64 0, .int .i64 0, .bool false, .slice none 0 0, .int .i64 0, .int .i64 0, .int .i64 0, .int .i64 0, .slice none 0 0, .slice none 0 0] 43)) w4.heap.size 0 (#[.int .i64 me, .bool up, .bool gone, .bool gate, .int .i64 inc, .int .i64 now, .int .i64 sq, .int .i64 turn, .slice (some ⟨f1, 0, none⟩) tl tl, .slice (some ⟨f2, 0, none⟩) cl cl, .int .i64 pn, .int .i64 ps, .int .i64 pq, .bool pa, .slice (some ⟨f3, 0, none⟩) dl dl, .int .i64 cx, .int .i64 cy, .int .i64 ch, .int .i64 ce, .slice (some ⟨f4, 0, none⟩) pll pll, .slice (some ⟨f5, 0, none⟩) ol ol] : Array Value).toList hth
  have kz := btrans k4 kk
  have b4 := btrans b2 kz
  have x4 := range_keep x2 kz
  have h4 := h2.below kz
  have o04 := own_below o0 kz
  have fM := fN.below kk
  have hhs : hi ≤ ((w4.alloc (.cells #[.int .i64 0, .bool false, .bool false, .bool false, .int .i64 0, .int .i64 0, .int .i64 0, .int .i64 0, .slice none 0 0, .slice none 0 0, .int .i64 0, .int .i64 0, .int .i64 0, .bool false, .slice none 0 0, .int .i64 0, .int .i64 0, .int .i64 0, .int .i64 0, .slice none 0 0, .slice none 0 0] 43)).setCells w4.heap.size 0 (#[.int .i64 me, .bool up, .bool gone, .bool gate, .int .i64 inc, .int .i64 now, .int .i64 sq, .int .i64 turn, .slice (some ⟨f1, 0, none⟩) tl tl, .slice (some ⟨f2, 0, none⟩) cl cl, .int .i64 pn, .int .i64 ps, .int .i64 pq, .bool pa, .slice (some ⟨f3, 0, none⟩) dl dl, .int .i64 cx, .int .i64 cy, .int .i64 ch, .int .i64 ce, .slice (some ⟨f4, 0, none⟩) pll pll, .slice (some ⟨f5, 0, none⟩) ol ol] : Array Value).toList).heap.size := by rw [← hhi.out]; exact kk.size
  have x3 := x2
  have hlo3 := hlo2
  clear b2 x2 h2 k4 kz R fN o0 hlo2
  go_upto_region 7 with (refine wpList_store_mid rfl 43 _ _ rfl w4.heap.size 0 #[.int .i64 me, .bool up, .bool gone, .bool gate, .int .i64 inc, .int .i64 now, .int .i64 sq, .int .i64 turn, .slice (some ⟨f1, 0, none⟩) tl tl, .slice (some ⟨f2, 0, none⟩) cl cl, .int .i64 pn, .int .i64 ps, .int .i64 pq, .bool pa, .slice (some ⟨f3, 0, none⟩) dl dl, .int .i64 cx, .int .i64 cy, .int .i64 ch, .int .i64 ce, .slice (some ⟨f4, 0, none⟩) pll pll, .slice (some ⟨f5, 0, none⟩) ol ol] rfl rfl hth (by kernel_rfl) (by kernel_rfl) ?_)
  clear hth kk
  generalize ((w4.alloc (.cells #[.int .i64 0, .bool false, .bool false, .bool false, .int .i64 0, .int .i64 0, .int .i64 0, .int .i64 0, .slice none 0 0, .slice none 0 0, .int .i64 0, .int .i64 0, .int .i64 0, .bool false, .slice none 0 0, .int .i64 0, .int .i64 0, .int .i64 0, .int .i64 0, .slice none 0 0, .slice none 0 0] 43)).setCells w4.heap.size 0 (#[.int .i64 me, .bool up, .bool gone, .bool gate, .int .i64 inc, .int .i64 now, .int .i64 sq, .int .i64 turn, .slice (some ⟨f1, 0, none⟩) tl tl, .slice (some ⟨f2, 0, none⟩) cl cl, .int .i64 pn, .int .i64 ps, .int .i64 pq, .bool pa, .slice (some ⟨f3, 0, none⟩) dl dl, .int .i64 cx, .int .i64 cy, .int .i64 ch, .int .i64 ce, .slice (some ⟨f4, 0, none⟩) pll pll, .slice (some ⟨f5, 0, none⟩) ol ol] : Array Value).toList) = w5 at *
  generalize w4.heap.size = KX at *
  have rf : w5.rangeAt KX 0 [.int .i64 me, .bool up, .bool gone, .bool gate, .int .i64 inc, .int .i64 now, .int .i64 sq, .int .i64 turn, .slice (some ⟨f1, 0, none⟩) tl tl, .slice (some ⟨f2, 0, none⟩) cl cl, .int .i64 pn, .int .i64 ps, .int .i64 pq, .bool pa, .slice (some ⟨f3, 0, none⟩) dl dl, .int .i64 cx, .int .i64 cy, .int .i64 ch, .int .i64 ce, .slice (some ⟨f4, 0, none⟩) pll pll, .slice (some ⟨f5, 0, none⟩) ol ol] := rr
  have mi := h4.toIn hm
  have fI := fM.toIn fd fp fo (fun j hj => (mi.db j hj).2) (fun j hj => (mi.pb j hj).2) (fun j hj => (mi.ob j hj).2) mi.hf mi.hi mi.hd mi.hp mi.ho
  have hKX : hi ≤ KX := by rw [← hhi.out]; exact Nat.le_refl _
  clear rr hhi
  refine wp_region_q0 s6_7 t6_7 (fun hbq => ?_)
  refine qR ?_
  refine qY ?_
  refine qC (fun K hK => ?_)
  go_simp
  refine (gates21_any me up gone gate inc now sq turn (some ⟨f1, 0, none⟩) tl tl (some ⟨f2, 0, none⟩) cl cl pn ps pq pa (some ⟨f3, 0, none⟩) dl dl cx cy ch ce (some ⟨f4, 0, none⟩) pll pll (some ⟨f5, 0, none⟩) ol ol F GI fD fP fO site _ (fI.below hbq)).mono ?_; rintro r w6 ⟨hga, k6⟩; rw [nod_congr _ _ _ _ _ _ _ _ _ _ _ _ _ _ _ _ _ GD _ _ _ _ _ GP _ GO fD fP fO fd fp fo, gat_congr fo, hL.out] at hga; obtain ⟨v1, rfl, o1⟩ := hga
  go_wp2_with fail
  refine hK.out _ _ (btrans hbq k6) (.inl ?_)
  clear hK K
  replace hbq := btrans hbq k6
  clear k6
  try simp only [putQ]
  refine qY ?_
  refine qE ?_
  have b6 := btrans b4 hbq
  have x6 := range_keep x4 hbq
  have h6 := h4.below hbq
  have o06 := own_below o04 hbq
  have fK := fM.below hbq
  have rf6 := range_keep rf hbq
  have hs6 := Nat.le_trans hhs hbq.size
  clear b4 x4 h4 o04 fM rf fI hbq mi
  obtain ⟨a1, c1, rfl, _, i1⟩ := own_list o1
  have hh1 : ∀ x, (Value.slice a1 L.length c1).ownBlock = some x → hi ≤ x := fun x e => Nat.le_trans hhs (o1.lt x e).1
  have h1s : ∀ x, (Value.slice a1 L.length c1).ownBlock = some x → w.heap.size ≤ x := fun x e => by
    have := hh1 x e
    have := fK.lo1
    have := fK.o12
    have := fK.o23
    have := fK.o34
    have := fK.o45
    omega
  have hlh : lo < hi := by
    have := fK.lo1
    have := fK.o12
    have := fK.o23
    have := fK.o34
    have := fK.o45
    omega
  have q01 : (Value.slice a0 L.length c0).ownBlock = none ∨ (Value.slice a0 L.length c0).ownBlock ≠ (Value.slice a1 L.length c1).ownBlock := by
    cases hv : (Value.slice a0 L.length c0).ownBlock with
    | none => exact .inl rfl
    | some k => exact .inr fun e => by have := hlo k hv; have := hh1 k e.symm; omega
  have hbl2 : w.heap.size < lo := by rw [← hlo3.out]; exact range_lt x3
  clear x3 hlo3
  go_wp2_with fail
  obtain ⟨a0', c0', e0, _, i0⟩ := own_list o06
  simp only [Value.slice.injEq, true_and] at e0
  obtain ⟨rfl, rfl⟩ := e0
  refine (eqInts_same _ _ _ _ _ _ _ i1 i0 hgl).mono ?_
  rintro r w7 ⟨rfl, k7⟩
  have b7 := btrans b6 k7
  have x7 := range_keep x6 k7
  have o07 := own_below o06 k7
  have o17 := own_below o1 k7
  have fJ := fK.below k7
  have rf7 := range_keep rf6 k7
  have hs7 := Nat.le_trans hs6 k7.size
  clear b6 x6 h6 o06 fK rf6 i0 i1 k7 hs6 o1
  go_upto_region 10 with fail
  have mi := (h.below b7).toIn hm
  have fI := fJ.toIn fd fp fo (fun j hj => (mi.db j hj).2) (fun j hj => (mi.pb j hj).2) (fun j hj => (mi.ob j hj).2) mi.hf mi.hi mi.hd mi.hp mi.ho
  clear mi
  refine wp_region_q s6_10 t6_10 (fun hbq => ?_)
  iterate 2 refine qR ?_
  refine qC (fun K hK => ?_)
  go_simp
  refine (toNode_any me up gone gate inc now sq turn ta tl tc ca cl cc pn ps pq pa da dl dc cx cy ch ce pla pll plc oa ol oc F GI GD GP GO _ ((h.below (btrans b7 hbq)).toIn hm) (h.below (btrans b7 hbq)).cf (h.below (btrans b7 hbq)).ci (fun j hj => ((h.below (btrans b7 hbq)).db j hj).2.2) (fun j hj => ((h.below (btrans b7 hbq)).pb j hj).2.2) (fun j hj => ((h.below (btrans b7 hbq)).ob j hj).2.2)).mono ?_; rintro r w8 ⟨g1, g2, g3, g4, g5, gD, gP, gO, rfl, gN, gd, gp, go, k8⟩
  have hED : ∀ j, DtEq (fD j) (gD j) := fun j => (fd j).symm' (gd j)
  have hEP : ∀ j, PlEq (fP j) (gP j) := fun j => (fp j).symm' (gp j)
  have hEO : ∀ j, FgEq (fO j) (gO j) := fun j => (fo j).symm' (go j)
  go_wp2_with fail
  refine hK.out _ _ (btrans hbq k8) (.inl ?_)
  clear hK K
  replace hbq := btrans hbq k8
  clear k8
  try simp only [putQ]
  refine qC (fun K hK => ?_)
  go_simp
  refine (eqNode_same me up gone gate inc now sq turn (some ⟨f1, 0, none⟩) tl tl (some ⟨f2, 0, none⟩) cl cl pn ps pq pa (some ⟨f3, 0, none⟩) dl dl cx cy ch ce (some ⟨f4, 0, none⟩) pll pll (some ⟨f5, 0, none⟩) ol ol (some ⟨g1, 0, none⟩) tl (some ⟨g2, 0, none⟩) cl (some ⟨g3, 0, none⟩) dl (some ⟨g4, 0, none⟩) pll (some ⟨g5, 0, none⟩) ol F GI fD fP fO gD gP gO _ (fI.below hbq) gN hED hEP hEO).mono ?_; rintro r w9 ⟨rfl, k9⟩
  go_wp2_with fail
  refine hK.out _ _ (btrans hbq k9) (.inl ?_)
  clear hK K
  replace hbq := btrans hbq k9
  clear k9
  try simp only [putQ]
  refine qY ?_
  refine qE ?_
  have b8 := btrans b7 hbq
  have x8 := range_keep x7 hbq
  have o08 := own_below o07 hbq
  have o18 := own_below o17 hbq
  have fL := fJ.below hbq
  have fI8 := fI.below hbq
  have rf8 := range_keep rf7 hbq
  have hs8 := Nat.le_trans hs7 hbq.size
  clear b7 x7 o07 o17 fJ fI rf7 hs7 hbq gN hED hEP hEO gd gp go
  go_wp2_with (refine load43L (by rfl) (.tmp 7) rfl KX rfl [.int .i64 me, .bool up, .bool gone, .bool gate, .int .i64 inc, .int .i64 now, .int .i64 sq, .int .i64 turn, .slice (some ⟨f1, 0, none⟩) tl tl, .slice (some ⟨f2, 0, none⟩) cl cl, .int .i64 pn, .int .i64 ps, .int .i64 pq, .bool pa, .slice (some ⟨f3, 0, none⟩) dl dl, .int .i64 cx, .int .i64 cy, .int .i64 ch, .int .i64 ce, .slice (some ⟨f4, 0, none⟩) pll pll, .slice (some ⟨f5, 0, none⟩) ol ol] rf8 rfl ?_)
  refine (markNode_any me up gone gate inc now sq turn pn ps pq pa cx cy ch ce tl F cl GI dl fD pll fP ol fO lo hi f1 f2 f3 f4 f5 _ fL f5h fOh hs8 fI8.hf fI8.hi fI8.hd fI8.hp fI8.ho (fun j hj => (fI8.db j hj).2) (fun j hj => (fI8.pb j hj).2) (fun j hj => (fI8.ob j hj).2)).mono ?_
  rintro r w10 ⟨⟨kz, rfl⟩, M10⟩
  have b10 := M10.below b8 hbl
  have x10 := M10.range x8 (.inl hbl2)
  have o010 := own_mrk o08 M10 (fun x e => .inl (hlo x e))
  have o110 := own_mrk o18 M10 (fun x e => .inr (hh1 x e))
  have hkz : ¬ ((kz : Int) < 0) := by omega
  clear b8 x8 o08 o18 fL fI8 rf8 hs8 M10 f5h fOh fd fp fo
  go_wp2_with fail
  obtain ⟨a0', c0', e0, _, i0⟩ := own_list o010
  simp only [Value.slice.injEq, true_and] at e0
  obtain ⟨rfl, rfl⟩ := e0
  obtain ⟨a1', c1', e0, _, i1⟩ := own_list o110
  simp only [Value.slice.injEq, true_and] at e0
  obtain ⟨rfl, rfl⟩ := e0
  refine (eqInts_same _ _ _ _ _ _ _ i1 i0 hgl).mono ?_
  rintro r w11 ⟨rfl, k11⟩
  have b11 := btrans b10 k11
  have x11 := range_keep x10 k11
  have o011 := own_below o010 k11
  have o111 := own_below o110 k11
  clear b10 x10 o010 o110 i0 i1 k11 hkz
  go_wp2_with fail
  refine (markInts_own _ _ _ _ _ 1 _ o111 hgl (by omega)).mono ?_
  rintro r w12 ⟨rfl, om, g12⟩
  have b12 := b11.grown g12 b11.size (fun k hk => h1s k hk)
  have x12 := range_grow x11 g12 (fun k hk e => by have := hh1 k hk; omega)
  have o012 := o011.kept g12 q01
  clear b11 x11 o011 o111 g12
  obtain ⟨K, hK⟩ : ∃ K : Nat, Hid (1 + L.length = K) := ⟨_, rfl⟩
  rw [hK.out]
  go_wp2_with fail
  obtain ⟨a1', c1', e1, _, i1⟩ := own_ints (f := fun j => ((1 + j : Nat) : Int)) om
  simp only [Value.slice.injEq, true_and] at e1
  obtain ⟨rfl, rfl⟩ := e1
  refine (heldInts_any _ _ _ 1 _ i1 hgl (by omega)).mono ?_
  rintro r w13 ⟨rfl, hw⟩
  obtain rfl := hw.symm
  clear hw i1
  rw [hK.out]
  have kk0 : ¬ ((K : Int) < 0) := by omega
  have kk1 : ¬ ((K : Int) ≠ (K : Int)) := by simp
  go_upto_region 24 with fail
  refine wp_region_q0 s6_24 t6_24 (fun hbq => ?_)
  refine qR ?_
  refine qC (fun K hK => ?_)
  go_simp
  refine (toNode_any me up gone gate inc now sq turn ta tl tc ca cl cc pn ps pq pa da dl dc cx cy ch ce pla pll plc oa ol oc F GI GD GP GO _ ((h.below (btrans b12 hbq)).toIn hm) (h.below (btrans b12 hbq)).cf (h.below (btrans b12 hbq)).ci (fun j hj => ((h.below (btrans b12 hbq)).db j hj).2.2) (fun j hj => ((h.below (btrans b12 hbq)).pb j hj).2.2) (fun j hj => ((h.below (btrans b12 hbq)).ob j hj).2.2)).mono ?_; rintro r w14 ⟨t1, t2, t3, t4, t5, tD, tP, tO, rfl, tN, td, tp, to_, k14⟩
  go_wp2_with fail
  refine hK.out _ _ (btrans hbq k14) (.inl ?_)
  clear hK K
  replace hbq := btrans hbq k14
  clear k14
  try simp only [putQ]
  refine qY ?_
  refine qC (fun K hK => ?_)
  go_simp
  refine (gates21_any me up gone gate inc now sq turn (some ⟨t1, 0, none⟩) tl tl (some ⟨t2, 0, none⟩) cl cl pn ps pq pa (some ⟨t3, 0, none⟩) dl dl cx cy ch ce (some ⟨t4, 0, none⟩) pll pll (some ⟨t5, 0, none⟩) ol ol F GI tD tP tO site _ tN).mono ?_; rintro r w15 ⟨hga, k15⟩; rw [nod_congr _ _ _ _ _ _ _ _ _ _ _ _ _ _ _ _ _ GD _ _ _ _ _ GP _ GO tD tP tO td tp to_, gat_congr to_, hL.out] at hga; obtain ⟨v2, rfl, o2⟩ := hga
  go_wp2_with fail
  refine hK.out _ _ (btrans hbq k15) (.inl ?_)
  clear hK K
  replace hbq := btrans hbq k15
  clear k15
  try simp only [putQ]
  refine qY ?_
  refine qE ?_
  have b15 := btrans b12 hbq
  have o015 := own_below o012 hbq
  have om15 := own_below om hbq
  clear b12 o012 om x12 hbq tN td tp to_
  obtain ⟨a2, c2, rfl, _, i2⟩ := own_list o2
  go_wp2_with fail
  obtain ⟨a0', c0', e0, _, i0⟩ := own_list o015
  simp only [Value.slice.injEq, true_and] at e0
  obtain ⟨rfl, rfl⟩ := e0
  refine (eqInts_same _ _ _ _ _ _ _ i2 i0 hgl).mono ?_
  rintro r w16 ⟨rfl, k16⟩
  have b16 := btrans b15 k16
  have om16 := own_below om15 k16
  clear b15 om15 i0 i2 o015 o2 k16
  go_wp2_with fail
  obtain ⟨a1', c1', e1, _, i1⟩ := own_ints (f := fun j => ((1 + j : Nat) : Int)) om16
  simp only [Value.slice.injEq, true_and] at e1
  obtain ⟨rfl, rfl⟩ := e1
  refine (heldInts_any _ _ _ 1 _ i1 hgl (by omega)).mono ?_
  rintro r w17 ⟨rfl, hw⟩
  obtain rfl := hw.symm
  clear hw i1 om16
  rw [hK.out]
  go_wp2
  go_ret
  exact ⟨rfl, b16⟩
end Go.Proofs.YtnplhfgdbabmaaaGreat
