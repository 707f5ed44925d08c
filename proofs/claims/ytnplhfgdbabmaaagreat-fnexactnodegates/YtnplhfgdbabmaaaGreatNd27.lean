/- Nodes: at every node NodeOk answers as its model does. -/
import Derived.Test.YtnplhfgdbabmaaaGreatNd25
import Derived.Test.YtnplhfgdbabmaaaGreatNd24
namespace Go.Proofs.YtnplhfgdbabmaaaGreat
open Go.ChangeShapes Go.WideShapes Go.ChangeAt Go.RowKit
attribute [local go_sem ↓] Go.wp_at_zero Go.wp_at_succ
theorem DtEq.symm' {x y z : Dt} (h : DtEq x z) (h' : DtEq y z) : DtEq x y := by
  obtain ⟨a0, a1, a2, a3, a4⟩ := h
  obtain ⟨b0, b1, b2, b3, b4⟩ := h'
  exact ⟨a0.trans b0.symm, a1.trans b1.symm, a2.trans b2.symm, a3.trans b3.symm, a4.trans b4.symm⟩
theorem PlEq.symm' {x y z : Pl} (h : PlEq x z) (h' : PlEq y z) : PlEq x y := by
  obtain ⟨a0, a1, a2, a3, a4, a5, a6⟩ := h
  obtain ⟨b0, b1, b2, b3, b4, b5, b6⟩ := h'
  exact ⟨a0.trans b0.symm, a1.trans b1.symm, a2.trans b2.symm, a3.trans b3.symm, a4.trans b4.symm, a5.trans b5.symm, a6.trans b6.symm⟩
theorem FgEq.symm' {x y z : Fg} (h : FgEq x z) (h' : FgEq y z) : FgEq x y := by
  obtain ⟨a0, a1, a2⟩ := h
  obtain ⟨b0, b1, b2⟩ := h'
  exact ⟨a0.trans b0.symm, a1.trans b1.symm, a2.trans b2.symm⟩
theorem row32 : ∃ d, Tryz.prog.underlying 32 = some d ∧ d.isRow = true := by
  have h : (Tryz.prog.underlying 32).map TypeDesc.isRow = some true := by kernel_rfl
  cases e : Tryz.prog.underlying 32 with
  | none => rw [e] at h; cases h
  | some d => rw [e] at h; exact ⟨d, rfl, by simpa using h⟩
theorem size32 : (Tryz.prog.info? 32).map (·.size) = some 21 := by kernel_rfl
theorem load32 {ops : Array Oper} {S : World → Prop} {op : Oper} {a : Act} (hw : Region.wanted op (yielded ops a.tmps) = true) (x : Operand) (ho : op.op = .load 32 x) (b : Nat) (hx : a.eval x = .pointer (some ⟨b, 0, none⟩)) (xs : List Value) (hS : ∀ w, S w → w.rangeAt b 0 xs) (hn : xs.length = 21) : YieldsIf Tryz.prog ops S op (.agg xs.toArray) a := by
  obtain ⟨d, hu, hd⟩ := row32
  exact yieldsIf_load_mid hw 32 x ho b 0 hx xs d hS hu hd (hn ▸ size32)
theorem load32L {ops : Array Oper} {rest : List Oper} {op : Oper} {a : Act} {w : World} {Q : Exit → Act → World → Prop} (hw : Region.wanted op (yielded ops a.tmps) = true) (x : Operand) (ho : op.op = .load 32 x) (b : Nat) (hx : a.eval x = .pointer (some ⟨b, 0, none⟩)) (xs : List Value) (hS : w.rangeAt b 0 xs) (hn : xs.length = 21)
    (h : wpList Tryz.prog ops Q rest (a.put op.dst (.agg xs.toArray)) w) : wpList Tryz.prog ops Q (op :: rest) a w := by
  obtain ⟨d, hu, hd⟩ := row32
  unfold wpList
  rw [if_pos hw]
  exact Or.inl (wp_load_mid 32 x ho b 0 hx xs d hS hu hd (hn ▸ size32) h)
def o3_10 : Array Oper := #[{ dst := some 22, op := .load 43 (.tmp 5), type := 43, pos := "exact.go:1726", after := #[], guard := none }, { dst := some 23, op := .load 32 (.tmp 1), type := 32, pos := "exact.go:1726", after := #[], guard := none }, { dst := some 24, op := .call { callee := .value (.func 10), args := #[.tmp 23], argTypes := #[32] }, type := 43, pos := "exact.go:1726", after := #[{ on := 1, ground := .data }], guard := none }, { dst := some 25, op := .call { callee := .value (.func 12), args := #[.tmp 22, .tmp 24], argTypes := #[43, 43] }, type := 4, pos := "exact.go:1726", after := #[{ on := 0, ground := .data }, { on := 2, ground := .data }, { on := 2, ground := .chain }], guard := none }, { dst := some 26, op := .unOp .not 4 (.tmp 25), type := 4, pos := "exact.go:1726", after := #[{ on := 3, ground := .data }], guard := none }]
theorem fo3_10 : FreeN .any o3_10 5 := ⟨⟨by kernel_rfl⟩, by kernel_rfl⟩
theorem o3_10_0 : o3_10[0]? = some { dst := some 22, op := .load 43 (.tmp 5), type := 43, pos := "exact.go:1726", after := #[], guard := none } := rfl
theorem o3_10_1 : o3_10[1]? = some { dst := some 23, op := .load 32 (.tmp 1), type := 32, pos := "exact.go:1726", after := #[], guard := none } := rfl
theorem o3_10_2 : o3_10[2]? = some { dst := some 24, op := .call { callee := .value (.func 10), args := #[.tmp 23], argTypes := #[32] }, type := 43, pos := "exact.go:1726", after := #[{ on := 1, ground := .data }], guard := none } := rfl
theorem o3_10_3 : o3_10[3]? = some { dst := some 25, op := .call { callee := .value (.func 12), args := #[.tmp 22, .tmp 24], argTypes := #[43, 43] }, type := 4, pos := "exact.go:1726", after := #[{ on := 0, ground := .data }, { on := 2, ground := .data }, { on := 2, ground := .chain }], guard := none } := rfl
theorem o3_10_4 : o3_10[4]? = some { dst := some 26, op := .unOp .not 4 (.tmp 25), type := 4, pos := "exact.go:1726", after := #[{ on := 3, ground := .data }], guard := none } := rfl
set_option maxRecDepth 20000 in
set_option maxHeartbeats 8000000 in
set_option linter.unusedSimpArgs false in
theorem exNodeOk_walk (me : Int) (up gone gate : Bool) (inc now sq turn : Int) (ta : Option Addr) (tl tc : Nat) (ca : Option Addr) (cl cc : Nat) (pn ps pq : Int) (pa : Bool) (da : Option Addr) (dl dc : Nat) (cx cy ch ce : Int) (pla : Option Addr) (pll plc : Nat) (oa : Option Addr) (ol oc : Nat) (F : Nat → Fc) (GI : Nat → It) (GD : Nat → Dt) (GP : Nat → Pl) (GO : Nat → Fg) (w : World) (h : NdRaw w ta tl tc F ca cl cc GI da dl GD pla pll GP oa ol GO) :
    Calls Tryz.prog 3 #[.agg #[.int .i64 me, .bool up, .bool gone, .bool gate, .int .i64 inc, .int .i64 now, .int .i64 sq, .int .i64 turn, .slice ta tl tc, .slice ca cl cc, .int .i64 pn, .int .i64 ps, .int .i64 pq, .bool pa, .slice da dl dc, .int .i64 cx, .int .i64 cy, .int .i64 ch, .int .i64 ce, .slice pla pll plc, .slice oa ol oc]] w fun r w' => r = .returned (.bool true) ∧ Below w.heap.size w w' := by
  have b0 := balloc (.cells #[.int .i64 me, .bool up, .bool gone, .bool gate, .int .i64 inc, .int .i64 now, .int .i64 sq, .int .i64 turn, .slice ta tl tc, .slice ca cl cc, .int .i64 pn, .int .i64 ps, .int .i64 pq, .bool pa, .slice da dl dc, .int .i64 cx, .int .i64 cy, .int .i64 ch, .int .i64 ce, .slice pla pll plc, .slice oa ol oc] 32) (Below.refl w.heap.size w)
  have X0 := Ws.box (w := w) #[.int .i64 me, .bool up, .bool gone, .bool gate, .int .i64 inc, .int .i64 now, .int .i64 sq, .int .i64 turn, .slice ta tl tc, .slice ca cl cc, .int .i64 pn, .int .i64 ps, .int .i64 pq, .bool pa, .slice da dl dc, .int .i64 cx, .int .i64 cy, .int .i64 ch, .int .i64 ce, .slice pla pll plc, .slice oa ol oc] 32
  go_enter Tryz.func3, Tryz.ntmps3
  go_upto_region 1 with fail
  generalize w.alloc (.cells #[.int .i64 me, .bool up, .bool gone, .bool gate, .int .i64 inc, .int .i64 now, .int .i64 sq, .int .i64 turn, .slice ta tl tc, .slice ca cl cc, .int .i64 pn, .int .i64 ps, .int .i64 pq, .bool pa, .slice da dl dc, .int .i64 cx, .int .i64 cy, .int .i64 ch, .int .i64 ce, .slice pla pll plc, .slice oa ol oc] 32) = u at *
  have h0 := h.below b0
  have x0 := X0.range
  clear h
  obtain ⟨q, hq⟩ : ∃ q, Hid (nodB me up gone gate inc now sq turn tl F cl GI pn ps pq pa dl GD cx cy ch ce pll GP ol GO = q) := ⟨_, rfl⟩
  go_wp2_with (refine load32L (by rfl) (.tmp 1) rfl w.heap.size rfl [.int .i64 me, .bool up, .bool gone, .bool gate, .int .i64 inc, .int .i64 now, .int .i64 sq, .int .i64 turn, .slice ta tl tc, .slice ca cl cc, .int .i64 pn, .int .i64 ps, .int .i64 pq, .bool pa, .slice da dl dc, .int .i64 cx, .int .i64 cy, .int .i64 ch, .int .i64 ce, .slice pla pll plc, .slice oa ol oc] x0 rfl ?_; clear x0)
  refine (szNode_any me up gone gate inc now sq turn ta tl tc ca cl cc pn ps pq pa da dl dc cx cy ch ce pla pll plc oa ol oc F GI GD GP GO _ h0).mono ?_
  rintro r w1 ⟨⟨z, rfl, hz⟩, k1⟩
  have b1 := btrans b0 k1
  have X1 := X0.below k1
  have h1 := h0.below k1
  have x1 := X1.range
  clear b0 X0 h0 k1
  rcases hz with hz | ⟨hz, hm⟩
  · have hz' := hz
    subst hz'
    clear X1 h1 x1
    go_wp2
    go_ret
    exact ⟨rfl, b1⟩
  have hz2 : ¬ z < 0 := by omega
  clear hz
  go_wp2_with (refine load32L (by rfl) (.tmp 1) rfl w.heap.size rfl [.int .i64 me, .bool up, .bool gone, .bool gate, .int .i64 inc, .int .i64 now, .int .i64 sq, .int .i64 turn, .slice ta tl tc, .slice ca cl cc, .int .i64 pn, .int .i64 ps, .int .i64 pq, .bool pa, .slice da dl dc, .int .i64 cx, .int .i64 cy, .int .i64 ch, .int .i64 ce, .slice pla pll plc, .slice oa ol oc] x1 rfl ?_; clear x1)
  refine (toNode_any me up gone gate inc now sq turn ta tl tc ca cl cc pn ps pq pa da dl dc cx cy ch ce pla pll plc oa ol oc F GI GD GP GO _ (h1.toIn hm) h1.cf h1.ci (fun j hj => (h1.db j hj).2.2) (fun j hj => (h1.pb j hj).2.2) (fun j hj => (h1.ob j hj).2.2)).mono ?_
  rintro r w2 ⟨s1, s2, s3, s4, s5, sD, sP, sO, rfl, sN, sd, sp, so, k2⟩
  have b2 := btrans b1 k2
  have X2 := X1.below k2
  have h2 := h1.below k2
  clear b1 X1 h1 k2 hz2
  go_wp2_with fail
  refine (nodeOk9_any me up gone gate inc now sq turn (some ⟨s1, 0, none⟩) tl tl (some ⟨s2, 0, none⟩) cl cl pn ps pq pa (some ⟨s3, 0, none⟩) dl dl cx cy ch ce (some ⟨s4, 0, none⟩) pll pll (some ⟨s5, 0, none⟩) ol ol F GI sD sP sO _ sN).mono ?_
  rintro r w3 ⟨rfl, k3⟩
  rw [← nod_same, nod_congr _ _ _ _ _ _ _ _ _ _ _ _ _ _ _ _ _ GD _ _ _ _ _ GP _ GO sD sP sO sd sp so, hq.out]
  have b3 := btrans b2 k3
  have X3 := X2.below k3
  have h3 := h2.below k3
  have x3 := X3.range
  clear b2 X2 h2 k3 sN sd sp so
  go_wp2_with (refine load32L (by rfl) (.tmp 1) rfl w.heap.size rfl [.int .i64 me, .bool up, .bool gone, .bool gate, .int .i64 inc, .int .i64 now, .int .i64 sq, .int .i64 turn, .slice ta tl tc, .slice ca cl cc, .int .i64 pn, .int .i64 ps, .int .i64 pq, .bool pa, .slice da dl dc, .int .i64 cx, .int .i64 cy, .int .i64 ch, .int .i64 ce, .slice pla pll plc, .slice oa ol oc] x3 rfl ?_; clear x3)
  refine (toNode_any me up gone gate inc now sq turn ta tl tc ca cl cc pn ps pq pa da dl dc cx cy ch ce pla pll plc oa ol oc F GI GD GP GO _ (h3.toIn hm) h3.cf h3.ci (fun j hj => (h3.db j hj).2.2) (fun j hj => (h3.pb j hj).2.2) (fun j hj => (h3.ob j hj).2.2)).mono ?_
  rintro r w4 ⟨f1, f2, f3, f4, f5, fD, fP, fO, rfl, fN, fd, fp, fo, k4⟩
  have R := Ws.box (w := w4) #[.int .i64 0, .bool false, .bool false, .bool false, .int .i64 0, .int .i64 0, .int .i64 0, .int .i64 0, .slice none 0 0, .slice none 0 0, .int .i64 0, .int .i64 0, .int .i64 0, .bool false, .slice none 0 0, .int .i64 0, .int .i64 0, .int .i64 0, .int .i64 0, .slice none 0 0, .slice none 0 0] 43
  have hth : (w4.alloc (.cells #[.int .i64 0, .bool false, .bool false, .bool false, .int .i64 0, .int .i64 0, .int .i64 0, .int .i64 0, .slice none 0 0, .slice none 0 0, .int .i64 0, .int .i64 0, .int .i64 0, .bool false, .slice none 0 0, .int .i64 0, .int .i64 0, .int .i64 0, .int .i64 0, .slice none 0 0, .slice none 0 0] 43)).there w4.heap.size 0 21 := R.there rfl
  have kk := below_cells (w := w4) w4.heap.size (#[.int .i64 me, .bool up, .bool gone, .bool gate, .int .i64 inc, .int .i64 now, .int .i64 sq, .int .i64 turn, .slice (some ⟨f1, 0, none⟩) tl tl, .slice (some ⟨f2, 0, none⟩) cl cl, .int .i64 pn, .int .i64 ps, .int .i64 pq, .bool pa, .slice (some ⟨f3, 0, none⟩) dl dl, .int .i64 cx, .int .i64 cy, .int .i64 ch, .int .i64 ce, .slice (some ⟨f4, 0, none⟩) pll pll, .slice (some ⟨f5, 0, none⟩) ol ol] : Array Value).toList 0 (w4.alloc (.cells #[.int .i64 0, .bool false, .bool false, .bool false, .int .i64 0, .int .i64 0, .int .i64 0, .int .i64 0, .slice none 0 0, .slice none 0 0, .int .i64 0, .int .i64 0, .int .i64 0, .bool false, .slice none 0 0, .int .i64 0, .int .i64 0, .int .i64 0, .int .i64 0, .slice none 0 0, .slice none 0 0] 43)) (Nat.le_refl _) (balloc (.cells #[.int .i64 0, .bool false, .bool false, .bool false, .int .i64 0, .int .i64 0, .int .i64 0, .int .i64 0, .slice none 0 0, .slice none 0 0, .int .i64 0, .int .i64 0, .int .i64 0, .bool false, .slice none 0 0, .int .i64 0, .int .i64 0, .int .i64 0, .int .i64 0, .slice none 0 0, .slice none 0 0] 43) (Below.refl w4.heap.size w4))
  have rr := World.rangeAt_setCells_same (w4.alloc (.cells #[.int .i64 0, .bool false, .bool false, .bool false, .int .i64 0, .int .i64 0, .int .i64 0, .int .i64 0, .slice none 0 0, .slice none 0 0, .int .i64 0, .int .i64 0, .int .i64 0, .bool false, .slice none 0 0, .int .i64 0, .int .i64 0, .int .i64 0, .int .i64 0, .slice none 0 0, .slice none 0 0] 43)) w4.heap.size 0 (#[.int .i64 me, .bool up, .bool gone, .bool gate, .int .i64 inc, .int .i64 now, .int .i64 sq, .int .i64 turn, .slice (some ⟨f1, 0, none⟩) tl tl, .slice (some ⟨f2, 0, none⟩) cl cl, .int .i64 pn, .int .i64 ps, .int .i64 pq, .bool pa, .slice (some ⟨f3, 0, none⟩) dl dl, .int .i64 cx, .int .i64 cy, .int .i64 ch, .int .i64 ce, .slice (some ⟨f4, 0, none⟩) pll pll, .slice (some ⟨f5, 0, none⟩) ol ol] : Array Value).toList hth
  have b4 := btrans (btrans b3 k4) kk
  have X4 := (X3.below k4).below kk
  have h4 := (h3.below k4).below kk
  have fM := fN.below kk
  clear b3 X3 h3 k4 R fN
  go_upto_region 7 with (refine wpList_store_mid rfl 43 _ _ rfl w4.heap.size 0 #[.int .i64 me, .bool up, .bool gone, .bool gate, .int .i64 inc, .int .i64 now, .int .i64 sq, .int .i64 turn, .slice (some ⟨f1, 0, none⟩) tl tl, .slice (some ⟨f2, 0, none⟩) cl cl, .int .i64 pn, .int .i64 ps, .int .i64 pq, .bool pa, .slice (some ⟨f3, 0, none⟩) dl dl, .int .i64 cx, .int .i64 cy, .int .i64 ch, .int .i64 ce, .slice (some ⟨f4, 0, none⟩) pll pll, .slice (some ⟨f5, 0, none⟩) ol ol] rfl rfl hth (by kernel_rfl) (by kernel_rfl) ?_)
  clear hth kk
  generalize ((w4.alloc (.cells #[.int .i64 0, .bool false, .bool false, .bool false, .int .i64 0, .int .i64 0, .int .i64 0, .int .i64 0, .slice none 0 0, .slice none 0 0, .int .i64 0, .int .i64 0, .int .i64 0, .bool false, .slice none 0 0, .int .i64 0, .int .i64 0, .int .i64 0, .int .i64 0, .slice none 0 0, .slice none 0 0] 43)).setCells w4.heap.size 0 (#[.int .i64 me, .bool up, .bool gone, .bool gate, .int .i64 inc, .int .i64 now, .int .i64 sq, .int .i64 turn, .slice (some ⟨f1, 0, none⟩) tl tl, .slice (some ⟨f2, 0, none⟩) cl cl, .int .i64 pn, .int .i64 ps, .int .i64 pq, .bool pa, .slice (some ⟨f3, 0, none⟩) dl dl, .int .i64 cx, .int .i64 cy, .int .i64 ch, .int .i64 ce, .slice (some ⟨f4, 0, none⟩) pll pll, .slice (some ⟨f5, 0, none⟩) ol ol] : Array Value).toList) = w5 at *
  generalize w4.heap.size = KX at *
  have rr' : w5.rangeAt KX 0 [.int .i64 me, .bool up, .bool gone, .bool gate, .int .i64 inc, .int .i64 now, .int .i64 sq, .int .i64 turn, .slice (some ⟨f1, 0, none⟩) tl tl, .slice (some ⟨f2, 0, none⟩) cl cl, .int .i64 pn, .int .i64 ps, .int .i64 pq, .bool pa, .slice (some ⟨f3, 0, none⟩) dl dl, .int .i64 cx, .int .i64 cy, .int .i64 ch, .int .i64 ce, .slice (some ⟨f4, 0, none⟩) pll pll, .slice (some ⟨f5, 0, none⟩) ol ol] := rr
  clear rr
  go_wp2_with (refine load43L (by rfl) (.tmp 5) rfl KX rfl [.int .i64 me, .bool up, .bool gone, .bool gate, .int .i64 inc, .int .i64 now, .int .i64 sq, .int .i64 turn, .slice (some ⟨f1, 0, none⟩) tl tl, .slice (some ⟨f2, 0, none⟩) cl cl, .int .i64 pn, .int .i64 ps, .int .i64 pq, .bool pa, .slice (some ⟨f3, 0, none⟩) dl dl, .int .i64 cx, .int .i64 cy, .int .i64 ch, .int .i64 ce, .slice (some ⟨f4, 0, none⟩) pll pll, .slice (some ⟨f5, 0, none⟩) ol ol] rr' rfl ?_)
  refine (nodeOk11_any me up gone gate inc now sq turn (some ⟨f1, 0, none⟩) tl tl (some ⟨f2, 0, none⟩) cl cl pn ps pq pa (some ⟨f3, 0, none⟩) dl dl cx cy ch ce (some ⟨f4, 0, none⟩) pll pll (some ⟨f5, 0, none⟩) ol ol F GI fD fP fO _ fM).mono ?_
  rintro r w6 ⟨rfl, k6⟩
  rw [nod_congr _ _ _ _ _ _ _ _ _ _ _ _ _ _ _ _ _ GD _ _ _ _ _ GP _ GO fD fP fO fd fp fo, hq.out]
  have b6 := btrans b4 k6
  have X6 := X4.below k6
  have h6 := h4.below k6
  have fL := fM.below k6
  have rf := range_below' rr' k6
  have x6 := X6.range
  clear b4 X4 h4 k6 fM rr' X6
  go_upto_region 10 with fail
  clear hq
  refine wp_region_m (S := (fun w' => w'.rangeAt KX 0 [.int .i64 me, .bool up, .bool gone, .bool gate, .int .i64 inc, .int .i64 now, .int .i64 sq, .int .i64 turn, .slice (some ⟨f1, 0, none⟩) tl tl, .slice (some ⟨f2, 0, none⟩) cl cl, .int .i64 pn, .int .i64 ps, .int .i64 pq, .bool pa, .slice (some ⟨f3, 0, none⟩) dl dl, .int .i64 cx, .int .i64 cy, .int .i64 ch, .int .i64 ce, .slice (some ⟨f4, 0, none⟩) pll pll, .slice (some ⟨f5, 0, none⟩) ol ol] ∧ w'.rangeAt w.heap.size 0 [.int .i64 me, .bool up, .bool gone, .bool gate, .int .i64 inc, .int .i64 now, .int .i64 sq, .int .i64 turn, .slice ta tl tc, .slice ca cl cc, .int .i64 pn, .int .i64 ps, .int .i64 pq, .bool pa, .slice da dl dc, .int .i64 cx, .int .i64 cy, .int .i64 ch, .int .i64 ce, .slice pla pll plc, .slice oa ol oc] ∧ NdRaw w' ta tl tc F ca cl cc GI da dl GD pla pll GP oa ol GO ∧ NdIn w' (some ⟨f1, 0, none⟩) tl F (some ⟨f2, 0, none⟩) cl GI (some ⟨f3, 0, none⟩) dl fD (some ⟨f4, 0, none⟩) pll fP (some ⟨f5, 0, none⟩) ol fO ∧ Below w.heap.size w w')) o3_10 5 fo3_10 ?_ (fun hHeld => ?_)
  · (try dsimp only); exact ⟨range_drew rf, range_drew x6, h6.below (Below.refl _ _).drew, fL.below (Below.refl _ _).drew, b6.drew⟩
  refine stW (.agg #[.int .i64 me, .bool up, .bool gone, .bool gate, .int .i64 inc, .int .i64 now, .int .i64 sq, .int .i64 turn, .slice (some ⟨f1, 0, none⟩) tl tl, .slice (some ⟨f2, 0, none⟩) cl cl, .int .i64 pn, .int .i64 ps, .int .i64 pq, .bool pa, .slice (some ⟨f3, 0, none⟩) dl dl, .int .i64 cx, .int .i64 cy, .int .i64 ch, .int .i64 ce, .slice (some ⟨f4, 0, none⟩) pll pll, .slice (some ⟨f5, 0, none⟩) ol ol]) fo3_10 o3_10_0 1 (load43 (by rfl) (.tmp 5) rfl KX rfl [.int .i64 me, .bool up, .bool gone, .bool gate, .int .i64 inc, .int .i64 now, .int .i64 sq, .int .i64 turn, .slice (some ⟨f1, 0, none⟩) tl tl, .slice (some ⟨f2, 0, none⟩) cl cl, .int .i64 pn, .int .i64 ps, .int .i64 pq, .bool pa, .slice (some ⟨f3, 0, none⟩) dl dl, .int .i64 cx, .int .i64 cy, .int .i64 ch, .int .i64 ce, .slice (some ⟨f4, 0, none⟩) pll pll, .slice (some ⟨f5, 0, none⟩) ol ol] (fun w hSw => hSw.1) rfl) ?_
  (try simp only [putQ])
  refine stW (.agg #[.int .i64 me, .bool up, .bool gone, .bool gate, .int .i64 inc, .int .i64 now, .int .i64 sq, .int .i64 turn, .slice ta tl tc, .slice ca cl cc, .int .i64 pn, .int .i64 ps, .int .i64 pq, .bool pa, .slice da dl dc, .int .i64 cx, .int .i64 cy, .int .i64 ch, .int .i64 ce, .slice pla pll plc, .slice oa ol oc]) fo3_10 o3_10_1 3 (load32 (by rfl) (.tmp 1) rfl w.heap.size rfl [.int .i64 me, .bool up, .bool gone, .bool gate, .int .i64 inc, .int .i64 now, .int .i64 sq, .int .i64 turn, .slice ta tl tc, .slice ca cl cc, .int .i64 pn, .int .i64 ps, .int .i64 pq, .bool pa, .slice da dl dc, .int .i64 cx, .int .i64 cy, .int .i64 ch, .int .i64 ce, .slice pla pll plc, .slice oa ol oc] (fun w hSw => hSw.2.1) rfl) ?_
  (try simp only [putQ])
  refine stC fo3_10 o3_10_2 7 (fun K hK => ?_)
  go_simp
  refine (toNode_any me up gone gate inc now sq turn ta tl tc ca cl cc pn ps pq pa da dl dc cx cy ch ce pla pll plc oa ol oc F GI GD GP GO _ (hHeld.2.2.1.toIn hm) hHeld.2.2.1.cf hHeld.2.2.1.ci (fun j hj => (hHeld.2.2.1.db j hj).2.2) (fun j hj => (hHeld.2.2.1.pb j hj).2.2) (fun j hj => (hHeld.2.2.1.ob j hj).2.2)).mono ?_; rintro r w7 ⟨g1, g2, g3, g4, g5, gD, gP, gO, rfl, gN, gd, gp, go, k7⟩
  have hED : ∀ j, DtEq (fD j) (gD j) := fun j => (fd j).symm' (gd j)
  have hEP : ∀ j, PlEq (fP j) (gP j) := fun j => (fp j).symm' (gp j)
  have hEO : ∀ j, FgEq (fO j) (gO j) := fun j => (fo j).symm' (go j)
  go_wp2_with fail
  refine hK.out _ _ ?_ (fun hHeld => ?_)
  · (try dsimp only); exact ⟨range_below' hHeld.1 k7, range_below' hHeld.2.1 k7, hHeld.2.2.1.below k7, hHeld.2.2.2.1.below k7, btrans hHeld.2.2.2.2 k7⟩
  clear hK K
  (try simp only [putQ])
  refine stC fo3_10 o3_10_3 15 (fun K hK => ?_)
  go_simp
  refine (eqNode_same me up gone gate inc now sq turn (some ⟨f1, 0, none⟩) tl tl (some ⟨f2, 0, none⟩) cl cl pn ps pq pa (some ⟨f3, 0, none⟩) dl dl cx cy ch ce (some ⟨f4, 0, none⟩) pll pll (some ⟨f5, 0, none⟩) ol ol (some ⟨g1, 0, none⟩) tl (some ⟨g2, 0, none⟩) cl (some ⟨g3, 0, none⟩) dl (some ⟨g4, 0, none⟩) pll (some ⟨g5, 0, none⟩) ol F GI fD fP fO gD gP gO _ hHeld.2.2.2.1 gN hED hEP hEO).mono ?_; rintro r w8 ⟨rfl, k8⟩
  go_wp2_with fail
  refine hK.out _ _ ?_ (fun hHeld => ?_)
  · (try dsimp only); exact ⟨range_below' hHeld.1 k8, range_below' hHeld.2.1 k8, hHeld.2.2.1.below k8, hHeld.2.2.2.1.below k8, btrans hHeld.2.2.2.2 k8⟩
  clear hK K
  (try simp only [putQ]); refine stY fo3_10 o3_10_4 31 ?_; try simp only [putQ]
  refine wpAnyH_done (by kernel_rfl) ?_ _
  go_wp2
  go_ret
  exact ⟨rfl, hHeld.2.2.2.2⟩
end Go.Proofs.YtnplhfgdbabmaaaGreat
