/- Nodes: who is of their site. -/
import Derived.Test.YtgcdcfjaeehnbaaGreatNd5
namespace Go.Proofs.YtgcdcfjaeehnbaaGreat
open Go.ChangeShapes Go.WideShapes Go.ChangeAt Go.RowKit
attribute [local go_sem ↓] Go.wp_at_zero Go.wp_at_succ
/-- a node is of another's site -/
def ofB (me key : Int) : Bool := inb key 0 7 && (ste key == ste me)
set_option maxRecDepth 20000 in
set_option maxHeartbeats 4000000 in
theorem ofs_any (me : Int) (up gone gate : Bool) (inc now sq turn : Int) (ta : Option Addr) (tl tc : Nat) (ca : Option Addr) (cl cc : Nat) (pn ps pq : Int) (pa : Bool) (da : Option Addr) (dl dc : Nat) (cx cy ch ce : Int) (pla : Option Addr) (pll plc : Nat) (oa : Option Addr) (ol oc : Nat) (key : Int) (w : World) :
    Calls Tryz.prog 167 #[.agg #[.int .i64 me, .bool up, .bool gone, .bool gate, .int .i64 inc, .int .i64 now, .int .i64 sq, .int .i64 turn, .slice ta tl tc, .slice ca cl cc, .int .i64 pn, .int .i64 ps, .int .i64 pq, .bool pa, .slice da dl dc, .int .i64 cx, .int .i64 cy, .int .i64 ch, .int .i64 ce, .slice pla pll plc, .slice oa ol oc], .int .i64 key] w fun r w' => r = .returned (.bool (ofB me key)) ∧ Below w.heap.size w w' := by
  have b0 := balloc (.cells #[.int .i64 me, .bool up, .bool gone, .bool gate, .int .i64 inc, .int .i64 now, .int .i64 sq, .int .i64 turn, .slice ta tl tc, .slice ca cl cc, .int .i64 pn, .int .i64 ps, .int .i64 pq, .bool pa, .slice da dl dc, .int .i64 cx, .int .i64 cy, .int .i64 ch, .int .i64 ce, .slice pla pll plc, .slice oa ol oc] 42) (Below.refl w.heap.size w)
  have X := Ws.box (w := w) #[.int .i64 me, .bool up, .bool gone, .bool gate, .int .i64 inc, .int .i64 now, .int .i64 sq, .int .i64 turn, .slice ta tl tc, .slice ca cl cc, .int .i64 pn, .int .i64 ps, .int .i64 pq, .bool pa, .slice da dl dc, .int .i64 cx, .int .i64 cy, .int .i64 ch, .int .i64 ce, .slice pla pll plc, .slice oa ol oc] 42
  go_enter Tryz.func167, Tryz.ntmps167
  go_upto_region 1 with fail
  generalize w.alloc (.cells #[.int .i64 me, .bool up, .bool gone, .bool gate, .int .i64 inc, .int .i64 now, .int .i64 sq, .int .i64 turn, .slice ta tl tc, .slice ca cl cc, .int .i64 pn, .int .i64 ps, .int .i64 pq, .bool pa, .slice da dl dc, .int .i64 cx, .int .i64 cy, .int .i64 ch, .int .i64 ce, .slice pla pll plc, .slice oa ol oc] 42) = u at *
  have q0 := X.range
  clear X
  have hq : Hid ((ste key == ste me) = (ste key == ste me)) := rfl
  cases z0 : inb key 0 7
  · have y0 : Hid (inb key 0 7 = false) := z0
    clear z0
    refine wp_region_held_drew (S := fun w' => w'.rangeAt w.heap.size 0 [.int .i64 me, .bool up, .bool gone, .bool gate, .int .i64 inc, .int .i64 now, .int .i64 sq, .int .i64 turn, .slice ta tl tc, .slice ca cl cc, .int .i64 pn, .int .i64 ps, .int .i64 pq, .bool pa, .slice da dl dc, .int .i64 cx, .int .i64 cy, .int .i64 ch, .int .i64 ce, .slice pla pll plc, .slice oa ol oc] ∧ Below w.heap.size w w') (by kernel_rfl) ?_ (fun hHeld => ?_)
    · (try dsimp only); (first | exact ⟨range_drew q0, b0.drew⟩ | exact ⟨range_below' hHeld.1 k3, btrans hHeld.2 k3⟩ | exact hHeld)
    refine tlQ (i := 0) (oi := { dst := some 5, op := .move (.tmp 1), type := 3, pos := "l21_node.go:165", after := #[], guard := none }) ?_; try simp only [putP]
    refine wpAnyH_ready (rs := [1]) (by kernel_rfl) (by simp) ?_
    refine AllReadyH.cons (o := { dst := some 6, op := .call { callee := .value (.func 149), args := #[.tmp 5], argTypes := #[3] }, type := 4, pos := "l21_node.go:165", after := #[{ on := 0, ground := .data }], guard := none }) rfl (fun K hK => ?_) AllReadyH.nil
    go_simp
    refine (nodeOk_lit key false y0.out _).mono ?_; rintro r w1 ⟨rfl, hw⟩; obtain rfl := hw.symm; clear hw
    go_wp2_with fail
    refine hK.out _ _ ?_ (fun hHeld => ?_)
    · (try dsimp only); (first | exact ⟨range_drew q0, b0.drew⟩ | exact ⟨range_below' hHeld.1 k3, btrans hHeld.2 k3⟩ | exact hHeld)
    clear hK K
    (try simp only [putP]); refine tlQ (i := 2) (oi := { dst := some 7, op := .move (.tmp 6), type := 4, pos := "l21_node.go:165", after := #[{ on := 1, ground := .data }, { on := 1, ground := .chain }], guard := none }) ?_; try simp only [putP]; refine tzQ (i := 3) (oi := { dst := some 8, op := .move (.tmp 1), type := 3, pos := "l21_node.go:165", after := #[{ on := 2, ground := .guard }], guard := some (2, true) }) ?_; try simp only [putP]; refine tzQ (i := 4) (oi := { dst := some 9, op := .call { callee := .value (.func 176), args := #[.tmp 8], argTypes := #[3] }, type := 3, pos := "l21_node.go:165", after := #[{ on := 3, ground := .data }, { on := 2, ground := .chain }, { on := 2, ground := .guard }], guard := some (2, true) }) ?_; try simp only [putP]; refine tzQ (i := 5) (oi := { dst := some 10, op := .load 42 (.tmp 2), type := 42, pos := "l21_node.go:165", after := #[{ on := 2, ground := .guard }], guard := some (2, true) }) ?_; try simp only [putP]; refine tzQ (i := 6) (oi := { dst := some 11, op := .call { callee := .value (.func 156), args := #[.tmp 10], argTypes := #[42] }, type := 3, pos := "l21_node.go:165", after := #[{ on := 5, ground := .data }, { on := 4, ground := .chain }, { on := 2, ground := .guard }], guard := some (2, true) }) ?_; try simp only [putP]; refine tzQ (i := 7) (oi := { dst := some 12, op := .binOp .eql 3 (.tmp 9) (.tmp 11) 3, type := 4, pos := "l21_node.go:165", after := #[{ on := 4, ground := .data }, { on := 6, ground := .data }, { on := 2, ground := .guard }], guard := some (2, true) }) ?_; try simp only [putP]; refine tlQ (i := 8) (oi := { dst := some 13, op := .pick (.tmp 7) (.tmp 12) (.const (.bool false)), type := 4, pos := "l21_node.go:165", after := #[{ on := 2, ground := .data }, { on := 7, ground := .data }], guard := none }) ?_; try simp only [putP]; refine tlQ (i := 9) (oi := { dst := some 4, op := .assign (.tmp 13), type := 4, pos := "l21_node.go:165", after := #[{ on := 8, ground := .data }, { on := 6, ground := .chain }, { on := 0, ground := .phase }, { on := 1, ground := .phase }, { on := 2, ground := .phase }, { on := 3, ground := .phase }, { on := 4, ground := .phase }, { on := 5, ground := .phase }, { on := 6, ground := .phase }, { on := 7, ground := .phase }, { on := 8, ground := .phase }], guard := none }) ?_; try simp only [putP]
    refine wpAnyH_done (by kernel_rfl) ?_ _
    go_wp2
    go_ret
    exact ⟨ret_bool (by unfold ofB; rw [y0.out]; rfl), hHeld.2⟩
  · have y0 : Hid (inb key 0 7 = true) := z0
    clear z0
    refine wp_region_held_drew (S := fun w' => w'.rangeAt w.heap.size 0 [.int .i64 me, .bool up, .bool gone, .bool gate, .int .i64 inc, .int .i64 now, .int .i64 sq, .int .i64 turn, .slice ta tl tc, .slice ca cl cc, .int .i64 pn, .int .i64 ps, .int .i64 pq, .bool pa, .slice da dl dc, .int .i64 cx, .int .i64 cy, .int .i64 ch, .int .i64 ce, .slice pla pll plc, .slice oa ol oc] ∧ Below w.heap.size w w') (by kernel_rfl) ?_ (fun hHeld => ?_)
    · (try dsimp only); (first | exact ⟨range_drew q0, b0.drew⟩ | exact ⟨range_below' hHeld.1 k3, btrans hHeld.2 k3⟩ | exact hHeld)
    refine tlQ (i := 0) (oi := { dst := some 5, op := .move (.tmp 1), type := 3, pos := "l21_node.go:165", after := #[], guard := none }) ?_; try simp only [putP]
    refine wpAnyH_ready (rs := [1]) (by kernel_rfl) (by simp) ?_
    refine AllReadyH.cons (o := { dst := some 6, op := .call { callee := .value (.func 149), args := #[.tmp 5], argTypes := #[3] }, type := 4, pos := "l21_node.go:165", after := #[{ on := 0, ground := .data }], guard := none }) rfl (fun K hK => ?_) AllReadyH.nil
    go_simp
    refine (nodeOk_lit key true y0.out _).mono ?_; rintro r w1 ⟨rfl, hw⟩; obtain rfl := hw.symm; clear hw
    go_wp2_with fail
    refine hK.out _ _ ?_ (fun hHeld => ?_)
    · (try dsimp only); (first | exact ⟨range_drew q0, b0.drew⟩ | exact ⟨range_below' hHeld.1 k3, btrans hHeld.2 k3⟩ | exact hHeld)
    clear hK K
    (try simp only [putP]); refine tlQ (i := 2) (oi := { dst := some 7, op := .move (.tmp 6), type := 4, pos := "l21_node.go:165", after := #[{ on := 1, ground := .data }, { on := 1, ground := .chain }], guard := none }) ?_; try simp only [putP]; refine tlQ (i := 3) (oi := { dst := some 8, op := .move (.tmp 1), type := 3, pos := "l21_node.go:165", after := #[{ on := 2, ground := .guard }], guard := some (2, true) }) ?_; try simp only [putP]
    refine wpAnyH_take (i := 5) (oi := { dst := some 10, op := .load 42 (.tmp 2), type := 42, pos := "l21_node.go:165", after := #[{ on := 2, ground := .guard }], guard := some (2, true) }) (v := .agg #[.int .i64 me, .bool up, .bool gone, .bool gate, .int .i64 inc, .int .i64 now, .int .i64 sq, .int .i64 turn, .slice ta tl tc, .slice ca cl cc, .int .i64 pn, .int .i64 ps, .int .i64 pq, .bool pa, .slice da dl dc, .int .i64 cx, .int .i64 cy, .int .i64 ch, .int .i64 ce, .slice pla pll plc, .slice oa ol oc]) rfl (by kernel_rfl) (by kernel_rfl) (by kernel_rfl) (fun _ _ _ h => h) (load43 (by rfl) (.tmp 2) rfl w.heap.size rfl [.int .i64 me, .bool up, .bool gone, .bool gate, .int .i64 inc, .int .i64 now, .int .i64 sq, .int .i64 turn, .slice ta tl tc, .slice ca cl cc, .int .i64 pn, .int .i64 ps, .int .i64 pq, .bool pa, .slice da dl dc, .int .i64 cx, .int .i64 cy, .int .i64 ch, .int .i64 ce, .slice pla pll plc, .slice oa ol oc] (fun w hSw => hSw.1) rfl) (by assumption) ?_
    (try simp only [putP])
    refine wpAnyH_ready (rs := [4]) (by kernel_rfl) (by simp) ?_
    refine AllReadyH.cons (o := { dst := some 9, op := .call { callee := .value (.func 176), args := #[.tmp 8], argTypes := #[3] }, type := 3, pos := "l21_node.go:165", after := #[{ on := 3, ground := .data }, { on := 2, ground := .chain }, { on := 2, ground := .guard }], guard := some (2, true) }) rfl (fun K hK => ?_) AllReadyH.nil
    go_simp
    refine (siteOf_any key _).mono ?_; rintro r w2 ⟨rfl, hw⟩; obtain rfl := hw.symm; clear hw
    go_wp2_with fail
    refine hK.out _ _ ?_ (fun hHeld => ?_)
    · (try dsimp only); (first | exact ⟨range_drew q0, b0.drew⟩ | exact ⟨range_below' hHeld.1 k3, btrans hHeld.2 k3⟩ | exact hHeld)
    clear hK K
    (try simp only [putP])
    refine wpAnyH_ready (rs := [6]) (by kernel_rfl) (by simp) ?_
    refine AllReadyH.cons (o := { dst := some 11, op := .call { callee := .value (.func 156), args := #[.tmp 10], argTypes := #[42] }, type := 3, pos := "l21_node.go:165", after := #[{ on := 5, ground := .data }, { on := 4, ground := .chain }, { on := 2, ground := .guard }], guard := some (2, true) }) rfl (fun K hK => ?_) AllReadyH.nil
    go_simp
    refine (site_any me up gone gate inc now sq turn ta tl tc ca cl cc pn ps pq pa da dl dc cx cy ch ce pla pll plc oa ol oc _).mono ?_; rintro r w3 ⟨rfl, k3⟩
    go_wp2_with fail
    refine hK.out _ _ ?_ (fun hHeld => ?_)
    · (try dsimp only); (first | exact ⟨range_drew q0, b0.drew⟩ | exact ⟨range_below' hHeld.1 k3, btrans hHeld.2 k3⟩ | exact hHeld)
    clear hK K
    (try simp only [putP]); refine tlQ (i := 7) (oi := { dst := some 12, op := .binOp .eql 3 (.tmp 9) (.tmp 11) 3, type := 4, pos := "l21_node.go:165", after := #[{ on := 4, ground := .data }, { on := 6, ground := .data }, { on := 2, ground := .guard }], guard := some (2, true) }) ?_; try simp only [putP]; refine tlQ (i := 8) (oi := { dst := some 13, op := .pick (.tmp 7) (.tmp 12) (.const (.bool false)), type := 4, pos := "l21_node.go:165", after := #[{ on := 2, ground := .data }, { on := 7, ground := .data }], guard := none }) ?_; try simp only [putP]; refine tlQ (i := 9) (oi := { dst := some 4, op := .assign (.tmp 13), type := 4, pos := "l21_node.go:165", after := #[{ on := 8, ground := .data }, { on := 6, ground := .chain }, { on := 0, ground := .phase }, { on := 1, ground := .phase }, { on := 2, ground := .phase }, { on := 3, ground := .phase }, { on := 4, ground := .phase }, { on := 5, ground := .phase }, { on := 6, ground := .phase }, { on := 7, ground := .phase }, { on := 8, ground := .phase }], guard := none }) ?_; try simp only [putP]
    refine wpAnyH_done (by kernel_rfl) ?_ _
    go_wp2
    go_ret
    exact ⟨ret_bool (by unfold ofB; rw [y0.out]; rfl), hHeld.2⟩
end Go.Proofs.YtgcdcfjaeehnbaaGreat
