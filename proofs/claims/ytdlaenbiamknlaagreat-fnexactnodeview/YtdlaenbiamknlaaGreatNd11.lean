/- Nodes: what they know of other sites. -/
import Derived.Test.YtdlaenbiamknlaaGreatNd10
namespace Go.Proofs.YtdlaenbiamknlaaGreat
open Go.ChangeShapes Go.WideShapes Go.ChangeAt Go.RowKit
attribute [local go_sem ↓] Go.wp_at_zero Go.wp_at_succ
theorem siteOf_lit (w : World) : Calls Tryz.prog 146 #[.int .i64 7] w fun r w' => r = .returned (.int .i64 1) ∧ w' = w := by
  have e : ste 7 = 1 := by simp [ste, wrap64]
  exact e ▸ siteOf_any 7 w
/-- what is known of another site is ok -/
def othB (me n : Int) (bl : Nat) (bf : Nat → Fc) : Bool := inb n 0 1 && decide (n ≠ ste me) && decide (0 < bl) && tokB bl bf && sitB bl bf n
set_option maxRecDepth 20000 in
set_option maxHeartbeats 4000000 in
theorem oth_any (n : Int) (ba : Option Addr) (bl bc : Nat) (bf : Nat → Fc) (nb : Nat) (me : Int) (up gone gate : Bool) (inc now sq turn : Int) (ta : Option Addr) (tl tc : Nat) (ca : Option Addr) (cl cc : Nat) (pn ps pq : Int) (pa : Bool) (da : Option Addr) (dl dc : Nat) (cx cy ch ce : Int) (pla : Option Addr) (pll plc : Nat) (oa : Option Addr) (ol oc : Nat) (w : World) (hN : w.rangeAt nb 0 [.int .i64 me, .bool up, .bool gone, .bool gate, .int .i64 inc, .int .i64 now, .int .i64 sq, .int .i64 turn, .slice ta tl tc, .slice ca cl cc, .int .i64 pn, .int .i64 ps, .int .i64 pq, .bool pa, .slice da dl dc, .int .i64 cx, .int .i64 cy, .int .i64 ch, .int .i64 ce, .slice pla pll plc, .slice oa ol oc]) (hB : FSl w ba bl bf) (hbl : bl ≤ 1048576) :
    Calls Tryz.prog 145 #[.agg #[.int .i64 n, .slice ba bl bc], .pointer (some ⟨nb, 0, none⟩)] w fun r w' => r = .returned (.bool (othB me n bl bf)) ∧ Below w.heap.size w w' := by
  have b0 := balloc (.cells #[.int .i64 n, .slice ba bl bc] 103) (Below.refl w.heap.size w)
  have X := Ws.box (w := w) #[.int .i64 n, .slice ba bl bc] 103
  have q0 := range_below' hN b0
  have hst : Hid (othB me n bl bf = (inb n 0 1 && decide (n ≠ ste me) && decide (0 < bl) && tokB bl bf && sitB bl bf n)) := rfl
  obtain ⟨sm, hsm⟩ : ∃ sm, Hid (ste me = sm) := ⟨_, rfl⟩
  go_enter Tryz.func145, Tryz.ntmps145
  go_upto_region 1 with fail
  generalize w.alloc (.cells #[.int .i64 n, .slice ba bl bc] 103) = u at *
  have q1 := X.c 0 (.int .i64 n) rfl
  have q2 := X.c 1 (.slice ba bl bc) rfl
  have q3 := hB.below b0
  have q4 := b0
  clear X b0 hB hN
  cases z1 : inb n 0 1
  · have y1 : Hid (inb n 0 1 = false) := z1
    clear z1
    refine wp_region_held_drew (S := (fun w' => w'.rangeAt nb 0 [.int .i64 me, .bool up, .bool gone, .bool gate, .int .i64 inc, .int .i64 now, .int .i64 sq, .int .i64 turn, .slice ta tl tc, .slice ca cl cc, .int .i64 pn, .int .i64 ps, .int .i64 pq, .bool pa, .slice da dl dc, .int .i64 cx, .int .i64 cy, .int .i64 ch, .int .i64 ce, .slice pla pll plc, .slice oa ol oc] ∧ w'.cell? ⟨w.heap.size, 0, none⟩ = some (.int .i64 n) ∧ w'.cell? ⟨w.heap.size, 1, none⟩ = some (.slice ba bl bc) ∧ FSl w' ba bl bf ∧ Below w.heap.size w w')) (by kernel_rfl) ?_ (fun hHeld => ?_)
    · (try dsimp only); exact ⟨range_drew q0, keep_drew q1, keep_drew q2, q3.below (Below.refl _ _).drew, q4.drew⟩
    refine tlQ (i := 0) (oi := { dst := some 4, op := .fieldAddr 103 (.tmp 2) 0, type := 0, pos := "l21_node.go:253", after := #[], guard := none }) ?_; try simp only [putP]; refine tlQ (i := 1) (oi := { dst := some 5, op := .load 3 (.tmp 4), type := 3, pos := "l21_node.go:253", after := #[{ on := 0, ground := .data }], guard := none }) ?_; try simp only [putP]
    refine wpAnyH_ready (rs := [2]) (by kernel_rfl) (by simp) ?_
    refine AllReadyH.cons (o := { dst := some 6, op := .call { callee := .value (.func 146), args := #[.const (.int .i64 7)], argTypes := #[3] }, type := 3, pos := "l21_node.go:253", after := #[], guard := none }) rfl (fun K hK => ?_) AllReadyH.nil
    go_simp
    refine (siteOf_lit _).mono ?_; rintro r w1 ⟨rfl, hw⟩; obtain rfl := hw.symm; clear hw
    go_wp2_with fail
    refine hK.out _ _ ?_ (fun hHeld => ?_)
    · (try dsimp only); exact hHeld
    clear hK K
    (try simp only [putP])
    refine wpAnyH_ready (rs := [3]) (by kernel_rfl) (by simp) ?_
    refine AllReadyH.cons (o := { dst := some 7, op := .call { callee := .value (.func 121), args := #[.tmp 5, .const (.int .i64 0), .tmp 6], argTypes := #[3, 3, 3] }, type := 4, pos := "l21_node.go:253", after := #[{ on := 1, ground := .data }, { on := 2, ground := .data }, { on := 2, ground := .chain }], guard := none }) rfl (fun K hK => ?_) AllReadyH.nil
    go_simp
    refine (within_lit n 0 1 false y1.out _).mono ?_; rintro r w2 ⟨rfl, hw⟩; obtain rfl := hw.symm; clear hw
    go_wp2_with fail
    refine hK.out _ _ ?_ (fun hHeld => ?_)
    · (try dsimp only); exact hHeld
    clear hK K
    (try simp only [putP]); refine tlQ (i := 4) (oi := { dst := some 8, op := .move (.tmp 7), type := 4, pos := "l21_node.go:253", after := #[{ on := 3, ground := .data }, { on := 3, ground := .chain }], guard := none }) ?_; try simp only [putP]; refine tzQ (i := 5) (oi := { dst := some 9, op := .fieldAddr 103 (.tmp 2) 0, type := 0, pos := "l21_node.go:253", after := #[{ on := 4, ground := .guard }], guard := some (4, true) }) ?_; try simp only [putP]; refine tzQ (i := 6) (oi := { dst := some 10, op := .load 3 (.tmp 9), type := 3, pos := "l21_node.go:253", after := #[{ on := 5, ground := .data }, { on := 4, ground := .guard }], guard := some (4, true) }) ?_; try simp only [putP]; refine tzQ (i := 7) (oi := { dst := some 11, op := .load 42 (.tmp 1), type := 42, pos := "l21_node.go:253", after := #[{ on := 4, ground := .guard }], guard := some (4, true) }) ?_; try simp only [putP]; refine tzQ (i := 8) (oi := { dst := some 12, op := .call { callee := .value (.func 126), args := #[.tmp 11], argTypes := #[42] }, type := 3, pos := "l21_node.go:253", after := #[{ on := 7, ground := .data }, { on := 4, ground := .chain }, { on := 4, ground := .guard }], guard := some (4, true) }) ?_; try simp only [putP]; refine tzQ (i := 9) (oi := { dst := some 13, op := .binOp .neq 3 (.tmp 10) (.tmp 12) 3, type := 4, pos := "l21_node.go:253", after := #[{ on := 6, ground := .data }, { on := 8, ground := .data }, { on := 4, ground := .guard }], guard := some (4, true) }) ?_; try simp only [putP]; refine tlQ (i := 10) (oi := { dst := some 14, op := .pick (.tmp 8) (.tmp 13) (.const (.bool false)), type := 4, pos := "l21_node.go:253", after := #[{ on := 4, ground := .data }, { on := 9, ground := .data }], guard := none }) ?_; try simp only [putP]; refine tlQ (i := 11) (oi := { dst := some 15, op := .move (.tmp 14), type := 4, pos := "l21_node.go:253", after := #[{ on := 10, ground := .data }, { on := 8, ground := .chain }], guard := none }) ?_; try simp only [putP]; refine tzQ (i := 12) (oi := { dst := some 16, op := .fieldAddr 103 (.tmp 2) 1, type := 0, pos := "l21_node.go:253", after := #[{ on := 11, ground := .guard }], guard := some (11, true) }) ?_; try simp only [putP]; refine tzQ (i := 13) (oi := { dst := some 17, op := .load 34 (.tmp 16), type := 34, pos := "l21_node.go:253", after := #[{ on := 12, ground := .data }, { on := 11, ground := .guard }], guard := some (11, true) }) ?_; try simp only [putP]; refine tzQ (i := 14) (oi := { dst := some 18, op := .call { callee := .builtin .len, args := #[.tmp 17], argTypes := #[34] }, type := 3, pos := "l21_node.go:253", after := #[{ on := 13, ground := .data }, { on := 11, ground := .guard }], guard := some (11, true) }) ?_; try simp only [putP]; refine tzQ (i := 15) (oi := { dst := some 19, op := .binOp .gtr 3 (.tmp 18) (.const (.int .i64 0)) 3, type := 4, pos := "l21_node.go:253", after := #[{ on := 14, ground := .data }, { on := 11, ground := .guard }], guard := some (11, true) }) ?_; try simp only [putP]; refine tlQ (i := 16) (oi := { dst := some 20, op := .pick (.tmp 15) (.tmp 19) (.const (.bool false)), type := 4, pos := "l21_node.go:253", after := #[{ on := 11, ground := .data }, { on := 15, ground := .data }], guard := none }) ?_; try simp only [putP]; refine tlQ (i := 17) (oi := { dst := some 21, op := .move (.tmp 20), type := 4, pos := "l21_node.go:253", after := #[{ on := 16, ground := .data }, { on := 11, ground := .chain }], guard := none }) ?_; try simp only [putP]; refine tzQ (i := 18) (oi := { dst := some 22, op := .fieldAddr 103 (.tmp 2) 1, type := 0, pos := "l21_node.go:253", after := #[{ on := 17, ground := .guard }], guard := some (17, true) }) ?_; try simp only [putP]; refine tzQ (i := 19) (oi := { dst := some 23, op := .load 34 (.tmp 22), type := 34, pos := "l21_node.go:253", after := #[{ on := 18, ground := .data }, { on := 17, ground := .guard }], guard := some (17, true) }) ?_; try simp only [putP]; refine tzQ (i := 20) (oi := { dst := some 24, op := .call { callee := .value (.func 112), args := #[.tmp 23], argTypes := #[34] }, type := 4, pos := "l21_node.go:254", after := #[{ on := 19, ground := .data }, { on := 17, ground := .chain }, { on := 17, ground := .guard }], guard := some (17, true) }) ?_; try simp only [putP]; refine tlQ (i := 21) (oi := { dst := some 25, op := .pick (.tmp 21) (.tmp 24) (.const (.bool false)), type := 4, pos := "l21_node.go:253", after := #[{ on := 17, ground := .data }, { on := 20, ground := .data }], guard := none }) ?_; try simp only [putP]; refine tlQ (i := 22) (oi := { dst := some 26, op := .move (.tmp 25), type := 4, pos := "l21_node.go:253", after := #[{ on := 21, ground := .data }, { on := 20, ground := .chain }], guard := none }) ?_; try simp only [putP]; refine tzQ (i := 23) (oi := { dst := some 27, op := .fieldAddr 103 (.tmp 2) 1, type := 0, pos := "l21_node.go:253", after := #[{ on := 22, ground := .guard }], guard := some (22, true) }) ?_; try simp only [putP]; refine tzQ (i := 24) (oi := { dst := some 28, op := .load 34 (.tmp 27), type := 34, pos := "l21_node.go:253", after := #[{ on := 23, ground := .data }, { on := 22, ground := .guard }], guard := some (22, true) }) ?_; try simp only [putP]; refine tzQ (i := 25) (oi := { dst := some 29, op := .fieldAddr 103 (.tmp 2) 0, type := 0, pos := "l21_node.go:253", after := #[{ on := 22, ground := .guard }], guard := some (22, true) }) ?_; try simp only [putP]; refine tzQ (i := 26) (oi := { dst := some 30, op := .load 3 (.tmp 29), type := 3, pos := "l21_node.go:253", after := #[{ on := 25, ground := .data }, { on := 22, ground := .guard }], guard := some (22, true) }) ?_; try simp only [putP]; refine tzQ (i := 27) (oi := { dst := some 31, op := .call { callee := .value (.func 125), args := #[.tmp 28, .tmp 30], argTypes := #[34, 3] }, type := 4, pos := "l21_node.go:254", after := #[{ on := 24, ground := .data }, { on := 26, ground := .data }, { on := 22, ground := .chain }, { on := 22, ground := .guard }], guard := some (22, true) }) ?_; try simp only [putP]; refine tlQ (i := 28) (oi := { dst := some 32, op := .pick (.tmp 26) (.tmp 31) (.const (.bool false)), type := 4, pos := "l21_node.go:253", after := #[{ on := 22, ground := .data }, { on := 27, ground := .data }], guard := none }) ?_; try simp only [putP]; refine tlQ (i := 29) (oi := { dst := some 3, op := .assign (.tmp 32), type := 4, pos := "l21_node.go:253", after := #[{ on := 28, ground := .data }, { on := 27, ground := .chain }, { on := 0, ground := .phase }, { on := 1, ground := .phase }, { on := 2, ground := .phase }, { on := 3, ground := .phase }, { on := 4, ground := .phase }, { on := 5, ground := .phase }, { on := 6, ground := .phase }, { on := 7, ground := .phase }, { on := 8, ground := .phase }, { on := 9, ground := .phase }, { on := 10, ground := .phase }, { on := 11, ground := .phase }, { on := 12, ground := .phase }, { on := 13, ground := .phase }, { on := 14, ground := .phase }, { on := 15, ground := .phase }, { on := 16, ground := .phase }, { on := 17, ground := .phase }, { on := 18, ground := .phase }, { on := 19, ground := .phase }, { on := 20, ground := .phase }, { on := 21, ground := .phase }, { on := 22, ground := .phase }, { on := 23, ground := .phase }, { on := 24, ground := .phase }, { on := 25, ground := .phase }, { on := 26, ground := .phase }, { on := 27, ground := .phase }, { on := 28, ground := .phase }], guard := none }) ?_; try simp only [putP]
    refine wpAnyH_done (by kernel_rfl) ?_ _
    go_wp2
    go_ret
    exact ⟨ret_bool (by rw [hst.out, y1.out]; rfl), hHeld.2.2.2.2⟩
  · have y1 : Hid (inb n 0 1 = true) := z1
    clear z1
    by_cases e0 : n = sm
    · subst e0
      refine wp_region_held_drew (S := (fun w' => w'.rangeAt nb 0 [.int .i64 me, .bool up, .bool gone, .bool gate, .int .i64 inc, .int .i64 now, .int .i64 sq, .int .i64 turn, .slice ta tl tc, .slice ca cl cc, .int .i64 pn, .int .i64 ps, .int .i64 pq, .bool pa, .slice da dl dc, .int .i64 cx, .int .i64 cy, .int .i64 ch, .int .i64 ce, .slice pla pll plc, .slice oa ol oc] ∧ w'.cell? ⟨w.heap.size, 0, none⟩ = some (.int .i64 n) ∧ w'.cell? ⟨w.heap.size, 1, none⟩ = some (.slice ba bl bc) ∧ FSl w' ba bl bf ∧ Below w.heap.size w w')) (by kernel_rfl) ?_ (fun hHeld => ?_)
      · (try dsimp only); exact ⟨range_drew q0, keep_drew q1, keep_drew q2, q3.below (Below.refl _ _).drew, q4.drew⟩
      refine tlQ (i := 0) (oi := { dst := some 4, op := .fieldAddr 103 (.tmp 2) 0, type := 0, pos := "l21_node.go:253", after := #[], guard := none }) ?_; try simp only [putP]; refine tlQ (i := 1) (oi := { dst := some 5, op := .load 3 (.tmp 4), type := 3, pos := "l21_node.go:253", after := #[{ on := 0, ground := .data }], guard := none }) ?_; try simp only [putP]
      refine wpAnyH_ready (rs := [2]) (by kernel_rfl) (by simp) ?_
      refine AllReadyH.cons (o := { dst := some 6, op := .call { callee := .value (.func 146), args := #[.const (.int .i64 7)], argTypes := #[3] }, type := 3, pos := "l21_node.go:253", after := #[], guard := none }) rfl (fun K hK => ?_) AllReadyH.nil
      go_simp
      refine (siteOf_lit _).mono ?_; rintro r w1 ⟨rfl, hw⟩; obtain rfl := hw.symm; clear hw
      go_wp2_with fail
      refine hK.out _ _ ?_ (fun hHeld => ?_)
      · (try dsimp only); exact hHeld
      clear hK K
      (try simp only [putP])
      refine wpAnyH_ready (rs := [3]) (by kernel_rfl) (by simp) ?_
      refine AllReadyH.cons (o := { dst := some 7, op := .call { callee := .value (.func 121), args := #[.tmp 5, .const (.int .i64 0), .tmp 6], argTypes := #[3, 3, 3] }, type := 4, pos := "l21_node.go:253", after := #[{ on := 1, ground := .data }, { on := 2, ground := .data }, { on := 2, ground := .chain }], guard := none }) rfl (fun K hK => ?_) AllReadyH.nil
      go_simp
      refine (within_lit n 0 1 true y1.out _).mono ?_; rintro r w2 ⟨rfl, hw⟩; obtain rfl := hw.symm; clear hw
      go_wp2_with fail
      refine hK.out _ _ ?_ (fun hHeld => ?_)
      · (try dsimp only); exact hHeld
      clear hK K
      (try simp only [putP]); refine tlQ (i := 4) (oi := { dst := some 8, op := .move (.tmp 7), type := 4, pos := "l21_node.go:253", after := #[{ on := 3, ground := .data }, { on := 3, ground := .chain }], guard := none }) ?_; try simp only [putP]; refine tlQ (i := 5) (oi := { dst := some 9, op := .fieldAddr 103 (.tmp 2) 0, type := 0, pos := "l21_node.go:253", after := #[{ on := 4, ground := .guard }], guard := some (4, true) }) ?_; try simp only [putP]; refine tlQ (i := 6) (oi := { dst := some 10, op := .load 3 (.tmp 9), type := 3, pos := "l21_node.go:253", after := #[{ on := 5, ground := .data }, { on := 4, ground := .guard }], guard := some (4, true) }) ?_; try simp only [putP]
      refine wpAnyH_take (i := 7) (oi := { dst := some 11, op := .load 42 (.tmp 1), type := 42, pos := "l21_node.go:253", after := #[{ on := 4, ground := .guard }], guard := some (4, true) }) (v := .agg #[.int .i64 me, .bool up, .bool gone, .bool gate, .int .i64 inc, .int .i64 now, .int .i64 sq, .int .i64 turn, .slice ta tl tc, .slice ca cl cc, .int .i64 pn, .int .i64 ps, .int .i64 pq, .bool pa, .slice da dl dc, .int .i64 cx, .int .i64 cy, .int .i64 ch, .int .i64 ce, .slice pla pll plc, .slice oa ol oc]) rfl (by kernel_rfl) (by kernel_rfl) (by kernel_rfl) (fun _ _ _ h => h) (load43 (by rfl) (.tmp 1) rfl nb rfl [.int .i64 me, .bool up, .bool gone, .bool gate, .int .i64 inc, .int .i64 now, .int .i64 sq, .int .i64 turn, .slice ta tl tc, .slice ca cl cc, .int .i64 pn, .int .i64 ps, .int .i64 pq, .bool pa, .slice da dl dc, .int .i64 cx, .int .i64 cy, .int .i64 ch, .int .i64 ce, .slice pla pll plc, .slice oa ol oc] (fun w hSw => hSw.1) rfl) (by assumption) ?_
      (try simp only [putP])
      refine wpAnyH_ready (rs := [8]) (by kernel_rfl) (by simp) ?_
      refine AllReadyH.cons (o := { dst := some 12, op := .call { callee := .value (.func 126), args := #[.tmp 11], argTypes := #[42] }, type := 3, pos := "l21_node.go:253", after := #[{ on := 7, ground := .data }, { on := 4, ground := .chain }, { on := 4, ground := .guard }], guard := some (4, true) }) rfl (fun K hK => ?_) AllReadyH.nil
      go_simp
      refine (site_any me up gone gate inc now sq turn ta tl tc ca cl cc pn ps pq pa da dl dc cx cy ch ce pla pll plc oa ol oc _).mono ?_; rintro r w3 ⟨rfl, k3⟩; rw [hsm.out]
      go_wp2_with fail
      refine hK.out _ _ ?_ (fun hHeld => ?_)
      · (try dsimp only); exact ⟨range_below' hHeld.1 k3, keep_below k3 hHeld.2.1, keep_below k3 hHeld.2.2.1, hHeld.2.2.2.1.below k3, btrans hHeld.2.2.2.2 k3⟩
      clear hK K
      (try simp only [putP])
      refine tkQ (i := 9) (oi := { dst := some 13, op := .binOp .neq 3 (.tmp 10) (.tmp 12) 3, type := 4, pos := "l21_node.go:253", after := #[{ on := 6, ground := .data }, { on := 8, ground := .data }, { on := 4, ground := .guard }], guard := some (4, true) }) (v := .bool false) ?_ ?_
      · (intro w hSw; (try dsimp only at hSw); go_simp; all_goals (first | with_reducible rfl | assumption | (simp; done) | (simp; omega)))
      (try simp only [putP]); refine tlQ (i := 10) (oi := { dst := some 14, op := .pick (.tmp 8) (.tmp 13) (.const (.bool false)), type := 4, pos := "l21_node.go:253", after := #[{ on := 4, ground := .data }, { on := 9, ground := .data }], guard := none }) ?_; try simp only [putP]; refine tlQ (i := 11) (oi := { dst := some 15, op := .move (.tmp 14), type := 4, pos := "l21_node.go:253", after := #[{ on := 10, ground := .data }, { on := 8, ground := .chain }], guard := none }) ?_; try simp only [putP]; refine tzQ (i := 12) (oi := { dst := some 16, op := .fieldAddr 103 (.tmp 2) 1, type := 0, pos := "l21_node.go:253", after := #[{ on := 11, ground := .guard }], guard := some (11, true) }) ?_; try simp only [putP]; refine tzQ (i := 13) (oi := { dst := some 17, op := .load 34 (.tmp 16), type := 34, pos := "l21_node.go:253", after := #[{ on := 12, ground := .data }, { on := 11, ground := .guard }], guard := some (11, true) }) ?_; try simp only [putP]; refine tzQ (i := 14) (oi := { dst := some 18, op := .call { callee := .builtin .len, args := #[.tmp 17], argTypes := #[34] }, type := 3, pos := "l21_node.go:253", after := #[{ on := 13, ground := .data }, { on := 11, ground := .guard }], guard := some (11, true) }) ?_; try simp only [putP]; refine tzQ (i := 15) (oi := { dst := some 19, op := .binOp .gtr 3 (.tmp 18) (.const (.int .i64 0)) 3, type := 4, pos := "l21_node.go:253", after := #[{ on := 14, ground := .data }, { on := 11, ground := .guard }], guard := some (11, true) }) ?_; try simp only [putP]; refine tlQ (i := 16) (oi := { dst := some 20, op := .pick (.tmp 15) (.tmp 19) (.const (.bool false)), type := 4, pos := "l21_node.go:253", after := #[{ on := 11, ground := .data }, { on := 15, ground := .data }], guard := none }) ?_; try simp only [putP]; refine tlQ (i := 17) (oi := { dst := some 21, op := .move (.tmp 20), type := 4, pos := "l21_node.go:253", after := #[{ on := 16, ground := .data }, { on := 11, ground := .chain }], guard := none }) ?_; try simp only [putP]; refine tzQ (i := 18) (oi := { dst := some 22, op := .fieldAddr 103 (.tmp 2) 1, type := 0, pos := "l21_node.go:253", after := #[{ on := 17, ground := .guard }], guard := some (17, true) }) ?_; try simp only [putP]; refine tzQ (i := 19) (oi := { dst := some 23, op := .load 34 (.tmp 22), type := 34, pos := "l21_node.go:253", after := #[{ on := 18, ground := .data }, { on := 17, ground := .guard }], guard := some (17, true) }) ?_; try simp only [putP]; refine tzQ (i := 20) (oi := { dst := some 24, op := .call { callee := .value (.func 112), args := #[.tmp 23], argTypes := #[34] }, type := 4, pos := "l21_node.go:254", after := #[{ on := 19, ground := .data }, { on := 17, ground := .chain }, { on := 17, ground := .guard }], guard := some (17, true) }) ?_; try simp only [putP]; refine tlQ (i := 21) (oi := { dst := some 25, op := .pick (.tmp 21) (.tmp 24) (.const (.bool false)), type := 4, pos := "l21_node.go:253", after := #[{ on := 17, ground := .data }, { on := 20, ground := .data }], guard := none }) ?_; try simp only [putP]; refine tlQ (i := 22) (oi := { dst := some 26, op := .move (.tmp 25), type := 4, pos := "l21_node.go:253", after := #[{ on := 21, ground := .data }, { on := 20, ground := .chain }], guard := none }) ?_; try simp only [putP]; refine tzQ (i := 23) (oi := { dst := some 27, op := .fieldAddr 103 (.tmp 2) 1, type := 0, pos := "l21_node.go:253", after := #[{ on := 22, ground := .guard }], guard := some (22, true) }) ?_; try simp only [putP]; refine tzQ (i := 24) (oi := { dst := some 28, op := .load 34 (.tmp 27), type := 34, pos := "l21_node.go:253", after := #[{ on := 23, ground := .data }, { on := 22, ground := .guard }], guard := some (22, true) }) ?_; try simp only [putP]; refine tzQ (i := 25) (oi := { dst := some 29, op := .fieldAddr 103 (.tmp 2) 0, type := 0, pos := "l21_node.go:253", after := #[{ on := 22, ground := .guard }], guard := some (22, true) }) ?_; try simp only [putP]; refine tzQ (i := 26) (oi := { dst := some 30, op := .load 3 (.tmp 29), type := 3, pos := "l21_node.go:253", after := #[{ on := 25, ground := .data }, { on := 22, ground := .guard }], guard := some (22, true) }) ?_; try simp only [putP]; refine tzQ (i := 27) (oi := { dst := some 31, op := .call { callee := .value (.func 125), args := #[.tmp 28, .tmp 30], argTypes := #[34, 3] }, type := 4, pos := "l21_node.go:254", after := #[{ on := 24, ground := .data }, { on := 26, ground := .data }, { on := 22, ground := .chain }, { on := 22, ground := .guard }], guard := some (22, true) }) ?_; try simp only [putP]; refine tlQ (i := 28) (oi := { dst := some 32, op := .pick (.tmp 26) (.tmp 31) (.const (.bool false)), type := 4, pos := "l21_node.go:253", after := #[{ on := 22, ground := .data }, { on := 27, ground := .data }], guard := none }) ?_; try simp only [putP]; refine tlQ (i := 29) (oi := { dst := some 3, op := .assign (.tmp 32), type := 4, pos := "l21_node.go:253", after := #[{ on := 28, ground := .data }, { on := 27, ground := .chain }, { on := 0, ground := .phase }, { on := 1, ground := .phase }, { on := 2, ground := .phase }, { on := 3, ground := .phase }, { on := 4, ground := .phase }, { on := 5, ground := .phase }, { on := 6, ground := .phase }, { on := 7, ground := .phase }, { on := 8, ground := .phase }, { on := 9, ground := .phase }, { on := 10, ground := .phase }, { on := 11, ground := .phase }, { on := 12, ground := .phase }, { on := 13, ground := .phase }, { on := 14, ground := .phase }, { on := 15, ground := .phase }, { on := 16, ground := .phase }, { on := 17, ground := .phase }, { on := 18, ground := .phase }, { on := 19, ground := .phase }, { on := 20, ground := .phase }, { on := 21, ground := .phase }, { on := 22, ground := .phase }, { on := 23, ground := .phase }, { on := 24, ground := .phase }, { on := 25, ground := .phase }, { on := 26, ground := .phase }, { on := 27, ground := .phase }, { on := 28, ground := .phase }], guard := none }) ?_; try simp only [putP]
      refine wpAnyH_done (by kernel_rfl) ?_ _
      go_wp2
      go_ret
      exact ⟨ret_bool (by rw [hst.out, y1.out, hsm.out]; simp), hHeld.2.2.2.2⟩
    · have e1 : (n != sm) = true := by simpa using e0
      by_cases e2 : bl = 0
      · have e3 : ¬ 0 < bl := by omega
        refine wp_region_held_drew (S := (fun w' => w'.rangeAt nb 0 [.int .i64 me, .bool up, .bool gone, .bool gate, .int .i64 inc, .int .i64 now, .int .i64 sq, .int .i64 turn, .slice ta tl tc, .slice ca cl cc, .int .i64 pn, .int .i64 ps, .int .i64 pq, .bool pa, .slice da dl dc, .int .i64 cx, .int .i64 cy, .int .i64 ch, .int .i64 ce, .slice pla pll plc, .slice oa ol oc] ∧ w'.cell? ⟨w.heap.size, 0, none⟩ = some (.int .i64 n) ∧ w'.cell? ⟨w.heap.size, 1, none⟩ = some (.slice ba bl bc) ∧ FSl w' ba bl bf ∧ Below w.heap.size w w')) (by kernel_rfl) ?_ (fun hHeld => ?_)
        · (try dsimp only); exact ⟨range_drew q0, keep_drew q1, keep_drew q2, q3.below (Below.refl _ _).drew, q4.drew⟩
        refine tlQ (i := 0) (oi := { dst := some 4, op := .fieldAddr 103 (.tmp 2) 0, type := 0, pos := "l21_node.go:253", after := #[], guard := none }) ?_; try simp only [putP]; refine tlQ (i := 1) (oi := { dst := some 5, op := .load 3 (.tmp 4), type := 3, pos := "l21_node.go:253", after := #[{ on := 0, ground := .data }], guard := none }) ?_; try simp only [putP]
        refine wpAnyH_ready (rs := [2]) (by kernel_rfl) (by simp) ?_
        refine AllReadyH.cons (o := { dst := some 6, op := .call { callee := .value (.func 146), args := #[.const (.int .i64 7)], argTypes := #[3] }, type := 3, pos := "l21_node.go:253", after := #[], guard := none }) rfl (fun K hK => ?_) AllReadyH.nil
        go_simp
        refine (siteOf_lit _).mono ?_; rintro r w1 ⟨rfl, hw⟩; obtain rfl := hw.symm; clear hw
        go_wp2_with fail
        refine hK.out _ _ ?_ (fun hHeld => ?_)
        · (try dsimp only); exact hHeld
        clear hK K
        (try simp only [putP])
        refine wpAnyH_ready (rs := [3]) (by kernel_rfl) (by simp) ?_
        refine AllReadyH.cons (o := { dst := some 7, op := .call { callee := .value (.func 121), args := #[.tmp 5, .const (.int .i64 0), .tmp 6], argTypes := #[3, 3, 3] }, type := 4, pos := "l21_node.go:253", after := #[{ on := 1, ground := .data }, { on := 2, ground := .data }, { on := 2, ground := .chain }], guard := none }) rfl (fun K hK => ?_) AllReadyH.nil
        go_simp
        refine (within_lit n 0 1 true y1.out _).mono ?_; rintro r w2 ⟨rfl, hw⟩; obtain rfl := hw.symm; clear hw
        go_wp2_with fail
        refine hK.out _ _ ?_ (fun hHeld => ?_)
        · (try dsimp only); exact hHeld
        clear hK K
        (try simp only [putP]); refine tlQ (i := 4) (oi := { dst := some 8, op := .move (.tmp 7), type := 4, pos := "l21_node.go:253", after := #[{ on := 3, ground := .data }, { on := 3, ground := .chain }], guard := none }) ?_; try simp only [putP]; refine tlQ (i := 5) (oi := { dst := some 9, op := .fieldAddr 103 (.tmp 2) 0, type := 0, pos := "l21_node.go:253", after := #[{ on := 4, ground := .guard }], guard := some (4, true) }) ?_; try simp only [putP]; refine tlQ (i := 6) (oi := { dst := some 10, op := .load 3 (.tmp 9), type := 3, pos := "l21_node.go:253", after := #[{ on := 5, ground := .data }, { on := 4, ground := .guard }], guard := some (4, true) }) ?_; try simp only [putP]
        refine wpAnyH_take (i := 7) (oi := { dst := some 11, op := .load 42 (.tmp 1), type := 42, pos := "l21_node.go:253", after := #[{ on := 4, ground := .guard }], guard := some (4, true) }) (v := .agg #[.int .i64 me, .bool up, .bool gone, .bool gate, .int .i64 inc, .int .i64 now, .int .i64 sq, .int .i64 turn, .slice ta tl tc, .slice ca cl cc, .int .i64 pn, .int .i64 ps, .int .i64 pq, .bool pa, .slice da dl dc, .int .i64 cx, .int .i64 cy, .int .i64 ch, .int .i64 ce, .slice pla pll plc, .slice oa ol oc]) rfl (by kernel_rfl) (by kernel_rfl) (by kernel_rfl) (fun _ _ _ h => h) (load43 (by rfl) (.tmp 1) rfl nb rfl [.int .i64 me, .bool up, .bool gone, .bool gate, .int .i64 inc, .int .i64 now, .int .i64 sq, .int .i64 turn, .slice ta tl tc, .slice ca cl cc, .int .i64 pn, .int .i64 ps, .int .i64 pq, .bool pa, .slice da dl dc, .int .i64 cx, .int .i64 cy, .int .i64 ch, .int .i64 ce, .slice pla pll plc, .slice oa ol oc] (fun w hSw => hSw.1) rfl) (by assumption) ?_
        (try simp only [putP])
        refine wpAnyH_ready (rs := [8]) (by kernel_rfl) (by simp) ?_
        refine AllReadyH.cons (o := { dst := some 12, op := .call { callee := .value (.func 126), args := #[.tmp 11], argTypes := #[42] }, type := 3, pos := "l21_node.go:253", after := #[{ on := 7, ground := .data }, { on := 4, ground := .chain }, { on := 4, ground := .guard }], guard := some (4, true) }) rfl (fun K hK => ?_) AllReadyH.nil
        go_simp
        refine (site_any me up gone gate inc now sq turn ta tl tc ca cl cc pn ps pq pa da dl dc cx cy ch ce pla pll plc oa ol oc _).mono ?_; rintro r w3 ⟨rfl, k3⟩; rw [hsm.out]
        go_wp2_with fail
        refine hK.out _ _ ?_ (fun hHeld => ?_)
        · (try dsimp only); exact ⟨range_below' hHeld.1 k3, keep_below k3 hHeld.2.1, keep_below k3 hHeld.2.2.1, hHeld.2.2.2.1.below k3, btrans hHeld.2.2.2.2 k3⟩
        clear hK K
        (try simp only [putP])
        refine tkQ (i := 9) (oi := { dst := some 13, op := .binOp .neq 3 (.tmp 10) (.tmp 12) 3, type := 4, pos := "l21_node.go:253", after := #[{ on := 6, ground := .data }, { on := 8, ground := .data }, { on := 4, ground := .guard }], guard := some (4, true) }) (v := .bool true) ?_ ?_
        · (intro w hSw; (try dsimp only at hSw); go_simp; all_goals (first | with_reducible rfl | assumption | (simp; done) | (simp; omega)))
        (try simp only [putP]); refine tlQ (i := 10) (oi := { dst := some 14, op := .pick (.tmp 8) (.tmp 13) (.const (.bool false)), type := 4, pos := "l21_node.go:253", after := #[{ on := 4, ground := .data }, { on := 9, ground := .data }], guard := none }) ?_; try simp only [putP]; refine tlQ (i := 11) (oi := { dst := some 15, op := .move (.tmp 14), type := 4, pos := "l21_node.go:253", after := #[{ on := 10, ground := .data }, { on := 8, ground := .chain }], guard := none }) ?_; try simp only [putP]; refine tlQ (i := 12) (oi := { dst := some 16, op := .fieldAddr 103 (.tmp 2) 1, type := 0, pos := "l21_node.go:253", after := #[{ on := 11, ground := .guard }], guard := some (11, true) }) ?_; try simp only [putP]; refine tlQ (i := 13) (oi := { dst := some 17, op := .load 34 (.tmp 16), type := 34, pos := "l21_node.go:253", after := #[{ on := 12, ground := .data }, { on := 11, ground := .guard }], guard := some (11, true) }) ?_; try simp only [putP]; refine tlQ (i := 14) (oi := { dst := some 18, op := .call { callee := .builtin .len, args := #[.tmp 17], argTypes := #[34] }, type := 3, pos := "l21_node.go:253", after := #[{ on := 13, ground := .data }, { on := 11, ground := .guard }], guard := some (11, true) }) ?_; try simp only [putP]
        refine tkQ (i := 15) (oi := { dst := some 19, op := .binOp .gtr 3 (.tmp 18) (.const (.int .i64 0)) 3, type := 4, pos := "l21_node.go:253", after := #[{ on := 14, ground := .data }, { on := 11, ground := .guard }], guard := some (11, true) }) (v := .bool false) ?_ ?_
        · (intro w hSw; (try dsimp only at hSw); go_simp; all_goals (first | with_reducible rfl | assumption | (simp; done) | (simp; omega)))
        (try simp only [putP]); refine tlQ (i := 16) (oi := { dst := some 20, op := .pick (.tmp 15) (.tmp 19) (.const (.bool false)), type := 4, pos := "l21_node.go:253", after := #[{ on := 11, ground := .data }, { on := 15, ground := .data }], guard := none }) ?_; try simp only [putP]; refine tlQ (i := 17) (oi := { dst := some 21, op := .move (.tmp 20), type := 4, pos := "l21_node.go:253", after := #[{ on := 16, ground := .data }, { on := 11, ground := .chain }], guard := none }) ?_; try simp only [putP]; refine tzQ (i := 18) (oi := { dst := some 22, op := .fieldAddr 103 (.tmp 2) 1, type := 0, pos := "l21_node.go:253", after := #[{ on := 17, ground := .guard }], guard := some (17, true) }) ?_; try simp only [putP]; refine tzQ (i := 19) (oi := { dst := some 23, op := .load 34 (.tmp 22), type := 34, pos := "l21_node.go:253", after := #[{ on := 18, ground := .data }, { on := 17, ground := .guard }], guard := some (17, true) }) ?_; try simp only [putP]; refine tzQ (i := 20) (oi := { dst := some 24, op := .call { callee := .value (.func 112), args := #[.tmp 23], argTypes := #[34] }, type := 4, pos := "l21_node.go:254", after := #[{ on := 19, ground := .data }, { on := 17, ground := .chain }, { on := 17, ground := .guard }], guard := some (17, true) }) ?_; try simp only [putP]; refine tlQ (i := 21) (oi := { dst := some 25, op := .pick (.tmp 21) (.tmp 24) (.const (.bool false)), type := 4, pos := "l21_node.go:253", after := #[{ on := 17, ground := .data }, { on := 20, ground := .data }], guard := none }) ?_; try simp only [putP]; refine tlQ (i := 22) (oi := { dst := some 26, op := .move (.tmp 25), type := 4, pos := "l21_node.go:253", after := #[{ on := 21, ground := .data }, { on := 20, ground := .chain }], guard := none }) ?_; try simp only [putP]; refine tzQ (i := 23) (oi := { dst := some 27, op := .fieldAddr 103 (.tmp 2) 1, type := 0, pos := "l21_node.go:253", after := #[{ on := 22, ground := .guard }], guard := some (22, true) }) ?_; try simp only [putP]; refine tzQ (i := 24) (oi := { dst := some 28, op := .load 34 (.tmp 27), type := 34, pos := "l21_node.go:253", after := #[{ on := 23, ground := .data }, { on := 22, ground := .guard }], guard := some (22, true) }) ?_; try simp only [putP]; refine tzQ (i := 25) (oi := { dst := some 29, op := .fieldAddr 103 (.tmp 2) 0, type := 0, pos := "l21_node.go:253", after := #[{ on := 22, ground := .guard }], guard := some (22, true) }) ?_; try simp only [putP]; refine tzQ (i := 26) (oi := { dst := some 30, op := .load 3 (.tmp 29), type := 3, pos := "l21_node.go:253", after := #[{ on := 25, ground := .data }, { on := 22, ground := .guard }], guard := some (22, true) }) ?_; try simp only [putP]; refine tzQ (i := 27) (oi := { dst := some 31, op := .call { callee := .value (.func 125), args := #[.tmp 28, .tmp 30], argTypes := #[34, 3] }, type := 4, pos := "l21_node.go:254", after := #[{ on := 24, ground := .data }, { on := 26, ground := .data }, { on := 22, ground := .chain }, { on := 22, ground := .guard }], guard := some (22, true) }) ?_; try simp only [putP]; refine tlQ (i := 28) (oi := { dst := some 32, op := .pick (.tmp 26) (.tmp 31) (.const (.bool false)), type := 4, pos := "l21_node.go:253", after := #[{ on := 22, ground := .data }, { on := 27, ground := .data }], guard := none }) ?_; try simp only [putP]; refine tlQ (i := 29) (oi := { dst := some 3, op := .assign (.tmp 32), type := 4, pos := "l21_node.go:253", after := #[{ on := 28, ground := .data }, { on := 27, ground := .chain }, { on := 0, ground := .phase }, { on := 1, ground := .phase }, { on := 2, ground := .phase }, { on := 3, ground := .phase }, { on := 4, ground := .phase }, { on := 5, ground := .phase }, { on := 6, ground := .phase }, { on := 7, ground := .phase }, { on := 8, ground := .phase }, { on := 9, ground := .phase }, { on := 10, ground := .phase }, { on := 11, ground := .phase }, { on := 12, ground := .phase }, { on := 13, ground := .phase }, { on := 14, ground := .phase }, { on := 15, ground := .phase }, { on := 16, ground := .phase }, { on := 17, ground := .phase }, { on := 18, ground := .phase }, { on := 19, ground := .phase }, { on := 20, ground := .phase }, { on := 21, ground := .phase }, { on := 22, ground := .phase }, { on := 23, ground := .phase }, { on := 24, ground := .phase }, { on := 25, ground := .phase }, { on := 26, ground := .phase }, { on := 27, ground := .phase }, { on := 28, ground := .phase }], guard := none }) ?_; try simp only [putP]
        refine wpAnyH_done (by kernel_rfl) ?_ _
        go_wp2
        go_ret
        exact ⟨ret_bool (by rw [hst.out, y1.out]; simp [e3]), hHeld.2.2.2.2⟩
      · have e3 : 0 < bl := by omega
        cases z4 : tokB bl bf
        · have y4 : Hid (tokB bl bf = false) := z4
          clear z4
          refine wp_region_held_drew (S := (fun w' => w'.rangeAt nb 0 [.int .i64 me, .bool up, .bool gone, .bool gate, .int .i64 inc, .int .i64 now, .int .i64 sq, .int .i64 turn, .slice ta tl tc, .slice ca cl cc, .int .i64 pn, .int .i64 ps, .int .i64 pq, .bool pa, .slice da dl dc, .int .i64 cx, .int .i64 cy, .int .i64 ch, .int .i64 ce, .slice pla pll plc, .slice oa ol oc] ∧ w'.cell? ⟨w.heap.size, 0, none⟩ = some (.int .i64 n) ∧ w'.cell? ⟨w.heap.size, 1, none⟩ = some (.slice ba bl bc) ∧ FSl w' ba bl bf ∧ Below w.heap.size w w')) (by kernel_rfl) ?_ (fun hHeld => ?_)
          · (try dsimp only); exact ⟨range_drew q0, keep_drew q1, keep_drew q2, q3.below (Below.refl _ _).drew, q4.drew⟩
          refine tlQ (i := 0) (oi := { dst := some 4, op := .fieldAddr 103 (.tmp 2) 0, type := 0, pos := "l21_node.go:253", after := #[], guard := none }) ?_; try simp only [putP]; refine tlQ (i := 1) (oi := { dst := some 5, op := .load 3 (.tmp 4), type := 3, pos := "l21_node.go:253", after := #[{ on := 0, ground := .data }], guard := none }) ?_; try simp only [putP]
          refine wpAnyH_ready (rs := [2]) (by kernel_rfl) (by simp) ?_
          refine AllReadyH.cons (o := { dst := some 6, op := .call { callee := .value (.func 146), args := #[.const (.int .i64 7)], argTypes := #[3] }, type := 3, pos := "l21_node.go:253", after := #[], guard := none }) rfl (fun K hK => ?_) AllReadyH.nil
          go_simp
          refine (siteOf_lit _).mono ?_; rintro r w1 ⟨rfl, hw⟩; obtain rfl := hw.symm; clear hw
          go_wp2_with fail
          refine hK.out _ _ ?_ (fun hHeld => ?_)
          · (try dsimp only); exact hHeld
          clear hK K
          (try simp only [putP])
          refine wpAnyH_ready (rs := [3]) (by kernel_rfl) (by simp) ?_
          refine AllReadyH.cons (o := { dst := some 7, op := .call { callee := .value (.func 121), args := #[.tmp 5, .const (.int .i64 0), .tmp 6], argTypes := #[3, 3, 3] }, type := 4, pos := "l21_node.go:253", after := #[{ on := 1, ground := .data }, { on := 2, ground := .data }, { on := 2, ground := .chain }], guard := none }) rfl (fun K hK => ?_) AllReadyH.nil
          go_simp
          refine (within_lit n 0 1 true y1.out _).mono ?_; rintro r w2 ⟨rfl, hw⟩; obtain rfl := hw.symm; clear hw
          go_wp2_with fail
          refine hK.out _ _ ?_ (fun hHeld => ?_)
          · (try dsimp only); exact hHeld
          clear hK K
          (try simp only [putP]); refine tlQ (i := 4) (oi := { dst := some 8, op := .move (.tmp 7), type := 4, pos := "l21_node.go:253", after := #[{ on := 3, ground := .data }, { on := 3, ground := .chain }], guard := none }) ?_; try simp only [putP]; refine tlQ (i := 5) (oi := { dst := some 9, op := .fieldAddr 103 (.tmp 2) 0, type := 0, pos := "l21_node.go:253", after := #[{ on := 4, ground := .guard }], guard := some (4, true) }) ?_; try simp only [putP]; refine tlQ (i := 6) (oi := { dst := some 10, op := .load 3 (.tmp 9), type := 3, pos := "l21_node.go:253", after := #[{ on := 5, ground := .data }, { on := 4, ground := .guard }], guard := some (4, true) }) ?_; try simp only [putP]
          refine wpAnyH_take (i := 7) (oi := { dst := some 11, op := .load 42 (.tmp 1), type := 42, pos := "l21_node.go:253", after := #[{ on := 4, ground := .guard }], guard := some (4, true) }) (v := .agg #[.int .i64 me, .bool up, .bool gone, .bool gate, .int .i64 inc, .int .i64 now, .int .i64 sq, .int .i64 turn, .slice ta tl tc, .slice ca cl cc, .int .i64 pn, .int .i64 ps, .int .i64 pq, .bool pa, .slice da dl dc, .int .i64 cx, .int .i64 cy, .int .i64 ch, .int .i64 ce, .slice pla pll plc, .slice oa ol oc]) rfl (by kernel_rfl) (by kernel_rfl) (by kernel_rfl) (fun _ _ _ h => h) (load43 (by rfl) (.tmp 1) rfl nb rfl [.int .i64 me, .bool up, .bool gone, .bool gate, .int .i64 inc, .int .i64 now, .int .i64 sq, .int .i64 turn, .slice ta tl tc, .slice ca cl cc, .int .i64 pn, .int .i64 ps, .int .i64 pq, .bool pa, .slice da dl dc, .int .i64 cx, .int .i64 cy, .int .i64 ch, .int .i64 ce, .slice pla pll plc, .slice oa ol oc] (fun w hSw => hSw.1) rfl) (by assumption) ?_
          (try simp only [putP])
          refine wpAnyH_ready (rs := [8]) (by kernel_rfl) (by simp) ?_
          refine AllReadyH.cons (o := { dst := some 12, op := .call { callee := .value (.func 126), args := #[.tmp 11], argTypes := #[42] }, type := 3, pos := "l21_node.go:253", after := #[{ on := 7, ground := .data }, { on := 4, ground := .chain }, { on := 4, ground := .guard }], guard := some (4, true) }) rfl (fun K hK => ?_) AllReadyH.nil
          go_simp
          refine (site_any me up gone gate inc now sq turn ta tl tc ca cl cc pn ps pq pa da dl dc cx cy ch ce pla pll plc oa ol oc _).mono ?_; rintro r w3 ⟨rfl, k3⟩; rw [hsm.out]
          go_wp2_with fail
          refine hK.out _ _ ?_ (fun hHeld => ?_)
          · (try dsimp only); exact ⟨range_below' hHeld.1 k3, keep_below k3 hHeld.2.1, keep_below k3 hHeld.2.2.1, hHeld.2.2.2.1.below k3, btrans hHeld.2.2.2.2 k3⟩
          clear hK K
          (try simp only [putP])
          refine tkQ (i := 9) (oi := { dst := some 13, op := .binOp .neq 3 (.tmp 10) (.tmp 12) 3, type := 4, pos := "l21_node.go:253", after := #[{ on := 6, ground := .data }, { on := 8, ground := .data }, { on := 4, ground := .guard }], guard := some (4, true) }) (v := .bool true) ?_ ?_
          · (intro w hSw; (try dsimp only at hSw); go_simp; all_goals (first | with_reducible rfl | assumption | (simp; done) | (simp; omega)))
          (try simp only [putP]); refine tlQ (i := 10) (oi := { dst := some 14, op := .pick (.tmp 8) (.tmp 13) (.const (.bool false)), type := 4, pos := "l21_node.go:253", after := #[{ on := 4, ground := .data }, { on := 9, ground := .data }], guard := none }) ?_; try simp only [putP]; refine tlQ (i := 11) (oi := { dst := some 15, op := .move (.tmp 14), type := 4, pos := "l21_node.go:253", after := #[{ on := 10, ground := .data }, { on := 8, ground := .chain }], guard := none }) ?_; try simp only [putP]; refine tlQ (i := 12) (oi := { dst := some 16, op := .fieldAddr 103 (.tmp 2) 1, type := 0, pos := "l21_node.go:253", after := #[{ on := 11, ground := .guard }], guard := some (11, true) }) ?_; try simp only [putP]; refine tlQ (i := 13) (oi := { dst := some 17, op := .load 34 (.tmp 16), type := 34, pos := "l21_node.go:253", after := #[{ on := 12, ground := .data }, { on := 11, ground := .guard }], guard := some (11, true) }) ?_; try simp only [putP]; refine tlQ (i := 14) (oi := { dst := some 18, op := .call { callee := .builtin .len, args := #[.tmp 17], argTypes := #[34] }, type := 3, pos := "l21_node.go:253", after := #[{ on := 13, ground := .data }, { on := 11, ground := .guard }], guard := some (11, true) }) ?_; try simp only [putP]
          refine tkQ (i := 15) (oi := { dst := some 19, op := .binOp .gtr 3 (.tmp 18) (.const (.int .i64 0)) 3, type := 4, pos := "l21_node.go:253", after := #[{ on := 14, ground := .data }, { on := 11, ground := .guard }], guard := some (11, true) }) (v := .bool true) ?_ ?_
          · (intro w hSw; (try dsimp only at hSw); go_simp; all_goals (first | with_reducible rfl | assumption | (simp; done) | (simp; omega)))
          (try simp only [putP]); refine tlQ (i := 16) (oi := { dst := some 20, op := .pick (.tmp 15) (.tmp 19) (.const (.bool false)), type := 4, pos := "l21_node.go:253", after := #[{ on := 11, ground := .data }, { on := 15, ground := .data }], guard := none }) ?_; try simp only [putP]; refine tlQ (i := 17) (oi := { dst := some 21, op := .move (.tmp 20), type := 4, pos := "l21_node.go:253", after := #[{ on := 16, ground := .data }, { on := 11, ground := .chain }], guard := none }) ?_; try simp only [putP]; refine tlQ (i := 18) (oi := { dst := some 22, op := .fieldAddr 103 (.tmp 2) 1, type := 0, pos := "l21_node.go:253", after := #[{ on := 17, ground := .guard }], guard := some (17, true) }) ?_; try simp only [putP]; refine tlQ (i := 19) (oi := { dst := some 23, op := .load 34 (.tmp 22), type := 34, pos := "l21_node.go:253", after := #[{ on := 18, ground := .data }, { on := 17, ground := .guard }], guard := some (17, true) }) ?_; try simp only [putP]
          refine wpAnyH_ready (rs := [20]) (by kernel_rfl) (by simp) ?_
          refine AllReadyH.cons (o := { dst := some 24, op := .call { callee := .value (.func 112), args := #[.tmp 23], argTypes := #[34] }, type := 4, pos := "l21_node.go:254", after := #[{ on := 19, ground := .data }, { on := 17, ground := .chain }, { on := 17, ground := .guard }], guard := some (17, true) }) rfl (fun K hK => ?_) AllReadyH.nil
          go_simp
          refine (tok_lit ba bl bc bf false _ hHeld.2.2.2.1 hbl y4.out).mono ?_; rintro r w4 ⟨rfl, k4⟩
          go_wp2_with fail
          refine hK.out _ _ ?_ (fun hHeld => ?_)
          · (try dsimp only); exact ⟨range_below' hHeld.1 k4, keep_below k4 hHeld.2.1, keep_below k4 hHeld.2.2.1, hHeld.2.2.2.1.below k4, btrans hHeld.2.2.2.2 k4⟩
          clear hK K
          (try simp only [putP]); refine tlQ (i := 21) (oi := { dst := some 25, op := .pick (.tmp 21) (.tmp 24) (.const (.bool false)), type := 4, pos := "l21_node.go:253", after := #[{ on := 17, ground := .data }, { on := 20, ground := .data }], guard := none }) ?_; try simp only [putP]; refine tlQ (i := 22) (oi := { dst := some 26, op := .move (.tmp 25), type := 4, pos := "l21_node.go:253", after := #[{ on := 21, ground := .data }, { on := 20, ground := .chain }], guard := none }) ?_; try simp only [putP]; refine tzQ (i := 23) (oi := { dst := some 27, op := .fieldAddr 103 (.tmp 2) 1, type := 0, pos := "l21_node.go:253", after := #[{ on := 22, ground := .guard }], guard := some (22, true) }) ?_; try simp only [putP]; refine tzQ (i := 24) (oi := { dst := some 28, op := .load 34 (.tmp 27), type := 34, pos := "l21_node.go:253", after := #[{ on := 23, ground := .data }, { on := 22, ground := .guard }], guard := some (22, true) }) ?_; try simp only [putP]; refine tzQ (i := 25) (oi := { dst := some 29, op := .fieldAddr 103 (.tmp 2) 0, type := 0, pos := "l21_node.go:253", after := #[{ on := 22, ground := .guard }], guard := some (22, true) }) ?_; try simp only [putP]; refine tzQ (i := 26) (oi := { dst := some 30, op := .load 3 (.tmp 29), type := 3, pos := "l21_node.go:253", after := #[{ on := 25, ground := .data }, { on := 22, ground := .guard }], guard := some (22, true) }) ?_; try simp only [putP]; refine tzQ (i := 27) (oi := { dst := some 31, op := .call { callee := .value (.func 125), args := #[.tmp 28, .tmp 30], argTypes := #[34, 3] }, type := 4, pos := "l21_node.go:254", after := #[{ on := 24, ground := .data }, { on := 26, ground := .data }, { on := 22, ground := .chain }, { on := 22, ground := .guard }], guard := some (22, true) }) ?_; try simp only [putP]; refine tlQ (i := 28) (oi := { dst := some 32, op := .pick (.tmp 26) (.tmp 31) (.const (.bool false)), type := 4, pos := "l21_node.go:253", after := #[{ on := 22, ground := .data }, { on := 27, ground := .data }], guard := none }) ?_; try simp only [putP]; refine tlQ (i := 29) (oi := { dst := some 3, op := .assign (.tmp 32), type := 4, pos := "l21_node.go:253", after := #[{ on := 28, ground := .data }, { on := 27, ground := .chain }, { on := 0, ground := .phase }, { on := 1, ground := .phase }, { on := 2, ground := .phase }, { on := 3, ground := .phase }, { on := 4, ground := .phase }, { on := 5, ground := .phase }, { on := 6, ground := .phase }, { on := 7, ground := .phase }, { on := 8, ground := .phase }, { on := 9, ground := .phase }, { on := 10, ground := .phase }, { on := 11, ground := .phase }, { on := 12, ground := .phase }, { on := 13, ground := .phase }, { on := 14, ground := .phase }, { on := 15, ground := .phase }, { on := 16, ground := .phase }, { on := 17, ground := .phase }, { on := 18, ground := .phase }, { on := 19, ground := .phase }, { on := 20, ground := .phase }, { on := 21, ground := .phase }, { on := 22, ground := .phase }, { on := 23, ground := .phase }, { on := 24, ground := .phase }, { on := 25, ground := .phase }, { on := 26, ground := .phase }, { on := 27, ground := .phase }, { on := 28, ground := .phase }], guard := none }) ?_; try simp only [putP]
          refine wpAnyH_done (by kernel_rfl) ?_ _
          go_wp2
          go_ret
          exact ⟨ret_bool (by rw [hst.out, y4.out]; simp), hHeld.2.2.2.2⟩
        · have y4 : Hid (tokB bl bf = true) := z4
          clear z4
          refine wp_region_held_drew (S := (fun w' => w'.rangeAt nb 0 [.int .i64 me, .bool up, .bool gone, .bool gate, .int .i64 inc, .int .i64 now, .int .i64 sq, .int .i64 turn, .slice ta tl tc, .slice ca cl cc, .int .i64 pn, .int .i64 ps, .int .i64 pq, .bool pa, .slice da dl dc, .int .i64 cx, .int .i64 cy, .int .i64 ch, .int .i64 ce, .slice pla pll plc, .slice oa ol oc] ∧ w'.cell? ⟨w.heap.size, 0, none⟩ = some (.int .i64 n) ∧ w'.cell? ⟨w.heap.size, 1, none⟩ = some (.slice ba bl bc) ∧ FSl w' ba bl bf ∧ Below w.heap.size w w')) (by kernel_rfl) ?_ (fun hHeld => ?_)
          · (try dsimp only); exact ⟨range_drew q0, keep_drew q1, keep_drew q2, q3.below (Below.refl _ _).drew, q4.drew⟩
          refine tlQ (i := 0) (oi := { dst := some 4, op := .fieldAddr 103 (.tmp 2) 0, type := 0, pos := "l21_node.go:253", after := #[], guard := none }) ?_; try simp only [putP]; refine tlQ (i := 1) (oi := { dst := some 5, op := .load 3 (.tmp 4), type := 3, pos := "l21_node.go:253", after := #[{ on := 0, ground := .data }], guard := none }) ?_; try simp only [putP]
          refine wpAnyH_ready (rs := [2]) (by kernel_rfl) (by simp) ?_
          refine AllReadyH.cons (o := { dst := some 6, op := .call { callee := .value (.func 146), args := #[.const (.int .i64 7)], argTypes := #[3] }, type := 3, pos := "l21_node.go:253", after := #[], guard := none }) rfl (fun K hK => ?_) AllReadyH.nil
          go_simp
          refine (siteOf_lit _).mono ?_; rintro r w1 ⟨rfl, hw⟩; obtain rfl := hw.symm; clear hw
          go_wp2_with fail
          refine hK.out _ _ ?_ (fun hHeld => ?_)
          · (try dsimp only); exact hHeld
          clear hK K
          (try simp only [putP])
          refine wpAnyH_ready (rs := [3]) (by kernel_rfl) (by simp) ?_
          refine AllReadyH.cons (o := { dst := some 7, op := .call { callee := .value (.func 121), args := #[.tmp 5, .const (.int .i64 0), .tmp 6], argTypes := #[3, 3, 3] }, type := 4, pos := "l21_node.go:253", after := #[{ on := 1, ground := .data }, { on := 2, ground := .data }, { on := 2, ground := .chain }], guard := none }) rfl (fun K hK => ?_) AllReadyH.nil
          go_simp
          refine (within_lit n 0 1 true y1.out _).mono ?_; rintro r w2 ⟨rfl, hw⟩; obtain rfl := hw.symm; clear hw
          go_wp2_with fail
          refine hK.out _ _ ?_ (fun hHeld => ?_)
          · (try dsimp only); exact hHeld
          clear hK K
          (try simp only [putP]); refine tlQ (i := 4) (oi := { dst := some 8, op := .move (.tmp 7), type := 4, pos := "l21_node.go:253", after := #[{ on := 3, ground := .data }, { on := 3, ground := .chain }], guard := none }) ?_; try simp only [putP]; refine tlQ (i := 5) (oi := { dst := some 9, op := .fieldAddr 103 (.tmp 2) 0, type := 0, pos := "l21_node.go:253", after := #[{ on := 4, ground := .guard }], guard := some (4, true) }) ?_; try simp only [putP]; refine tlQ (i := 6) (oi := { dst := some 10, op := .load 3 (.tmp 9), type := 3, pos := "l21_node.go:253", after := #[{ on := 5, ground := .data }, { on := 4, ground := .guard }], guard := some (4, true) }) ?_; try simp only [putP]
          refine wpAnyH_take (i := 7) (oi := { dst := some 11, op := .load 42 (.tmp 1), type := 42, pos := "l21_node.go:253", after := #[{ on := 4, ground := .guard }], guard := some (4, true) }) (v := .agg #[.int .i64 me, .bool up, .bool gone, .bool gate, .int .i64 inc, .int .i64 now, .int .i64 sq, .int .i64 turn, .slice ta tl tc, .slice ca cl cc, .int .i64 pn, .int .i64 ps, .int .i64 pq, .bool pa, .slice da dl dc, .int .i64 cx, .int .i64 cy, .int .i64 ch, .int .i64 ce, .slice pla pll plc, .slice oa ol oc]) rfl (by kernel_rfl) (by kernel_rfl) (by kernel_rfl) (fun _ _ _ h => h) (load43 (by rfl) (.tmp 1) rfl nb rfl [.int .i64 me, .bool up, .bool gone, .bool gate, .int .i64 inc, .int .i64 now, .int .i64 sq, .int .i64 turn, .slice ta tl tc, .slice ca cl cc, .int .i64 pn, .int .i64 ps, .int .i64 pq, .bool pa, .slice da dl dc, .int .i64 cx, .int .i64 cy, .int .i64 ch, .int .i64 ce, .slice pla pll plc, .slice oa ol oc] (fun w hSw => hSw.1) rfl) (by assumption) ?_
          (try simp only [putP])
          refine wpAnyH_ready (rs := [8]) (by kernel_rfl) (by simp) ?_
          refine AllReadyH.cons (o := { dst := some 12, op := .call { callee := .value (.func 126), args := #[.tmp 11], argTypes := #[42] }, type := 3, pos := "l21_node.go:253", after := #[{ on := 7, ground := .data }, { on := 4, ground := .chain }, { on := 4, ground := .guard }], guard := some (4, true) }) rfl (fun K hK => ?_) AllReadyH.nil
          go_simp
          refine (site_any me up gone gate inc now sq turn ta tl tc ca cl cc pn ps pq pa da dl dc cx cy ch ce pla pll plc oa ol oc _).mono ?_; rintro r w3 ⟨rfl, k3⟩; rw [hsm.out]
          go_wp2_with fail
          refine hK.out _ _ ?_ (fun hHeld => ?_)
          · (try dsimp only); exact ⟨range_below' hHeld.1 k3, keep_below k3 hHeld.2.1, keep_below k3 hHeld.2.2.1, hHeld.2.2.2.1.below k3, btrans hHeld.2.2.2.2 k3⟩
          clear hK K
          (try simp only [putP])
          refine tkQ (i := 9) (oi := { dst := some 13, op := .binOp .neq 3 (.tmp 10) (.tmp 12) 3, type := 4, pos := "l21_node.go:253", after := #[{ on := 6, ground := .data }, { on := 8, ground := .data }, { on := 4, ground := .guard }], guard := some (4, true) }) (v := .bool true) ?_ ?_
          · (intro w hSw; (try dsimp only at hSw); go_simp; all_goals (first | with_reducible rfl | assumption | (simp; done) | (simp; omega)))
          (try simp only [putP]); refine tlQ (i := 10) (oi := { dst := some 14, op := .pick (.tmp 8) (.tmp 13) (.const (.bool false)), type := 4, pos := "l21_node.go:253", after := #[{ on := 4, ground := .data }, { on := 9, ground := .data }], guard := none }) ?_; try simp only [putP]; refine tlQ (i := 11) (oi := { dst := some 15, op := .move (.tmp 14), type := 4, pos := "l21_node.go:253", after := #[{ on := 10, ground := .data }, { on := 8, ground := .chain }], guard := none }) ?_; try simp only [putP]; refine tlQ (i := 12) (oi := { dst := some 16, op := .fieldAddr 103 (.tmp 2) 1, type := 0, pos := "l21_node.go:253", after := #[{ on := 11, ground := .guard }], guard := some (11, true) }) ?_; try simp only [putP]; refine tlQ (i := 13) (oi := { dst := some 17, op := .load 34 (.tmp 16), type := 34, pos := "l21_node.go:253", after := #[{ on := 12, ground := .data }, { on := 11, ground := .guard }], guard := some (11, true) }) ?_; try simp only [putP]; refine tlQ (i := 14) (oi := { dst := some 18, op := .call { callee := .builtin .len, args := #[.tmp 17], argTypes := #[34] }, type := 3, pos := "l21_node.go:253", after := #[{ on := 13, ground := .data }, { on := 11, ground := .guard }], guard := some (11, true) }) ?_; try simp only [putP]
          refine tkQ (i := 15) (oi := { dst := some 19, op := .binOp .gtr 3 (.tmp 18) (.const (.int .i64 0)) 3, type := 4, pos := "l21_node.go:253", after := #[{ on := 14, ground := .data }, { on := 11, ground := .guard }], guard := some (11, true) }) (v := .bool true) ?_ ?_
          · (intro w hSw; (try dsimp only at hSw); go_simp; all_goals (first | with_reducible rfl | assumption | (simp; done) | (simp; omega)))
          (try simp only [putP]); refine tlQ (i := 16) (oi := { dst := some 20, op := .pick (.tmp 15) (.tmp 19) (.const (.bool false)), type := 4, pos := "l21_node.go:253", after := #[{ on := 11, ground := .data }, { on := 15, ground := .data }], guard := none }) ?_; try simp only [putP]; refine tlQ (i := 17) (oi := { dst := some 21, op := .move (.tmp 20), type := 4, pos := "l21_node.go:253", after := #[{ on := 16, ground := .data }, { on := 11, ground := .chain }], guard := none }) ?_; try simp only [putP]; refine tlQ (i := 18) (oi := { dst := some 22, op := .fieldAddr 103 (.tmp 2) 1, type := 0, pos := "l21_node.go:253", after := #[{ on := 17, ground := .guard }], guard := some (17, true) }) ?_; try simp only [putP]; refine tlQ (i := 19) (oi := { dst := some 23, op := .load 34 (.tmp 22), type := 34, pos := "l21_node.go:253", after := #[{ on := 18, ground := .data }, { on := 17, ground := .guard }], guard := some (17, true) }) ?_; try simp only [putP]
          refine wpAnyH_ready (rs := [20]) (by kernel_rfl) (by simp) ?_
          refine AllReadyH.cons (o := { dst := some 24, op := .call { callee := .value (.func 112), args := #[.tmp 23], argTypes := #[34] }, type := 4, pos := "l21_node.go:254", after := #[{ on := 19, ground := .data }, { on := 17, ground := .chain }, { on := 17, ground := .guard }], guard := some (17, true) }) rfl (fun K hK => ?_) AllReadyH.nil
          go_simp
          refine (tok_lit ba bl bc bf true _ hHeld.2.2.2.1 hbl y4.out).mono ?_; rintro r w4 ⟨rfl, k4⟩
          go_wp2_with fail
          refine hK.out _ _ ?_ (fun hHeld => ?_)
          · (try dsimp only); exact ⟨range_below' hHeld.1 k4, keep_below k4 hHeld.2.1, keep_below k4 hHeld.2.2.1, hHeld.2.2.2.1.below k4, btrans hHeld.2.2.2.2 k4⟩
          clear hK K
          (try simp only [putP]); refine tlQ (i := 21) (oi := { dst := some 25, op := .pick (.tmp 21) (.tmp 24) (.const (.bool false)), type := 4, pos := "l21_node.go:253", after := #[{ on := 17, ground := .data }, { on := 20, ground := .data }], guard := none }) ?_; try simp only [putP]; refine tlQ (i := 22) (oi := { dst := some 26, op := .move (.tmp 25), type := 4, pos := "l21_node.go:253", after := #[{ on := 21, ground := .data }, { on := 20, ground := .chain }], guard := none }) ?_; try simp only [putP]; refine tlQ (i := 23) (oi := { dst := some 27, op := .fieldAddr 103 (.tmp 2) 1, type := 0, pos := "l21_node.go:253", after := #[{ on := 22, ground := .guard }], guard := some (22, true) }) ?_; try simp only [putP]; refine tlQ (i := 24) (oi := { dst := some 28, op := .load 34 (.tmp 27), type := 34, pos := "l21_node.go:253", after := #[{ on := 23, ground := .data }, { on := 22, ground := .guard }], guard := some (22, true) }) ?_; try simp only [putP]; refine tlQ (i := 25) (oi := { dst := some 29, op := .fieldAddr 103 (.tmp 2) 0, type := 0, pos := "l21_node.go:253", after := #[{ on := 22, ground := .guard }], guard := some (22, true) }) ?_; try simp only [putP]; refine tlQ (i := 26) (oi := { dst := some 30, op := .load 3 (.tmp 29), type := 3, pos := "l21_node.go:253", after := #[{ on := 25, ground := .data }, { on := 22, ground := .guard }], guard := some (22, true) }) ?_; try simp only [putP]
          refine wpAnyH_ready (rs := [27]) (by kernel_rfl) (by simp) ?_
          refine AllReadyH.cons (o := { dst := some 31, op := .call { callee := .value (.func 125), args := #[.tmp 28, .tmp 30], argTypes := #[34, 3] }, type := 4, pos := "l21_node.go:254", after := #[{ on := 24, ground := .data }, { on := 26, ground := .data }, { on := 22, ground := .chain }, { on := 22, ground := .guard }], guard := some (22, true) }) rfl (fun K hK => ?_) AllReadyH.nil
          go_simp
          refine (allOf_any ba bl bc bf n _ hHeld.2.2.2.1 hbl).mono ?_; rintro r w5 ⟨rfl, k5⟩
          go_wp2_with fail
          refine hK.out _ _ ?_ (fun hHeld => ?_)
          · (try dsimp only); exact ⟨range_below' hHeld.1 k5, keep_below k5 hHeld.2.1, keep_below k5 hHeld.2.2.1, hHeld.2.2.2.1.below k5, btrans hHeld.2.2.2.2 k5⟩
          clear hK K
          (try simp only [putP]); refine tlQ (i := 28) (oi := { dst := some 32, op := .pick (.tmp 26) (.tmp 31) (.const (.bool false)), type := 4, pos := "l21_node.go:253", after := #[{ on := 22, ground := .data }, { on := 27, ground := .data }], guard := none }) ?_; try simp only [putP]; refine tlQ (i := 29) (oi := { dst := some 3, op := .assign (.tmp 32), type := 4, pos := "l21_node.go:253", after := #[{ on := 28, ground := .data }, { on := 27, ground := .chain }, { on := 0, ground := .phase }, { on := 1, ground := .phase }, { on := 2, ground := .phase }, { on := 3, ground := .phase }, { on := 4, ground := .phase }, { on := 5, ground := .phase }, { on := 6, ground := .phase }, { on := 7, ground := .phase }, { on := 8, ground := .phase }, { on := 9, ground := .phase }, { on := 10, ground := .phase }, { on := 11, ground := .phase }, { on := 12, ground := .phase }, { on := 13, ground := .phase }, { on := 14, ground := .phase }, { on := 15, ground := .phase }, { on := 16, ground := .phase }, { on := 17, ground := .phase }, { on := 18, ground := .phase }, { on := 19, ground := .phase }, { on := 20, ground := .phase }, { on := 21, ground := .phase }, { on := 22, ground := .phase }, { on := 23, ground := .phase }, { on := 24, ground := .phase }, { on := 25, ground := .phase }, { on := 26, ground := .phase }, { on := 27, ground := .phase }, { on := 28, ground := .phase }], guard := none }) ?_; try simp only [putP]
          refine wpAnyH_done (by kernel_rfl) ?_ _
          go_wp2
          go_ret
          exact ⟨ret_bool (by rw [hst.out, y1.out, y4.out, hsm.out]; simp [e0, e3]), hHeld.2.2.2.2⟩
/-- the lists that foreigns hold -/
def FgB (w : World) (len : Nat) (G : Nat → Fg) : Prop := ∀ k, k < len → FSl w (G k).ba (G k).bl (G k).bf ∧ (G k).bl ≤ 1048576
theorem FgB.below {w w' : World} {len : Nat} {G : Nat → Fg} (h : FgB w len G) (hb : Below w.heap.size w w') : FgB w' len G := fun k hk => ⟨(h k hk).1.below hb, (h k hk).2⟩
set_option maxRecDepth 20000 in
theorem otClo_any (n : Int) (ba : Option Addr) (bl bc : Nat) (bf : Nat → Fc) (nb : Nat) (me : Int) (up gone gate : Bool) (inc now sq turn : Int) (ta : Option Addr) (tl tc : Nat) (ca : Option Addr) (cl cc : Nat) (pn ps pq : Int) (pa : Bool) (da : Option Addr) (dl dc : Nat) (cx cy ch ce : Int) (pla : Option Addr) (pll plc : Nat) (oa : Option Addr) (ol oc : Nat) (pb : Nat) (w : World) (hp : w.cell? ⟨pb, 0, none⟩ = some (.func (.func 145) #[] #[.pointer (some ⟨nb, 0, none⟩)])) (hN : w.rangeAt nb 0 [.int .i64 me, .bool up, .bool gone, .bool gate, .int .i64 inc, .int .i64 now, .int .i64 sq, .int .i64 turn, .slice ta tl tc, .slice ca cl cc, .int .i64 pn, .int .i64 ps, .int .i64 pq, .bool pa, .slice da dl dc, .int .i64 cx, .int .i64 cy, .int .i64 ch, .int .i64 ce, .slice pla pll plc, .slice oa ol oc]) (hB : FSl w ba bl bf) (hbl : bl ≤ 1048576) (b : Bool) (hb : othB me n bl bf = b) :
    Calls Tryz.prog 180 #[.agg #[.int .i64 n, .slice ba bl bc], .pointer (some ⟨pb, 0, none⟩)] w fun r w' => r = .returned (.bool (!b)) ∧ Below w.heap.size w w' := by
  have hb' : Hid (othB me n bl bf = b) := hb
  clear hb
  have b0 := balloc (.cells #[.int .i64 n, .slice ba bl bc] 103) (Below.refl w.heap.size w)
  have X := Ws.box (w := w) #[.int .i64 n, .slice ba bl bc] 103
  have dp := keep_alloc (.cells #[.int .i64 n, .slice ba bl bc] 103) hp
  have hN' := range_below' hN b0
  have hB' := hB.below b0
  go_enter Tryz.func180, Tryz.ntmps180
  go_upto_region 1 with fail
  generalize w.alloc (.cells #[.int .i64 n, .slice ba bl bc] 103) = u at *
  have ee0 := X.c 0 (.int .i64 n) rfl
  have ee1 := X.c 1 (.slice ba bl bc) rfl
  clear X
  go_wp2_with fail
  refine (oth_any n ba bl bc bf nb me up gone gate inc now sq turn ta tl tc ca cl cc pn ps pq pa da dl dc cx cy ch ce pla pll plc oa ol oc _ hN' hB' hbl).mono ?_
  rintro r w2 ⟨rfl, k2⟩
  rw [hb'.out]
  clear dp hp ee0 ee1
  go_wp2
  go_ret
  exact ⟨rfl, btrans b0 k2⟩
/-- all that is known of others is ok -/
def otA (me : Int) (len : Nat) (G : Nat → Fg) : Bool := decide (∀ k, k < len → othB me (G k).n (G k).bl (G k).bf = true)
set_option maxRecDepth 20000 in
set_option maxHeartbeats 1000000 in
theorem otIdx_any (a : Option Addr) (len cap : Nat) (G : Nat → Fg) (nb : Nat) (me : Int) (up gone gate : Bool) (inc now sq turn : Int) (ta : Option Addr) (tl tc : Nat) (ca : Option Addr) (cl cc : Nat) (pn ps pq : Int) (pa : Bool) (da : Option Addr) (dl dc : Nat) (cx cy ch ce : Int) (pla : Option Addr) (pll plc : Nat) (oa : Option Addr) (ol oc : Nat) (pb : Nat) (w : World) (hG : FgSl w a len G) (hm : len ≤ 1048576) (hB : FgB w len G) (hp : w.cell? ⟨pb, 0, none⟩ = some (.func (.func 145) #[] #[.pointer (some ⟨nb, 0, none⟩)])) (hN : w.rangeAt nb 0 [.int .i64 me, .bool up, .bool gone, .bool gate, .int .i64 inc, .int .i64 now, .int .i64 sq, .int .i64 turn, .slice ta tl tc, .slice ca cl cc, .int .i64 pn, .int .i64 ps, .int .i64 pq, .bool pa, .slice da dl dc, .int .i64 cx, .int .i64 cy, .int .i64 ch, .int .i64 ce, .slice pla pll plc, .slice oa ol oc]) :
    Calls Tryz.prog 194 #[.slice a len cap, .func (.func 180) #[] #[.pointer (some ⟨pb, 0, none⟩)]] w fun e w' => ∃ r : Int, e = .returned (.int .i64 r) ∧ ((otA me len G = true ∧ r = -1) ∨ (otA me len G = false ∧ 0 ≤ r)) ∧ Below w.heap.size w w' := by
  go_enter Tryz.func194, Tryz.ntmps194
  go_wp2
  go_loopw [5, 8] (fun _ i wr => ∃ k : Nat, k ≤ len ∧ i = .int .i64 k ∧ Below w.heap.size w wr ∧ (∀ j, j < k → othB me (G j).n (G j).bl (G j).bf = true)) (fun _ i _ => len - (intOf i).toNat)
  case atStart => exact ⟨0, by omega, rfl, Below.refl _ _, fun j h1 => by omega⟩
  case round =>
    obtain ⟨k, hk, rfl, hb, hall⟩ := hrel
    by_cases hlt : k < len
    · obtain ⟨b, off, rfl, hbl, hf⟩ := hG (by omega)
      obtain ⟨c0, c1⟩ := (hf.below hb hbl) k hlt
      have i0 : (0 : Int) ≤ (k : Int) := by omega
      have i1 : (k : Int) < (len : Int) := by omega
      have hpr := keep_below hb hp
      have hNr := range_below' hN hb
      cases ho : othB me (G k).n (G k).bl (G k).bf
      · have ho' : Hid (othB me (G k).n (G k).bl (G k).bf = false) := ho
        clear ho
        go_wp2_with (go_at_call 180; refine (otClo_any _ _ _ _ _ nb me up gone gate inc now sq turn ta tl tc ca cl cc pn ps pq pa da dl dc cx cy ch ce pla pll plc oa ol oc pb _ hpr hNr ((hB k hlt).1.below hb) (hB k hlt).2 false ho'.out).mono ?_; rintro e w1 ⟨rfl, b1⟩)
        go_ret
        refine ⟨k, rfl, .inr ⟨?_, by omega⟩, btrans hb b1⟩
        unfold otA
        refine decide_eq_false fun h => ?_
        have h1 := h k hlt
        rw [ho'.out] at h1
        cases h1
      · have ho' : Hid (othB me (G k).n (G k).bl (G k).bf = true) := ho
        clear ho
        go_wp2_with (go_at_call 180; refine (otClo_any _ _ _ _ _ nb me up gone gate inc now sq turn ta tl tc ca cl cc pn ps pq pa da dl dc cx cy ch ce pla pll plc oa ol oc pb _ hpr hNr ((hB k hlt).1.below hb) (hB k hlt).2 true ho'.out).mono ?_; rintro e w1 ⟨rfl, b1⟩)
        go_roundw
        case rel => exact ⟨k + 1, by omega, by go_num, btrans hb b1, fun j hj => by
          by_cases e : j = k
          · subst e; exact ho'.out
          · exact hall j (by omega)⟩
        case measure => simp [intOf]; omega
    · go_wp2
      go_ret
      refine ⟨-1, rfl, .inl ⟨?_, rfl⟩, hb⟩
      unfold otA
      rw [decide_eq_true_iff]
      exact fun j hj => hall j (by omega)
theorem otCont_any (a : Option Addr) (len cap : Nat) (G : Nat → Fg) (nb : Nat) (me : Int) (up gone gate : Bool) (inc now sq turn : Int) (ta : Option Addr) (tl tc : Nat) (ca : Option Addr) (cl cc : Nat) (pn ps pq : Int) (pa : Bool) (da : Option Addr) (dl dc : Nat) (cx cy ch ce : Int) (pla : Option Addr) (pll plc : Nat) (oa : Option Addr) (ol oc : Nat) (pb : Nat) (w : World) (hG : FgSl w a len G) (hm : len ≤ 1048576) (hB : FgB w len G) (hp : w.cell? ⟨pb, 0, none⟩ = some (.func (.func 145) #[] #[.pointer (some ⟨nb, 0, none⟩)])) (hN : w.rangeAt nb 0 [.int .i64 me, .bool up, .bool gone, .bool gate, .int .i64 inc, .int .i64 now, .int .i64 sq, .int .i64 turn, .slice ta tl tc, .slice ca cl cc, .int .i64 pn, .int .i64 ps, .int .i64 pq, .bool pa, .slice da dl dc, .int .i64 cx, .int .i64 cy, .int .i64 ch, .int .i64 ce, .slice pla pll plc, .slice oa ol oc]) :
    Calls Tryz.prog 179 #[.slice a len cap, .func (.func 180) #[] #[.pointer (some ⟨pb, 0, none⟩)]] w fun e w' => e = .returned (.bool (!otA me len G)) ∧ Below w.heap.size w w' := by
  go_enter Tryz.func179, Tryz.ntmps179
  go_wp2_with fail
  refine (otIdx_any a len cap G nb me up gone gate inc now sq turn ta tl tc ca cl cc pn ps pq pa da dl dc cx cy ch ce pla pll plc oa ol oc pb _ hG hm hB hp hN).mono ?_
  rintro e w1 ⟨r, rfl, hr, b1⟩
  rcases hr with ⟨hs, rfl⟩ | ⟨hs, hr⟩
  · have hs' : Hid (otA me len G = true) := hs
    clear hs
    go_wp2
    go_ret
    exact ⟨ret_bool (by rw [hs'.out]; rfl), b1⟩
  · have hs' : Hid (otA me len G = false) := hs
    clear hs
    go_wp2
    go_ret
    exact ⟨ret_bool (by rw [hs'.out]; simp <;> omega), b1⟩
theorem otAll_any (a : Option Addr) (len cap : Nat) (G : Nat → Fg) (nb : Nat) (me : Int) (up gone gate : Bool) (inc now sq turn : Int) (ta : Option Addr) (tl tc : Nat) (ca : Option Addr) (cl cc : Nat) (pn ps pq : Int) (pa : Bool) (da : Option Addr) (dl dc : Nat) (cx cy ch ce : Int) (pla : Option Addr) (pll plc : Nat) (oa : Option Addr) (ol oc : Nat) (w : World) (hG : FgSl w a len G) (hm : len ≤ 1048576) (hB : FgB w len G) (hN : w.rangeAt nb 0 [.int .i64 me, .bool up, .bool gone, .bool gate, .int .i64 inc, .int .i64 now, .int .i64 sq, .int .i64 turn, .slice ta tl tc, .slice ca cl cc, .int .i64 pn, .int .i64 ps, .int .i64 pq, .bool pa, .slice da dl dc, .int .i64 cx, .int .i64 cy, .int .i64 ch, .int .i64 ce, .slice pla pll plc, .slice oa ol oc]) :
    Calls Tryz.prog 144 #[.slice a len cap, (.func (.func 145) #[] #[.pointer (some ⟨nb, 0, none⟩)])] w fun e w' => e = .returned (.bool (otA me len G)) ∧ Below w.heap.size w w' := by
  have b0 := balloc (.cells #[(.func (.func 145) #[] #[.pointer (some ⟨nb, 0, none⟩)])] 170) (Below.refl w.heap.size w)
  have X := Ws.box (w := w) #[(.func (.func 145) #[] #[.pointer (some ⟨nb, 0, none⟩)])] 170
  have dp := X.c 0 (.func (.func 145) #[] #[.pointer (some ⟨nb, 0, none⟩)]) rfl
  have hN' := range_below' hN b0
  go_enter Tryz.func144, Tryz.ntmps144
  go_upto_region 1 with fail
  generalize w.alloc (.cells #[(.func (.func 145) #[] #[.pointer (some ⟨nb, 0, none⟩)])] 170) = u at *
  clear X
  go_wp2_with fail
  refine (otCont_any a len cap G nb me up gone gate inc now sq turn ta tl tc ca cl cc pn ps pq pa da dl dc cx cy ch ce pla pll plc oa ol oc _ _ (hG.below b0) hm (hB.below b0) dp hN').mono ?_
  rintro e w1 ⟨rfl, b1⟩
  clear dp
  go_wp2
  go_ret
  exact ⟨ret_bool (by simp), btrans b0 b1⟩
/-- what a node knows of other sites is ok -/
def othsB (me : Int) (len : Nat) (G : Nat → Fg) : Bool := Fgasc len G && otA me len G
set_option maxRecDepth 20000 in
set_option maxHeartbeats 4000000 in
theorem others_any (me : Int) (up gone gate : Bool) (inc now sq turn : Int) (ta : Option Addr) (tl tc : Nat) (ca : Option Addr) (cl cc : Nat) (pn ps pq : Int) (pa : Bool) (da : Option Addr) (dl dc : Nat) (cx cy ch ce : Int) (pla : Option Addr) (pll plc : Nat) (oa : Option Addr) (ol oc : Nat) (G : Nat → Fg) (w : World) (hG : FgSl w oa ol G) (hm : ol ≤ 1048576) (hB : FgB w ol G) :
    Calls Tryz.prog 95 #[.agg #[.int .i64 me, .bool up, .bool gone, .bool gate, .int .i64 inc, .int .i64 now, .int .i64 sq, .int .i64 turn, .slice ta tl tc, .slice ca cl cc, .int .i64 pn, .int .i64 ps, .int .i64 pq, .bool pa, .slice da dl dc, .int .i64 cx, .int .i64 cy, .int .i64 ch, .int .i64 ce, .slice pla pll plc, .slice oa ol oc]] w fun r w' => r = .returned (.bool (othsB me ol G)) ∧ Below w.heap.size w w' := by
  have b0 := balloc (.cells #[.int .i64 me, .bool up, .bool gone, .bool gate, .int .i64 inc, .int .i64 now, .int .i64 sq, .int .i64 turn, .slice ta tl tc, .slice ca cl cc, .int .i64 pn, .int .i64 ps, .int .i64 pq, .bool pa, .slice da dl dc, .int .i64 cx, .int .i64 cy, .int .i64 ch, .int .i64 ce, .slice pla pll plc, .slice oa ol oc] 42) (Below.refl w.heap.size w)
  have X := Ws.box (w := w) #[.int .i64 me, .bool up, .bool gone, .bool gate, .int .i64 inc, .int .i64 now, .int .i64 sq, .int .i64 turn, .slice ta tl tc, .slice ca cl cc, .int .i64 pn, .int .i64 ps, .int .i64 pq, .bool pa, .slice da dl dc, .int .i64 cx, .int .i64 cy, .int .i64 ch, .int .i64 ce, .slice pla pll plc, .slice oa ol oc] 42
  go_enter Tryz.func95, Tryz.ntmps95
  go_upto_region 1 with fail
  generalize w.alloc (.cells #[.int .i64 me, .bool up, .bool gone, .bool gate, .int .i64 inc, .int .i64 now, .int .i64 sq, .int .i64 turn, .slice ta tl tc, .slice ca cl cc, .int .i64 pn, .int .i64 ps, .int .i64 pq, .bool pa, .slice da dl dc, .int .i64 cx, .int .i64 cy, .int .i64 ch, .int .i64 ce, .slice pla pll plc, .slice oa ol oc] 42) = u at *
  have r8 := X.range
  have d20 := X.c 20 (.slice oa ol oc) rfl
  clear X
  go_wp2_with fail
  refine (Fgasc_any oa ol oc G _ (hG.below b0) hm).mono ?_
  rintro r w1 ⟨rfl, k1⟩
  have b1 := btrans b0 k1
  have e20 := keep_below k1 d20
  have r9 := range_below' r8 k1
  clear d20 k1 r8
  have hst : Hid (othsB me ol G = (Fgasc ol G && otA me ol G)) := rfl
  generalize Fgasc ol G = q at *
  cases q
  · go_wp2
    go_ret
    exact ⟨ret_bool (by rw [hst.out]; rfl), b1⟩
  · go_wp2_with fail
    refine (otAll_any oa ol oc G _ me up gone gate inc now sq turn ta tl tc ca cl cc pn ps pq pa da dl dc cx cy ch ce pla pll plc oa ol oc _ (hG.below b1) hm (hB.below b1) r9).mono ?_
    rintro r w2 ⟨rfl, k2⟩
    clear e20
    go_wp2
    go_ret
    exact ⟨ret_bool (by rw [hst.out]; rfl), btrans b1 k2⟩
end Go.Proofs.YtdlaenbiamknlaaGreat
