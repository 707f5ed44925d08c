/- The exact law of WordWrite, walked. -/
import Derived.Test.YtibnojbhoepcdaaDoorExWordOk
import Derived.Test.YtibnojbhoepcdaaDoorWLb
namespace Go.Proofs.YtibnojbhoepcdaaDoor
open Go.ChangeShapes Go.WideShapes Go.ChangeAt Go.RowKit
attribute [local go_sem ↓] Go.wp_at_zero Go.wp_at_succ
/-- a box of values -/
structure Ws (w : World) (b : Nat) (xs : List Value) : Prop where
  lt : b < w.heap.size
  c : ∀ i v, xs[i]? = some v → w.cell? ⟨b, i, none⟩ = some v
theorem Ws.new {w : World} {b : Nat} {cs : Array Value} {t : TypeId} (h : w.heap[b]? = some (.cells cs t (0, 0))) : Ws w b cs.toList :=
  ⟨lt_of_block h, fun i v hv => cell_block h (by simpa using hv)⟩
theorem Ws.below {w w' : World} {b : Nat} {xs : List Value} (h : Ws w b xs) (k : Below w.heap.size w w') : Ws w' b xs :=
  ⟨Nat.lt_of_lt_of_le h.lt k.size, fun i v hv => keep_below k (h.c i v hv)⟩
set_option maxRecDepth 20000 in
set_option maxHeartbeats 16000000 in
theorem exWW_walk (p k f t s q x y z e : Int) (a : Option Addr) (len cap : Nat) (F : Nat → Fc) (w : World) (h : FSl w a len F) (hc : len ≤ cap) (hm : len ≤ maxLen) (ht : Tabs w) (hd : w.cell? ⟨5, 15, none⟩ = some (.int .u8 4)) :
    Calls Tryd.prog 3 #[.agg #[.int .i64 p, .int .i64 k, .int .i64 f, .int .i64 t, .int .i64 s, .int .i64 q, .int .i64 x, .int .i64 y, .int .i64 z, .int .i64 e, .slice a len cap]] w fun r w' => r = .returned (.bool true) ∧ Below w.heap.size w w' := by
  have b0 := balloc (.cells #[.int .i64 p, .int .i64 k, .int .i64 f, .int .i64 t, .int .i64 s, .int .i64 q, .int .i64 x, .int .i64 y, .int .i64 z, .int .i64 e, .slice a len cap] 26) (Below.refl w.heap.size w)
  have X0 : Ws (w.alloc (.cells #[.int .i64 p, .int .i64 k, .int .i64 f, .int .i64 t, .int .i64 s, .int .i64 q, .int .i64 x, .int .i64 y, .int .i64 z, .int .i64 e, .slice a len cap] 26)) w.heap.size [.int .i64 p, .int .i64 k, .int .i64 f, .int .i64 t, .int .i64 s, .int .i64 q, .int .i64 x, .int .i64 y, .int .i64 z, .int .i64 e, .slice a len cap] := Ws.new (heap_alloc_new w (.cells #[.int .i64 p, .int .i64 k, .int .i64 f, .int .i64 t, .int .i64 s, .int .i64 q, .int .i64 x, .int .i64 y, .int .i64 z, .int .i64 e, .slice a len cap] 26))
  by_cases hl : 1048576 < len
  · go_enter Tryd.func3, Tryd.ntmps3
    go_wp2_with fail
    refine (szWord_over p k f t s q x y z e a len cap _ hl hm).mono ?_
    rintro r w1 ⟨rfl, b1⟩
    have B1 := btrans b0 b1
    go_wp2
    go_ret
    exact ⟨rfl, B1⟩
  have hl' : len ≤ 1048576 := by omega
  clear hl hm
  go_enter Tryd.func3, Tryd.ntmps3
  go_upto_region 2 with fail
  generalize w.alloc (.cells #[.int .i64 p, .int .i64 k, .int .i64 f, .int .i64 t, .int .i64 s, .int .i64 q, .int .i64 x, .int .i64 y, .int .i64 z, .int .i64 e, .slice a len cap] 26) = u0 at *
  generalize hbA : w.heap.size = bA at X0 ⊢
  have d0 := X0.c 0 (.int .i64 p) rfl
  have d1 := X0.c 1 (.int .i64 k) rfl
  have d2 := X0.c 2 (.int .i64 f) rfl
  have d3 := X0.c 3 (.int .i64 t) rfl
  have d4 := X0.c 4 (.int .i64 s) rfl
  have d5 := X0.c 5 (.int .i64 q) rfl
  have d6 := X0.c 6 (.int .i64 x) rfl
  have d7 := X0.c 7 (.int .i64 y) rfl
  have d8 := X0.c 8 (.int .i64 z) rfl
  have d9 := X0.c 9 (.int .i64 e) rfl
  have d10 := X0.c 10 (.slice a len cap) rfl
  go_wp2_with fail
  refine (szWord_in p k f t s q x y z e a len cap _ hl').mono ?_
  rintro r w1 ⟨n, rfl, b1⟩
  have n0 : ¬ ((n : Int) < 0) := by omega
  have B1 := btrans b0 b1
  have X1 := X0.below b1
  clear b0 b1 X0 d0 d1 d2 d3 d4 d5 d6 d7 d8 d9 d10
  go_upto_region 5 with fail
  have d0 := X1.c 0 (.int .i64 p) rfl
  have d1 := X1.c 1 (.int .i64 k) rfl
  have d2 := X1.c 2 (.int .i64 f) rfl
  have d3 := X1.c 3 (.int .i64 t) rfl
  have d4 := X1.c 4 (.int .i64 s) rfl
  have d5 := X1.c 5 (.int .i64 q) rfl
  have d6 := X1.c 6 (.int .i64 x) rfl
  have d7 := X1.c 7 (.int .i64 y) rfl
  have d8 := X1.c 8 (.int .i64 z) rfl
  have d9 := X1.c 9 (.int .i64 e) rfl
  have d10 := X1.c 10 (.slice a len cap) rfl
  go_wp2_with fail
  refine (toWord_any p k f t s q x y z e a len cap F _ (h.below B1) hl' hc).mono ?_
  rintro r w2 ⟨b2, rfl, f2, bb2⟩
  have B2 := btrans B1 bb2
  have X2 := X1.below bb2
  clear B1 bb2 X1 d0 d1 d2 d3 d4 d5 d6 d7 d8 d9 d10
  obtain ⟨TX, hTX⟩ : ∃ TX, Hid (wtx p k f t s q x y z e len F = TX) := ⟨_, rfl⟩
  have hL := lwrite_any p k f t s q x y z e (some ⟨b2, 0, none⟩) len len F w2 f2 hl'
  rw [hTX.out] at hL
  go_wp2_with fail
  refine hL.mono ?_
  rintro r w22 ⟨rfl, bb22⟩
  have B22 := btrans B2 bb22
  have X22 := X2.below bb22
  clear B2 bb22 f2 X2 hL
  go_upto_region 6 with fail
  have d0 := X22.c 0 (.int .i64 p) rfl
  have d1 := X22.c 1 (.int .i64 k) rfl
  have d2 := X22.c 2 (.int .i64 f) rfl
  have d3 := X22.c 3 (.int .i64 t) rfl
  have d4 := X22.c 4 (.int .i64 s) rfl
  have d5 := X22.c 5 (.int .i64 q) rfl
  have d6 := X22.c 6 (.int .i64 x) rfl
  have d7 := X22.c 7 (.int .i64 y) rfl
  have d8 := X22.c 8 (.int .i64 z) rfl
  have d9 := X22.c 9 (.int .i64 e) rfl
  have d10 := X22.c 10 (.slice a len cap) rfl
  go_wp2_with fail
  refine (toWord_any p k f t s q x y z e a len cap F _ (h.below B22) hl' hc).mono ?_
  rintro r w3 ⟨b3, rfl, f3, bb3⟩
  have ba := balloc (.cells #[.int .i64 p, .int .i64 k, .int .i64 f, .int .i64 t, .int .i64 s, .int .i64 q, .int .i64 x, .int .i64 y, .int .i64 z, .int .i64 e, .slice (some ⟨b3, 0, none⟩) len len] 32) (Below.refl w3.heap.size w3)
  have XB : Ws (w3.alloc (.cells #[.int .i64 p, .int .i64 k, .int .i64 f, .int .i64 t, .int .i64 s, .int .i64 q, .int .i64 x, .int .i64 y, .int .i64 z, .int .i64 e, .slice (some ⟨b3, 0, none⟩) len len] 32)) w3.heap.size [.int .i64 p, .int .i64 k, .int .i64 f, .int .i64 t, .int .i64 s, .int .i64 q, .int .i64 x, .int .i64 y, .int .i64 z, .int .i64 e, .slice (some ⟨b3, 0, none⟩) len len] := Ws.new (heap_alloc_new w3 (.cells #[.int .i64 p, .int .i64 k, .int .i64 f, .int .i64 t, .int .i64 s, .int .i64 q, .int .i64 x, .int .i64 y, .int .i64 z, .int .i64 e, .slice (some ⟨b3, 0, none⟩) len len] 32))
  have X3 := (X22.below bb3).below ba
  have B3 := btrans (btrans B22 bb3) ba
  have f4 := f3.below ba
  clear B22 bb3 f3 X22 d0 d1 d2 d3 d4 d5 d6 d7 d8 d9 d10 ba
  go_upto_region 7 with fail
  generalize w3.alloc (.cells #[.int .i64 p, .int .i64 k, .int .i64 f, .int .i64 t, .int .i64 s, .int .i64 q, .int .i64 x, .int .i64 y, .int .i64 z, .int .i64 e, .slice (some ⟨b3, 0, none⟩) len len] 32) = u3 at *
  generalize w3.heap.size = bB at *
  have hW := write_any p k f t s q x y z e (some ⟨b3, 0, none⟩) len len F u3 f4 hl' (ht.below B3) (keep_below B3 hd)
  rw [hTX.out] at hW
  have d0 := XB.c 0 (.int .i64 p) rfl
  have d1 := XB.c 1 (.int .i64 k) rfl
  have d2 := XB.c 2 (.int .i64 f) rfl
  have d3 := XB.c 3 (.int .i64 t) rfl
  have d4 := XB.c 4 (.int .i64 s) rfl
  have d5 := XB.c 5 (.int .i64 q) rfl
  have d6 := XB.c 6 (.int .i64 x) rfl
  have d7 := XB.c 7 (.int .i64 y) rfl
  have d8 := XB.c 8 (.int .i64 z) rfl
  have d9 := XB.c 9 (.int .i64 e) rfl
  have d10 := XB.c 10 (.slice (some ⟨b3, 0, none⟩) len len) rfl
  go_wp2_with fail
  refine hW.mono ?_
  rintro r w5 ⟨rfl, bb5⟩
  have B5 := btrans B3 bb5
  have f5 := f4.below bb5
  have YA := (X3.below bb5).below (qd (Below.refl _ _))
  have YB := (XB.below bb5).below (qd (Below.refl _ _))
  clear B3 bb5 f4 XB X3 hW d0 d1 d2 d3 d4 d5 d6 d7 d8 d9 d10
  have hne : (TX.toList != TX.toList) = false := by simp
  go_upto_region 10 with fail
  refine wp_region_held_drew (S := fun w' => Ws w' bA [.int .i64 p, .int .i64 k, .int .i64 f, .int .i64 t, .int .i64 s, .int .i64 q, .int .i64 x, .int .i64 y, .int .i64 z, .int .i64 e, .slice a len cap] ∧ Ws w' bB [.int .i64 p, .int .i64 k, .int .i64 f, .int .i64 t, .int .i64 s, .int .i64 q, .int .i64 x, .int .i64 y, .int .i64 z, .int .i64 e, .slice (some ⟨b3, 0, none⟩) len len]) (by kernel_rfl) ?_ (fun hHeld => ?_)
  · (try dsimp only); exact ⟨YA, YB⟩
  refine wpAnyH_take (i := 0) (oi := { dst := some 22, op := Go.Op.load 32 (Go.Operand.tmp 5), type := 32, pos := "exact.go:2599", after := #[], guard := none }) (v := .agg #[.int .i64 p, .int .i64 k, .int .i64 f, .int .i64 t, .int .i64 s, .int .i64 q, .int .i64 x, .int .i64 y, .int .i64 z, .int .i64 e, .slice (some ⟨b3, 0, none⟩) len len]) rfl (by kernel_rfl) (by kernel_rfl) (by kernel_rfl) (fun _ _ _ h => h) (Or.inl ⟨by rfl, ?_⟩) (by assumption) ?_
  · (intro w hSw; have q0 := hSw.2.c 0 (.int .i64 p) rfl; have q1 := hSw.2.c 1 (.int .i64 k) rfl; have q2 := hSw.2.c 2 (.int .i64 f) rfl; have q3 := hSw.2.c 3 (.int .i64 t) rfl; have q4 := hSw.2.c 4 (.int .i64 s) rfl; have q5 := hSw.2.c 5 (.int .i64 q) rfl; have q6 := hSw.2.c 6 (.int .i64 x) rfl; have q7 := hSw.2.c 7 (.int .i64 y) rfl; have q8 := hSw.2.c 8 (.int .i64 z) rfl; have q9 := hSw.2.c 9 (.int .i64 e) rfl; have q10 := hSw.2.c 10 (.slice (some ⟨b3, 0, none⟩) len len) rfl; go_simp)
  (try simp only [Act.put, List.setIfInBounds_toArray, List.set_cons_zero, List.set_cons_succ])
  refine wpAnyH_take (i := 1) (oi := { dst := some 23, op := Go.Op.load 26 (Go.Operand.tmp 1), type := 26, pos := "exact.go:2599", after := #[], guard := none }) (v := .agg #[.int .i64 p, .int .i64 k, .int .i64 f, .int .i64 t, .int .i64 s, .int .i64 q, .int .i64 x, .int .i64 y, .int .i64 z, .int .i64 e, .slice a len cap]) rfl (by kernel_rfl) (by kernel_rfl) (by kernel_rfl) (fun _ _ _ h => h) (Or.inl ⟨by rfl, ?_⟩) (by assumption) ?_
  · (intro w hSw; have q0 := hSw.1.c 0 (.int .i64 p) rfl; have q1 := hSw.1.c 1 (.int .i64 k) rfl; have q2 := hSw.1.c 2 (.int .i64 f) rfl; have q3 := hSw.1.c 3 (.int .i64 t) rfl; have q4 := hSw.1.c 4 (.int .i64 s) rfl; have q5 := hSw.1.c 5 (.int .i64 q) rfl; have q6 := hSw.1.c 6 (.int .i64 x) rfl; have q7 := hSw.1.c 7 (.int .i64 y) rfl; have q8 := hSw.1.c 8 (.int .i64 z) rfl; have q9 := hSw.1.c 9 (.int .i64 e) rfl; have q10 := hSw.1.c 10 (.slice a len cap) rfl; go_simp)
  (try simp only [Act.put, List.setIfInBounds_toArray, List.set_cons_zero, List.set_cons_succ])
  refine wpAnyH_ready (rs := [2]) (by kernel_rfl) (by simp) ?_
  refine AllReadyH.cons (o := { dst := some 24, op := Go.Op.call { callee := Go.Callee.value (Go.Operand.func 6), args := #[Go.Operand.tmp 23], argTypes := #[26] }, type := 32, pos := "exact.go:2599", after := #[{ on := 1, ground := Go.Ground.data }], guard := none }) rfl (fun K hK => ?_) AllReadyH.nil
  go_simp
  refine (toWord_any p k f t s q x y z e a len cap F _ (h.below (qd B5)) hl' hc).mono ?_; rintro r w6 ⟨b6, rfl, f6, bb6⟩; have ZA := YA.below bb6; have ZB := YB.below bb6; have g6 := (f5.below (qd (Below.refl _ _))).below bb6
  go_wp2_with fail
  refine hK.out _ _ ?_ (fun hHeld => ?_)
  · (try dsimp only); exact ⟨ZA, ZB⟩
  clear hK K
  (try simp only [Act.put, List.setIfInBounds_toArray, List.set_cons_zero, List.set_cons_succ])
  refine wpAnyH_ready (rs := [3]) (by kernel_rfl) (by simp) ?_
  refine AllReadyH.cons (o := { dst := some 25, op := Go.Op.call { callee := Go.Callee.value (Go.Operand.func 8), args := #[Go.Operand.tmp 22, Go.Operand.tmp 24], argTypes := #[32, 32] }, type := 4, pos := "exact.go:2599", after := #[{ on := 0, ground := Go.Ground.data }, { on := 2, ground := Go.Ground.data }, { on := 2, ground := Go.Ground.chain }], guard := none }) rfl (fun K hK => ?_) AllReadyH.nil
  go_simp
  refine (eqWord_same p k f t s q x y z e _ _ len len len F _ g6 f6 hl').mono ?_; rintro r w7 ⟨rfl, bb7⟩
  go_wp2_with fail
  refine hK.out _ _ ?_ (fun hHeld => ?_)
  · (try dsimp only); exact ⟨ZA.below bb7, ZB.below bb7⟩
  clear hK K
  (try simp only [Act.put, List.setIfInBounds_toArray, List.set_cons_zero, List.set_cons_succ])
  refine wpAnyH_take (i := 4) (oi := { dst := some 26, op := Go.Op.unOp Go.UnOp.not 4 (Go.Operand.tmp 25), type := 4, pos := "exact.go:2599", after := #[{ on := 3, ground := Go.Ground.data }], guard := none }) (v := ?_) rfl (by kernel_rfl) (by kernel_rfl) (by kernel_rfl) (fun _ _ _ h => h) (Or.inl ⟨by rfl, ?_⟩) (by assumption) ?_
  rotate_left 1
  · (intro w hSw; (try dsimp only at hSw); go_simp; try with_reducible rfl)
  (try simp only [Act.put, List.setIfInBounds_toArray, List.set_cons_zero, List.set_cons_succ])
  refine wpAnyH_done (by kernel_rfl) ?_ _
  clear hHeld
  have B7 := btrans (btrans (qd B5) bb6) bb7
  go_wp2
  go_ret
  exact ⟨rfl, B7⟩
end Go.Proofs.YtibnojbhoepcdaaDoor
