/- Nodes: how great the lists are that they hold; copies are the same. -/
import Derived.Test.YtgcdcfjaeehnbaaGreatNd21
import Derived.Test.YtgcdcfjaeehnbaaGreatInts
namespace Go.Proofs.YtgcdcfjaeehnbaaGreat
open Go.ChangeShapes Go.WideShapes Go.ChangeAt Go.RowKit
set_option maxRecDepth 20000
set_option maxHeartbeats 4000000
attribute [local go_sem ↓] Go.wp_at_zero Go.wp_at_succ
theorem Dtsz_any (n i s : Int) (ba : Option Addr) (bl bc : Nat) (left : Int) (w : World) (h0 : 0 ≤ left) (h1 : left ≤ 1048576) (hl : bl ≤ maxLen) :
  Calls Tryz.prog 75 #[.agg #[.int .i64 n, .int .i64 i, .int .i64 s, .slice ba bl bc], .int .i64 left] w fun e w' => e = .returned (.int .i64 (if left < (bl : Int) then -1 else left - bl)) ∧ Below w.heap.size w w' := by
 go_enter Tryz.func75, Tryz.ntmps75
 go_upto_region 1 with fail
 generalize hu : w.alloc (.cells _ _) = u
 obtain ⟨X, b0⟩ := box1 hu
 clear hu
 have d := X.c 3 (.slice ba bl bc) rfl
 clear X
 go_wp2_with fail
 refine (szInts_any ba bl bc left _ h0 h1 hl).mono ?_
 rintro r w1 ⟨rfl, hw⟩
 obtain rfl := hw.symm
 clear hw
 by_cases eL : left < (bl : Int)
 ·rw [if_pos eL]
  go_wp2
  go_ret
  exact ⟨rfl, b0⟩
 ·rw [if_neg eL]
  have e3 : ¬ left - (bl : Int) < 0 := by omega
  go_wp2
  go_ret
  exact ⟨rfl, b0⟩
def DtMax (len : Nat) (F : Nat → Dt) : Prop := ∀ j, j < len → (F j).bl ≤ 1048576
theorem DtszS_any (a : Option Addr) (len cap : Nat) (F : Nat → Dt) (left : Int) (w : World) (hSl : DtSl w a len F) (h0 : 0 ≤ left) (h1 : left ≤ 1048576) (hl : len ≤ maxLen) (hb : ∀ j, j < len → (F j).bl ≤ maxLen) :
  Calls Tryz.prog 25 #[.slice a len cap, .int .i64 left] w fun e w' => ∃ r : Int, e = .returned (.int .i64 r) ∧ (r = -1 ∨ (0 ≤ r ∧ r ≤ left ∧ len ≤ 1048576 ∧ DtMax len F)) ∧ Below w.heap.size w w' := by
 have hl' := hl
 unfold maxLen at hl'
 go_enter Tryz.func25, Tryz.ntmps25
 by_cases hlt0 : left < (len : Int)
 ·have e1 : left - (len : Int) < 0 := by omega
  go_wp2
  all_goals (go_ret; exact ⟨-1, rfl, .inl rfl, Below.refl _ _⟩)
 have e1 : ¬ left - (len : Int) < 0 := by omega
 have e9 : IntKind.i64.wrap (left - (len : Int)) = left - (len : Int) := by rw [IntKind.wrap_i64]; omega
 have hlen : len ≤ 1048576 := by omega
 have e2 : Hid (0 ≤ left - (len : Int) ∧ left - (len : Int) ≤ left) := ⟨by omega, by omega⟩
 go_wp2
 generalize left - (len : Int) = z at *
 go_loopw [1, 5] (fun l i wr => ∃ (k : Nat) (yl : Int), k ≤ len ∧ i = .int .i64 k ∧ l = .int .i64 yl ∧ 0 ≤ yl ∧ yl ≤ left ∧ Below w.heap.size w wr ∧ (∀ j, j < k → (F j).bl ≤ 1048576)) (fun _ i _ => len - (intOf i).toNat)
 case atStart => exact ⟨0, z, by omega, rfl, rfl, e2.out.1, e2.out.2, Below.refl _ _, fun j hj => by omega⟩
 case round =>
  obtain ⟨k, yl, hk, rfl, rfl, hy0, hy1, hbb, hall⟩ := hrel
  by_cases hlt : k < len
  ·obtain ⟨b, off, rfl, hbl, hf⟩ := hSl (by omega)
   obtain ⟨c0, c1, c2, c3⟩ := (hf.below hbb hbl) k hlt
   have i0 : (0 : Int) ≤ (k : Int) := by omega
   have i1 : (k : Int) < (len : Int) := by omega
   have hbk := hb k hlt
   have hyes : Hid ((F k).bl ≤ 1048576 → ∀ j, j < k + 1 → (F j).bl ≤ 1048576) := fun e j hj => by
    by_cases ej : j = k
    ·subst ej; exact e
    ·exact hall j (by omega)
   clear hall
   generalize F k = x at *
   obtain ⟨n, i, s, ba, bl, bc, bf⟩ := x
   dsimp only at c0 c1 c2 c3 hbk hyes
   go_wp2_with fail
   refine (Dtsz_any n i s ba bl bc yl _ hy0 (by omega) hbk).mono ?_
   rintro r w1 ⟨rfl, k1⟩
   clear c0 c1 c2 c3
   by_cases eL : yl < (bl : Int)
   ·rw [if_pos eL]
    go_wp2
    go_ret
    exact ⟨-1, rfl, .inl rfl, btrans hbb k1⟩
   ·rw [if_neg eL]
    have e2 : Hid (0 ≤ yl - (bl : Int) ∧ yl - (bl : Int) ≤ left) := ⟨by omega, by omega⟩
    have e4 := hyes.out (by omega)
    generalize yl - (bl : Int) = z2 at *
    have e3 : ¬ z2 < 0 := by have := e2.out; omega
    clear eL hyes
    go_wp2
    go_roundw
    case rel => exact ⟨k + 1, z2, by omega, by go_num, rfl, e2.out.1, e2.out.2, btrans hbb k1, e4⟩
    case measure => simp [intOf]; omega
  ·go_wp2
   go_ret
   exact ⟨yl, rfl, .inr ⟨hy0, hy1, hlen, fun j hj => hall j (by omega)⟩, hbb⟩
theorem Dteq_same (n i s : Int) (ba ba' : Option Addr) (bl bc bc' : Nat) (bf : Nat → Int) (w : World) (hB : ISl w ba bl bf) (hB' : ISl w ba' bl bf) (hbl : bl ≤ 1048576) :
  Calls Tryz.prog 121 #[.agg #[.int .i64 n, .int .i64 i, .int .i64 s, .slice ba bl bc], .agg #[.int .i64 n, .int .i64 i, .int .i64 s, .slice ba' bl bc']] w fun e w' => e = .returned (.bool true) ∧ Below w.heap.size w w' := by
 have b0 := balloc (.cells #[.int .i64 n, .int .i64 i, .int .i64 s, .slice ba' bl bc'] 121) (balloc (.cells #[.int .i64 n, .int .i64 i, .int .i64 s, .slice ba bl bc] 121) (Below.refl w.heap.size w))
 have X := (Ws.box (w := w) #[.int .i64 n, .int .i64 i, .int .i64 s, .slice ba bl bc] 121).alloc (.cells #[.int .i64 n, .int .i64 i, .int .i64 s, .slice ba' bl bc'] 121)
 have Y := Ws.box (w := w.alloc (.cells #[.int .i64 n, .int .i64 i, .int .i64 s, .slice ba bl bc] 121)) #[.int .i64 n, .int .i64 i, .int .i64 s, .slice ba' bl bc'] 121
 have hs1 : (w.alloc (.cells #[.int .i64 n, .int .i64 i, .int .i64 s, .slice ba bl bc] 121)).heap.size = w.heap.size + 1 := by simp [go_sem]
 rw [hs1] at Y
 go_enter Tryz.func121, Tryz.ntmps121
 go_upto_region 1 with fail
 generalize (w.alloc (.cells #[.int .i64 n, .int .i64 i, .int .i64 s, .slice ba bl bc] 121)).alloc (.cells #[.int .i64 n, .int .i64 i, .int .i64 s, .slice ba' bl bc'] 121) = u at *
 have x0 := X.c 0 (.int .i64 n) rfl
 have y0 := Y.c 0 (.int .i64 n) rfl
 have x1 := X.c 1 (.int .i64 i) rfl
 have y1 := Y.c 1 (.int .i64 i) rfl
 have x2 := X.c 2 (.int .i64 s) rfl
 have y2 := Y.c 2 (.int .i64 s) rfl
 have x3 := X.c 3 (.slice ba bl bc) rfl
 have y3 := Y.c 3 (.slice ba' bl bc') rfl
 clear X Y
 go_wp2_with fail
 refine (eqInts_same ba ba' bl bc bc' bf _ (hB.below b0) (hB'.below b0) hbl).mono ?_
 rintro r w2 ⟨rfl, k2⟩
 clear x0 y0 x1 y1 x2 y2 x3 y3
 go_wp2
 go_ret
 exact ⟨rfl, btrans b0 k2⟩
def o63_6 : Array Oper := #[{ dst := some 17, op := .move (.tmp 0), type := 37, pos := "exact.go:226", after := #[], guard := none }, { dst := some 18, op := .move (.tmp 5), type := 3, pos := "exact.go:226", after := #[], guard := none }, { dst := some 19, op := .indexAddr 37 (.tmp 17) (.tmp 18), type := 0, pos := "exact.go:226", after := #[{ on := 0, ground := .data }, { on := 1, ground := .data }], guard := none }, { dst := some 20, op := .load 121 (.tmp 19), type := 121, pos := "exact.go:226", after := #[{ on := 2, ground := .data }], guard := none }, { dst := some 21, op := .move (.tmp 1), type := 37, pos := "exact.go:226", after := #[], guard := none }, { dst := some 22, op := .move (.tmp 5), type := 3, pos := "exact.go:226", after := #[], guard := none }, { dst := some 23, op := .indexAddr 37 (.tmp 21) (.tmp 22), type := 0, pos := "exact.go:226", after := #[{ on := 4, ground := .data }, { on := 5, ground := .data }], guard := none }, { dst := some 24, op := .load 121 (.tmp 23), type := 121, pos := "exact.go:226", after := #[{ on := 6, ground := .data }], guard := none }, { dst := some 25, op := .call { callee := .value (.func 121), args := #[.tmp 20, .tmp 24], argTypes := #[121, 121] }, type := 4, pos := "exact.go:226", after := #[{ on := 3, ground := .data }, { on := 7, ground := .data }], guard := none }, { dst := some 26, op := .unOp .not 4 (.tmp 25), type := 4, pos := "exact.go:226", after := #[{ on := 8, ground := .data }], guard := none }]
theorem fo63_6 : FreeN .any o63_6 10 := ⟨⟨by kernel_rfl⟩, by kernel_rfl⟩
theorem o63_6_0 : o63_6[0]? = some { dst := some 17, op := .move (.tmp 0), type := 37, pos := "exact.go:226", after := #[], guard := none } := rfl
theorem o63_6_1 : o63_6[1]? = some { dst := some 18, op := .move (.tmp 5), type := 3, pos := "exact.go:226", after := #[], guard := none } := rfl
theorem o63_6_2 : o63_6[2]? = some { dst := some 19, op := .indexAddr 37 (.tmp 17) (.tmp 18), type := 0, pos := "exact.go:226", after := #[{ on := 0, ground := .data }, { on := 1, ground := .data }], guard := none } := rfl
theorem o63_6_3 : o63_6[3]? = some { dst := some 20, op := .load 121 (.tmp 19), type := 121, pos := "exact.go:226", after := #[{ on := 2, ground := .data }], guard := none } := rfl
theorem o63_6_4 : o63_6[4]? = some { dst := some 21, op := .move (.tmp 1), type := 37, pos := "exact.go:226", after := #[], guard := none } := rfl
theorem o63_6_5 : o63_6[5]? = some { dst := some 22, op := .move (.tmp 5), type := 3, pos := "exact.go:226", after := #[], guard := none } := rfl
theorem o63_6_6 : o63_6[6]? = some { dst := some 23, op := .indexAddr 37 (.tmp 21) (.tmp 22), type := 0, pos := "exact.go:226", after := #[{ on := 4, ground := .data }, { on := 5, ground := .data }], guard := none } := rfl
theorem o63_6_7 : o63_6[7]? = some { dst := some 24, op := .load 121 (.tmp 23), type := 121, pos := "exact.go:226", after := #[{ on := 6, ground := .data }], guard := none } := rfl
theorem o63_6_8 : o63_6[8]? = some { dst := some 25, op := .call { callee := .value (.func 121), args := #[.tmp 20, .tmp 24], argTypes := #[121, 121] }, type := 4, pos := "exact.go:226", after := #[{ on := 3, ground := .data }, { on := 7, ground := .data }], guard := none } := rfl
theorem o63_6_9 : o63_6[9]? = some { dst := some 26, op := .unOp .not 4 (.tmp 25), type := 4, pos := "exact.go:226", after := #[{ on := 8, ground := .data }], guard := none } := rfl
theorem DteqS_same (a a' : Option Addr) (len cap cap' : Nat) (F G : Nat → Dt) (w : World) (h : DtSl w a len F) (h' : DtSl w a' len G) (hB : DtB w len F) (hB' : DtB w len G) (hE : ∀ j, DtEq (F j) (G j)) (hl : len ≤ 1048576) :
  Calls Tryz.prog 49 #[.slice a len cap, .slice a' len cap'] w fun e w' => e = .returned (.bool true) ∧ Below w.heap.size w w' := by
 go_enter Tryz.func49, Tryz.ntmps49
 go_wp2
 go_loopw [5] (fun i wr => ∃ k : Nat, k ≤ len ∧ i = .int .i64 k ∧ Below w.heap.size w wr) (fun i _ => len - (intOf i).toNat)
 case atStart => exact ⟨0, by omega, rfl, Below.refl _ _⟩
 case round =>
  obtain ⟨k, hk, rfl, hb⟩ := hrel
  by_cases hlt : k < len
  ·obtain ⟨b, off, rfl, hbl, hf⟩ := h (by omega)
   obtain ⟨b', off', rfl, hbl', hf'⟩ := h' (by omega)
   obtain ⟨c0, c1, c2, c3⟩ := (hf.below hb hbl) k hlt
   obtain ⟨d0, d1, d2, d3⟩ := (hf'.below hb hbl') k hlt
   have hS := (hB k hlt).1.below hb
   have hS' := (hB' k hlt).1.below hb
   have hbk := (hB k hlt).2
   have hEk := hE k
   clear hE hB hB'
   generalize F k = gx at *
   generalize G k = gy at *
   obtain ⟨n, i, s, ba, bl, bc, bf⟩ := gx
   obtain ⟨n', i', s', ba', bl', bc', bf'⟩ := gy
   obtain ⟨e0, e1, e2, e3, e4⟩ := hEk
   dsimp only at c0 d0 c1 d1 c2 d2 c3 d3 hS hS' hbk e0 e1 e2 e3 e4
   subst e0
   subst e1
   subst e2
   subst e3
   subst e4
   have i0 : (0 : Int) ≤ (k : Int) := by omega
   have i1 : (k : Int) < (len : Int) := by omega
   go_upto_region 6 with fail
   refine wp_region_m (S := (fun w' => w'.cell? ⟨b, off + k * 4, none⟩ = some (.int .i64 n) ∧ w'.cell? ⟨b, off + k * 4 + 1, none⟩ = some (.int .i64 i) ∧ w'.cell? ⟨b, off + k * 4 + 2, none⟩ = some (.int .i64 s) ∧ w'.cell? ⟨b, off + k * 4 + 3, none⟩ = some (.slice ba bl bc) ∧ w'.cell? ⟨b', off' + k * 4, none⟩ = some (.int .i64 n) ∧ w'.cell? ⟨b', off' + k * 4 + 1, none⟩ = some (.int .i64 i) ∧ w'.cell? ⟨b', off' + k * 4 + 2, none⟩ = some (.int .i64 s) ∧ w'.cell? ⟨b', off' + k * 4 + 3, none⟩ = some (.slice ba' bl bc') ∧ ISl w' ba bl bf ∧ ISl w' ba' bl bf ∧ Below w.heap.size w w')) o63_6 10 fo63_6 ?_ (fun hHeld => ?_)
   ·(try dsimp only); exact ⟨keep_drew c0, keep_drew c1, keep_drew c2, keep_drew c3, keep_drew d0, keep_drew d1, keep_drew d2, keep_drew d3, hS.below (Below.refl _ _).drew, hS'.below (Below.refl _ _).drew, hb.drew⟩
   refine stY fo63_6 o63_6_0 1 ?_; try simp only [putQ]; refine stY fo63_6 o63_6_1 3 ?_; try simp only [putQ]; refine stY fo63_6 o63_6_2 7 ?_; try simp only [putQ]; refine stY fo63_6 o63_6_3 15 ?_; try simp only [putQ]; refine stY fo63_6 o63_6_4 31 ?_; try simp only [putQ]; refine stY fo63_6 o63_6_5 63 ?_; try simp only [putQ]; refine stY fo63_6 o63_6_6 127 ?_; try simp only [putQ]; refine stY fo63_6 o63_6_7 255 ?_; try simp only [putQ]
   refine stC fo63_6 o63_6_8 511 (fun K hK => ?_)
   go_simp
   refine (Dteq_same n i s ba ba' bl bc bc' bf _ hHeld.2.2.2.2.2.2.2.2.1 hHeld.2.2.2.2.2.2.2.2.2.1 hbk).mono ?_; rintro r w1 ⟨rfl, k1⟩
   go_wp2_with fail
   refine hK.out _ _ ?_ (fun hHeld => ?_)
   ·(try dsimp only); exact ⟨keep_below k1 hHeld.1, keep_below k1 hHeld.2.1, keep_below k1 hHeld.2.2.1, keep_below k1 hHeld.2.2.2.1, keep_below k1 hHeld.2.2.2.2.1, keep_below k1 hHeld.2.2.2.2.2.1, keep_below k1 hHeld.2.2.2.2.2.2.1, keep_below k1 hHeld.2.2.2.2.2.2.2.1, hHeld.2.2.2.2.2.2.2.2.1.below k1, hHeld.2.2.2.2.2.2.2.2.2.1.below k1, btrans hHeld.2.2.2.2.2.2.2.2.2.2 k1⟩
   clear hK K
   (try simp only [putQ]); refine stY fo63_6 o63_6_9 1023 ?_; try simp only [putQ]
   refine wpAnyH_done (by kernel_rfl) ?_ _
   go_wp2
   go_roundw
   case rel => exact ⟨k + 1, by omega, by go_num, hHeld.2.2.2.2.2.2.2.2.2.2⟩
   case measure => simp [intOf]; omega
  ·go_wp2
   go_ret
   exact ⟨rfl, hb⟩
theorem Plsz_any (n x y h e : Int) (ba : Option Addr) (bl bc : Nat) (left : Int) (w : World) (h0 : 0 ≤ left) (h1 : left ≤ 1048576) (hl : bl ≤ maxLen) :
  Calls Tryz.prog 76 #[.agg #[.int .i64 n, .int .i64 x, .int .i64 y, .int .i64 h, .int .i64 e, .slice ba bl bc], .int .i64 left] w fun e w' => e = .returned (.int .i64 (if left < (bl : Int) then -1 else left - bl)) ∧ Below w.heap.size w w' := by
 go_enter Tryz.func76, Tryz.ntmps76
 go_upto_region 1 with fail
 generalize hu : w.alloc (.cells _ _) = u
 obtain ⟨X, b0⟩ := box1 hu
 clear hu
 have d := X.c 5 (.slice ba bl bc) rfl
 clear X
 go_wp2_with fail
 refine (szInts_any ba bl bc left _ h0 h1 hl).mono ?_
 rintro r w1 ⟨rfl, hw⟩
 obtain rfl := hw.symm
 clear hw
 by_cases eL : left < (bl : Int)
 ·rw [if_pos eL]
  go_wp2
  go_ret
  exact ⟨rfl, b0⟩
 ·rw [if_neg eL]
  have e3 : ¬ left - (bl : Int) < 0 := by omega
  go_wp2
  go_ret
  exact ⟨rfl, b0⟩
def PlMax (len : Nat) (F : Nat → Pl) : Prop := ∀ j, j < len → (F j).bl ≤ 1048576
theorem PlszS_any (a : Option Addr) (len cap : Nat) (F : Nat → Pl) (left : Int) (w : World) (hSl : PlSl w a len F) (h0 : 0 ≤ left) (h1 : left ≤ 1048576) (hl : len ≤ maxLen) (hb : ∀ j, j < len → (F j).bl ≤ maxLen) :
  Calls Tryz.prog 26 #[.slice a len cap, .int .i64 left] w fun e w' => ∃ r : Int, e = .returned (.int .i64 r) ∧ (r = -1 ∨ (0 ≤ r ∧ r ≤ left ∧ len ≤ 1048576 ∧ PlMax len F)) ∧ Below w.heap.size w w' := by
 have hl' := hl
 unfold maxLen at hl'
 go_enter Tryz.func26, Tryz.ntmps26
 by_cases hlt0 : left < (len : Int)
 ·have e1 : left - (len : Int) < 0 := by omega
  go_wp2
  all_goals (go_ret; exact ⟨-1, rfl, .inl rfl, Below.refl _ _⟩)
 have e1 : ¬ left - (len : Int) < 0 := by omega
 have e9 : IntKind.i64.wrap (left - (len : Int)) = left - (len : Int) := by rw [IntKind.wrap_i64]; omega
 have hlen : len ≤ 1048576 := by omega
 have e2 : Hid (0 ≤ left - (len : Int) ∧ left - (len : Int) ≤ left) := ⟨by omega, by omega⟩
 go_wp2
 generalize left - (len : Int) = z at *
 go_loopw [1, 5] (fun l i wr => ∃ (k : Nat) (yl : Int), k ≤ len ∧ i = .int .i64 k ∧ l = .int .i64 yl ∧ 0 ≤ yl ∧ yl ≤ left ∧ Below w.heap.size w wr ∧ (∀ j, j < k → (F j).bl ≤ 1048576)) (fun _ i _ => len - (intOf i).toNat)
 case atStart => exact ⟨0, z, by omega, rfl, rfl, e2.out.1, e2.out.2, Below.refl _ _, fun j hj => by omega⟩
 case round =>
  obtain ⟨k, yl, hk, rfl, rfl, hy0, hy1, hbb, hall⟩ := hrel
  by_cases hlt : k < len
  ·obtain ⟨b, off, rfl, hbl, hf⟩ := hSl (by omega)
   obtain ⟨c0, c1, c2, c3, c4, c5⟩ := (hf.below hbb hbl) k hlt
   have i0 : (0 : Int) ≤ (k : Int) := by omega
   have i1 : (k : Int) < (len : Int) := by omega
   have hbk := hb k hlt
   have hyes : Hid ((F k).bl ≤ 1048576 → ∀ j, j < k + 1 → (F j).bl ≤ 1048576) := fun e j hj => by
    by_cases ej : j = k
    ·subst ej; exact e
    ·exact hall j (by omega)
   clear hall
   generalize F k = x at *
   obtain ⟨n, x, y, h, e, ba, bl, bc, bf⟩ := x
   dsimp only at c0 c1 c2 c3 c4 c5 hbk hyes
   go_wp2_with fail
   refine (Plsz_any n x y h e ba bl bc yl _ hy0 (by omega) hbk).mono ?_
   rintro r w1 ⟨rfl, k1⟩
   clear c0 c1 c2 c3 c4 c5
   by_cases eL : yl < (bl : Int)
   ·rw [if_pos eL]
    go_wp2
    go_ret
    exact ⟨-1, rfl, .inl rfl, btrans hbb k1⟩
   ·rw [if_neg eL]
    have e2 : Hid (0 ≤ yl - (bl : Int) ∧ yl - (bl : Int) ≤ left) := ⟨by omega, by omega⟩
    have e4 := hyes.out (by omega)
    generalize yl - (bl : Int) = z2 at *
    have e3 : ¬ z2 < 0 := by have := e2.out; omega
    clear eL hyes
    go_wp2
    go_roundw
    case rel => exact ⟨k + 1, z2, by omega, by go_num, rfl, e2.out.1, e2.out.2, btrans hbb k1, e4⟩
    case measure => simp [intOf]; omega
  ·go_wp2
   go_ret
   exact ⟨yl, rfl, .inr ⟨hy0, hy1, hlen, fun j hj => hall j (by omega)⟩, hbb⟩
theorem Pleq_same (n x y h e : Int) (ba ba' : Option Addr) (bl bc bc' : Nat) (bf : Nat → Int) (w : World) (hB : ISl w ba bl bf) (hB' : ISl w ba' bl bf) (hbl : bl ≤ 1048576) :
  Calls Tryz.prog 122 #[.agg #[.int .i64 n, .int .i64 x, .int .i64 y, .int .i64 h, .int .i64 e, .slice ba bl bc], .agg #[.int .i64 n, .int .i64 x, .int .i64 y, .int .i64 h, .int .i64 e, .slice ba' bl bc']] w fun e w' => e = .returned (.bool true) ∧ Below w.heap.size w w' := by
 have b0 := balloc (.cells #[.int .i64 n, .int .i64 x, .int .i64 y, .int .i64 h, .int .i64 e, .slice ba' bl bc'] 103) (balloc (.cells #[.int .i64 n, .int .i64 x, .int .i64 y, .int .i64 h, .int .i64 e, .slice ba bl bc] 103) (Below.refl w.heap.size w))
 have X := (Ws.box (w := w) #[.int .i64 n, .int .i64 x, .int .i64 y, .int .i64 h, .int .i64 e, .slice ba bl bc] 103).alloc (.cells #[.int .i64 n, .int .i64 x, .int .i64 y, .int .i64 h, .int .i64 e, .slice ba' bl bc'] 103)
 have Y := Ws.box (w := w.alloc (.cells #[.int .i64 n, .int .i64 x, .int .i64 y, .int .i64 h, .int .i64 e, .slice ba bl bc] 103)) #[.int .i64 n, .int .i64 x, .int .i64 y, .int .i64 h, .int .i64 e, .slice ba' bl bc'] 103
 have hs1 : (w.alloc (.cells #[.int .i64 n, .int .i64 x, .int .i64 y, .int .i64 h, .int .i64 e, .slice ba bl bc] 103)).heap.size = w.heap.size + 1 := by simp [go_sem]
 rw [hs1] at Y
 go_enter Tryz.func122, Tryz.ntmps122
 go_upto_region 1 with fail
 generalize (w.alloc (.cells #[.int .i64 n, .int .i64 x, .int .i64 y, .int .i64 h, .int .i64 e, .slice ba bl bc] 103)).alloc (.cells #[.int .i64 n, .int .i64 x, .int .i64 y, .int .i64 h, .int .i64 e, .slice ba' bl bc'] 103) = u at *
 have x0 := X.c 0 (.int .i64 n) rfl
 have y0 := Y.c 0 (.int .i64 n) rfl
 have x1 := X.c 1 (.int .i64 x) rfl
 have y1 := Y.c 1 (.int .i64 x) rfl
 have x2 := X.c 2 (.int .i64 y) rfl
 have y2 := Y.c 2 (.int .i64 y) rfl
 have x3 := X.c 3 (.int .i64 h) rfl
 have y3 := Y.c 3 (.int .i64 h) rfl
 have x4 := X.c 4 (.int .i64 e) rfl
 have y4 := Y.c 4 (.int .i64 e) rfl
 have x5 := X.c 5 (.slice ba bl bc) rfl
 have y5 := Y.c 5 (.slice ba' bl bc') rfl
 go_wp2_with fail
 refine (eqCoord_same x y h e _).mono ?_
 rintro r w1 ⟨rfl, k1⟩
 have b1 := btrans b0 k1
 have x5' := keep_below k1 x5
 have y5' := keep_below k1 y5
 clear x0 x1 x2 x3 x4 x5 y0 y1 y2 y3 y4 y5 X Y
 go_wp2_with fail
 refine (eqInts_same ba ba' bl bc bc' bf _ (hB.below b1) (hB'.below b1) hbl).mono ?_
 rintro r w2 ⟨rfl, k2⟩
 clear x5' y5'
 go_wp2
 go_ret
 exact ⟨rfl, btrans b1 k2⟩
def o65_6 : Array Oper := #[{ dst := some 17, op := .move (.tmp 0), type := 39, pos := "exact.go:267", after := #[], guard := none }, { dst := some 18, op := .move (.tmp 5), type := 3, pos := "exact.go:267", after := #[], guard := none }, { dst := some 19, op := .indexAddr 39 (.tmp 17) (.tmp 18), type := 0, pos := "exact.go:267", after := #[{ on := 0, ground := .data }, { on := 1, ground := .data }], guard := none }, { dst := some 20, op := .load 103 (.tmp 19), type := 103, pos := "exact.go:267", after := #[{ on := 2, ground := .data }], guard := none }, { dst := some 21, op := .move (.tmp 1), type := 39, pos := "exact.go:267", after := #[], guard := none }, { dst := some 22, op := .move (.tmp 5), type := 3, pos := "exact.go:267", after := #[], guard := none }, { dst := some 23, op := .indexAddr 39 (.tmp 21) (.tmp 22), type := 0, pos := "exact.go:267", after := #[{ on := 4, ground := .data }, { on := 5, ground := .data }], guard := none }, { dst := some 24, op := .load 103 (.tmp 23), type := 103, pos := "exact.go:267", after := #[{ on := 6, ground := .data }], guard := none }, { dst := some 25, op := .call { callee := .value (.func 122), args := #[.tmp 20, .tmp 24], argTypes := #[103, 103] }, type := 4, pos := "exact.go:267", after := #[{ on := 3, ground := .data }, { on := 7, ground := .data }], guard := none }, { dst := some 26, op := .unOp .not 4 (.tmp 25), type := 4, pos := "exact.go:267", after := #[{ on := 8, ground := .data }], guard := none }]
theorem fo65_6 : FreeN .any o65_6 10 := ⟨⟨by kernel_rfl⟩, by kernel_rfl⟩
theorem o65_6_0 : o65_6[0]? = some { dst := some 17, op := .move (.tmp 0), type := 39, pos := "exact.go:267", after := #[], guard := none } := rfl
theorem o65_6_1 : o65_6[1]? = some { dst := some 18, op := .move (.tmp 5), type := 3, pos := "exact.go:267", after := #[], guard := none } := rfl
theorem o65_6_2 : o65_6[2]? = some { dst := some 19, op := .indexAddr 39 (.tmp 17) (.tmp 18), type := 0, pos := "exact.go:267", after := #[{ on := 0, ground := .data }, { on := 1, ground := .data }], guard := none } := rfl
theorem o65_6_3 : o65_6[3]? = some { dst := some 20, op := .load 103 (.tmp 19), type := 103, pos := "exact.go:267", after := #[{ on := 2, ground := .data }], guard := none } := rfl
theorem o65_6_4 : o65_6[4]? = some { dst := some 21, op := .move (.tmp 1), type := 39, pos := "exact.go:267", after := #[], guard := none } := rfl
theorem o65_6_5 : o65_6[5]? = some { dst := some 22, op := .move (.tmp 5), type := 3, pos := "exact.go:267", after := #[], guard := none } := rfl
theorem o65_6_6 : o65_6[6]? = some { dst := some 23, op := .indexAddr 39 (.tmp 21) (.tmp 22), type := 0, pos := "exact.go:267", after := #[{ on := 4, ground := .data }, { on := 5, ground := .data }], guard := none } := rfl
theorem o65_6_7 : o65_6[7]? = some { dst := some 24, op := .load 103 (.tmp 23), type := 103, pos := "exact.go:267", after := #[{ on := 6, ground := .data }], guard := none } := rfl
theorem o65_6_8 : o65_6[8]? = some { dst := some 25, op := .call { callee := .value (.func 122), args := #[.tmp 20, .tmp 24], argTypes := #[103, 103] }, type := 4, pos := "exact.go:267", after := #[{ on := 3, ground := .data }, { on := 7, ground := .data }], guard := none } := rfl
theorem o65_6_9 : o65_6[9]? = some { dst := some 26, op := .unOp .not 4 (.tmp 25), type := 4, pos := "exact.go:267", after := #[{ on := 8, ground := .data }], guard := none } := rfl
theorem PleqS_same (a a' : Option Addr) (len cap cap' : Nat) (F G : Nat → Pl) (w : World) (h : PlSl w a len F) (h' : PlSl w a' len G) (hB : PlB w len F) (hB' : PlB w len G) (hE : ∀ j, PlEq (F j) (G j)) (hl : len ≤ 1048576) :
  Calls Tryz.prog 51 #[.slice a len cap, .slice a' len cap'] w fun e w' => e = .returned (.bool true) ∧ Below w.heap.size w w' := by
 go_enter Tryz.func51, Tryz.ntmps51
 go_wp2
 go_loopw [5] (fun i wr => ∃ k : Nat, k ≤ len ∧ i = .int .i64 k ∧ Below w.heap.size w wr) (fun i _ => len - (intOf i).toNat)
 case atStart => exact ⟨0, by omega, rfl, Below.refl _ _⟩
 case round =>
  obtain ⟨k, hk, rfl, hb⟩ := hrel
  by_cases hlt : k < len
  ·obtain ⟨b, off, rfl, hbl, hf⟩ := h (by omega)
   obtain ⟨b', off', rfl, hbl', hf'⟩ := h' (by omega)
   obtain ⟨c0, c1, c2, c3, c4, c5⟩ := (hf.below hb hbl) k hlt
   obtain ⟨d0, d1, d2, d3, d4, d5⟩ := (hf'.below hb hbl') k hlt
   have hS := (hB k hlt).1.below hb
   have hS' := (hB' k hlt).1.below hb
   have hbk := (hB k hlt).2
   have hEk := hE k
   clear hE hB hB'
   generalize F k = gx at *
   generalize G k = gy at *
   obtain ⟨n, x, y, h, e, ba, bl, bc, bf⟩ := gx
   obtain ⟨n', x', y', h', e', ba', bl', bc', bf'⟩ := gy
   obtain ⟨e0, e1, e2, e3, e4, e5, e6⟩ := hEk
   dsimp only at c0 d0 c1 d1 c2 d2 c3 d3 c4 d4 c5 d5 hS hS' hbk e0 e1 e2 e3 e4 e5 e6
   subst e0
   subst e1
   subst e2
   subst e3
   subst e4
   subst e5
   subst e6
   have i0 : (0 : Int) ≤ (k : Int) := by omega
   have i1 : (k : Int) < (len : Int) := by omega
   go_upto_region 6 with fail
   refine wp_region_m (S := (fun w' => w'.cell? ⟨b, off + k * 6, none⟩ = some (.int .i64 n) ∧ w'.cell? ⟨b, off + k * 6 + 1, none⟩ = some (.int .i64 x) ∧ w'.cell? ⟨b, off + k * 6 + 2, none⟩ = some (.int .i64 y) ∧ w'.cell? ⟨b, off + k * 6 + 3, none⟩ = some (.int .i64 h) ∧ w'.cell? ⟨b, off + k * 6 + 4, none⟩ = some (.int .i64 e) ∧ w'.cell? ⟨b, off + k * 6 + 5, none⟩ = some (.slice ba bl bc) ∧ w'.cell? ⟨b', off' + k * 6, none⟩ = some (.int .i64 n) ∧ w'.cell? ⟨b', off' + k * 6 + 1, none⟩ = some (.int .i64 x) ∧ w'.cell? ⟨b', off' + k * 6 + 2, none⟩ = some (.int .i64 y) ∧ w'.cell? ⟨b', off' + k * 6 + 3, none⟩ = some (.int .i64 h) ∧ w'.cell? ⟨b', off' + k * 6 + 4, none⟩ = some (.int .i64 e) ∧ w'.cell? ⟨b', off' + k * 6 + 5, none⟩ = some (.slice ba' bl bc') ∧ ISl w' ba bl bf ∧ ISl w' ba' bl bf ∧ Below w.heap.size w w')) o65_6 10 fo65_6 ?_ (fun hHeld => ?_)
   ·(try dsimp only); exact ⟨keep_drew c0, keep_drew c1, keep_drew c2, keep_drew c3, keep_drew c4, keep_drew c5, keep_drew d0, keep_drew d1, keep_drew d2, keep_drew d3, keep_drew d4, keep_drew d5, hS.below (Below.refl _ _).drew, hS'.below (Below.refl _ _).drew, hb.drew⟩
   refine stY fo65_6 o65_6_0 1 ?_; try simp only [putQ]; refine stY fo65_6 o65_6_1 3 ?_; try simp only [putQ]; refine stY fo65_6 o65_6_2 7 ?_; try simp only [putQ]; refine stY fo65_6 o65_6_3 15 ?_; try simp only [putQ]; refine stY fo65_6 o65_6_4 31 ?_; try simp only [putQ]; refine stY fo65_6 o65_6_5 63 ?_; try simp only [putQ]; refine stY fo65_6 o65_6_6 127 ?_; try simp only [putQ]; refine stY fo65_6 o65_6_7 255 ?_; try simp only [putQ]
   refine stC fo65_6 o65_6_8 511 (fun K hK => ?_)
   go_simp
   refine (Pleq_same n x y h e ba ba' bl bc bc' bf _ hHeld.2.2.2.2.2.2.2.2.2.2.2.2.1 hHeld.2.2.2.2.2.2.2.2.2.2.2.2.2.1 hbk).mono ?_; rintro r w1 ⟨rfl, k1⟩
   go_wp2_with fail
   refine hK.out _ _ ?_ (fun hHeld => ?_)
   ·(try dsimp only); exact ⟨keep_below k1 hHeld.1, keep_below k1 hHeld.2.1, keep_below k1 hHeld.2.2.1, keep_below k1 hHeld.2.2.2.1, keep_below k1 hHeld.2.2.2.2.1, keep_below k1 hHeld.2.2.2.2.2.1, keep_below k1 hHeld.2.2.2.2.2.2.1, keep_below k1 hHeld.2.2.2.2.2.2.2.1, keep_below k1 hHeld.2.2.2.2.2.2.2.2.1, keep_below k1 hHeld.2.2.2.2.2.2.2.2.2.1, keep_below k1 hHeld.2.2.2.2.2.2.2.2.2.2.1, keep_below k1 hHeld.2.2.2.2.2.2.2.2.2.2.2.1, hHeld.2.2.2.2.2.2.2.2.2.2.2.2.1.below k1, hHeld.2.2.2.2.2.2.2.2.2.2.2.2.2.1.below k1, btrans hHeld.2.2.2.2.2.2.2.2.2.2.2.2.2.2 k1⟩
   clear hK K
   (try simp only [putQ]); refine stY fo65_6 o65_6_9 1023 ?_; try simp only [putQ]
   refine wpAnyH_done (by kernel_rfl) ?_ _
   go_wp2
   go_roundw
   case rel => exact ⟨k + 1, by omega, by go_num, hHeld.2.2.2.2.2.2.2.2.2.2.2.2.2.2⟩
   case measure => simp [intOf]; omega
  ·go_wp2
   go_ret
   exact ⟨rfl, hb⟩
theorem Fgsz_any (n : Int) (ba : Option Addr) (bl bc : Nat) (left : Int) (w : World) (h0 : 0 ≤ left) (h1 : left ≤ 1048576) (hl : bl ≤ maxLen) :
  Calls Tryz.prog 77 #[.agg #[.int .i64 n, .slice ba bl bc], .int .i64 left] w fun e w' => e = .returned (.int .i64 (if left < (bl : Int) then -1 else left - bl)) ∧ Below w.heap.size w w' := by
 go_enter Tryz.func77, Tryz.ntmps77
 go_upto_region 1 with fail
 generalize hu : w.alloc (.cells _ _) = u
 obtain ⟨X, b0⟩ := box1 hu
 clear hu
 have d := X.c 1 (.slice ba bl bc) rfl
 clear X
 go_wp2_with fail
 refine (szFactS_any ba bl bc left _ h0 h1 hl).mono ?_
 rintro r w1 ⟨rfl, hw⟩
 obtain rfl := hw.symm
 clear hw
 by_cases eL : left < (bl : Int)
 ·rw [if_pos eL]
  go_wp2
  go_ret
  exact ⟨rfl, b0⟩
 ·rw [if_neg eL]
  have e3 : ¬ left - (bl : Int) < 0 := by omega
  go_wp2
  go_ret
  exact ⟨rfl, b0⟩
def FgMax (len : Nat) (F : Nat → Fg) : Prop := ∀ j, j < len → (F j).bl ≤ 1048576
theorem FgszS_any (a : Option Addr) (len cap : Nat) (F : Nat → Fg) (left : Int) (w : World) (hSl : FgSl w a len F) (h0 : 0 ≤ left) (h1 : left ≤ 1048576) (hl : len ≤ maxLen) (hb : ∀ j, j < len → (F j).bl ≤ maxLen) :
  Calls Tryz.prog 27 #[.slice a len cap, .int .i64 left] w fun e w' => ∃ r : Int, e = .returned (.int .i64 r) ∧ (r = -1 ∨ (0 ≤ r ∧ r ≤ left ∧ len ≤ 1048576 ∧ FgMax len F)) ∧ Below w.heap.size w w' := by
 have hl' := hl
 unfold maxLen at hl'
 go_enter Tryz.func27, Tryz.ntmps27
 by_cases hlt0 : left < (len : Int)
 ·have e1 : left - (len : Int) < 0 := by omega
  go_wp2
  all_goals (go_ret; exact ⟨-1, rfl, .inl rfl, Below.refl _ _⟩)
 have e1 : ¬ left - (len : Int) < 0 := by omega
 have e9 : IntKind.i64.wrap (left - (len : Int)) = left - (len : Int) := by rw [IntKind.wrap_i64]; omega
 have hlen : len ≤ 1048576 := by omega
 have e2 : Hid (0 ≤ left - (len : Int) ∧ left - (len : Int) ≤ left) := ⟨by omega, by omega⟩
 go_wp2
 generalize left - (len : Int) = z at *
 go_loopw [1, 5] (fun l i wr => ∃ (k : Nat) (yl : Int), k ≤ len ∧ i = .int .i64 k ∧ l = .int .i64 yl ∧ 0 ≤ yl ∧ yl ≤ left ∧ Below w.heap.size w wr ∧ (∀ j, j < k → (F j).bl ≤ 1048576)) (fun _ i _ => len - (intOf i).toNat)
 case atStart => exact ⟨0, z, by omega, rfl, rfl, e2.out.1, e2.out.2, Below.refl _ _, fun j hj => by omega⟩
 case round =>
  obtain ⟨k, yl, hk, rfl, rfl, hy0, hy1, hbb, hall⟩ := hrel
  by_cases hlt : k < len
  ·obtain ⟨b, off, rfl, hbl, hf⟩ := hSl (by omega)
   obtain ⟨c0, c1⟩ := (hf.below hbb hbl) k hlt
   have i0 : (0 : Int) ≤ (k : Int) := by omega
   have i1 : (k : Int) < (len : Int) := by omega
   have hbk := hb k hlt
   have hyes : Hid ((F k).bl ≤ 1048576 → ∀ j, j < k + 1 → (F j).bl ≤ 1048576) := fun e j hj => by
    by_cases ej : j = k
    ·subst ej; exact e
    ·exact hall j (by omega)
   clear hall
   generalize F k = x at *
   obtain ⟨n, ba, bl, bc, bf⟩ := x
   dsimp only at c0 c1 hbk hyes
   go_wp2_with fail
   refine (Fgsz_any n ba bl bc yl _ hy0 (by omega) hbk).mono ?_
   rintro r w1 ⟨rfl, k1⟩
   clear c0 c1
   by_cases eL : yl < (bl : Int)
   ·rw [if_pos eL]
    go_wp2
    go_ret
    exact ⟨-1, rfl, .inl rfl, btrans hbb k1⟩
   ·rw [if_neg eL]
    have e2 : Hid (0 ≤ yl - (bl : Int) ∧ yl - (bl : Int) ≤ left) := ⟨by omega, by omega⟩
    have e4 := hyes.out (by omega)
    generalize yl - (bl : Int) = z2 at *
    have e3 : ¬ z2 < 0 := by have := e2.out; omega
    clear eL hyes
    go_wp2
    go_roundw
    case rel => exact ⟨k + 1, z2, by omega, by go_num, rfl, e2.out.1, e2.out.2, btrans hbb k1, e4⟩
    case measure => simp [intOf]; omega
  ·go_wp2
   go_ret
   exact ⟨yl, rfl, .inr ⟨hy0, hy1, hlen, fun j hj => hall j (by omega)⟩, hbb⟩
theorem Fgeq_same (n : Int) (ba ba' : Option Addr) (bl bc bc' : Nat) (bf : Nat → Fc) (w : World) (hB : FSl w ba bl bf) (hB' : FSl w ba' bl bf) (hbl : bl ≤ 1048576) :
  Calls Tryz.prog 123 #[.agg #[.int .i64 n, .slice ba bl bc], .agg #[.int .i64 n, .slice ba' bl bc']] w fun e w' => e = .returned (.bool true) ∧ Below w.heap.size w w' := by
 have b0 := balloc (.cells #[.int .i64 n, .slice ba' bl bc'] 123) (balloc (.cells #[.int .i64 n, .slice ba bl bc] 123) (Below.refl w.heap.size w))
 have X := (Ws.box (w := w) #[.int .i64 n, .slice ba bl bc] 123).alloc (.cells #[.int .i64 n, .slice ba' bl bc'] 123)
 have Y := Ws.box (w := w.alloc (.cells #[.int .i64 n, .slice ba bl bc] 123)) #[.int .i64 n, .slice ba' bl bc'] 123
 have hs1 : (w.alloc (.cells #[.int .i64 n, .slice ba bl bc] 123)).heap.size = w.heap.size + 1 := by simp [go_sem]
 rw [hs1] at Y
 go_enter Tryz.func123, Tryz.ntmps123
 go_upto_region 1 with fail
 generalize (w.alloc (.cells #[.int .i64 n, .slice ba bl bc] 123)).alloc (.cells #[.int .i64 n, .slice ba' bl bc'] 123) = u at *
 have x0 := X.c 0 (.int .i64 n) rfl
 have y0 := Y.c 0 (.int .i64 n) rfl
 have x1 := X.c 1 (.slice ba bl bc) rfl
 have y1 := Y.c 1 (.slice ba' bl bc') rfl
 clear X Y
 go_wp2_with fail
 refine (eqFactS_same ba ba' bl bc bc' bf _ (hB.below b0) (hB'.below b0) hbl).mono ?_
 rintro r w2 ⟨rfl, k2⟩
 clear x0 y0 x1 y1
 go_wp2
 go_ret
 exact ⟨rfl, btrans b0 k2⟩
def o66_6 : Array Oper := #[{ dst := some 17, op := .move (.tmp 0), type := 40, pos := "exact.go:289", after := #[], guard := none }, { dst := some 18, op := .move (.tmp 5), type := 3, pos := "exact.go:289", after := #[], guard := none }, { dst := some 19, op := .indexAddr 40 (.tmp 17) (.tmp 18), type := 0, pos := "exact.go:289", after := #[{ on := 0, ground := .data }, { on := 1, ground := .data }], guard := none }, { dst := some 20, op := .load 123 (.tmp 19), type := 123, pos := "exact.go:289", after := #[{ on := 2, ground := .data }], guard := none }, { dst := some 21, op := .move (.tmp 1), type := 40, pos := "exact.go:289", after := #[], guard := none }, { dst := some 22, op := .move (.tmp 5), type := 3, pos := "exact.go:289", after := #[], guard := none }, { dst := some 23, op := .indexAddr 40 (.tmp 21) (.tmp 22), type := 0, pos := "exact.go:289", after := #[{ on := 4, ground := .data }, { on := 5, ground := .data }], guard := none }, { dst := some 24, op := .load 123 (.tmp 23), type := 123, pos := "exact.go:289", after := #[{ on := 6, ground := .data }], guard := none }, { dst := some 25, op := .call { callee := .value (.func 123), args := #[.tmp 20, .tmp 24], argTypes := #[123, 123] }, type := 4, pos := "exact.go:289", after := #[{ on := 3, ground := .data }, { on := 7, ground := .data }], guard := none }, { dst := some 26, op := .unOp .not 4 (.tmp 25), type := 4, pos := "exact.go:289", after := #[{ on := 8, ground := .data }], guard := none }]
theorem fo66_6 : FreeN .any o66_6 10 := ⟨⟨by kernel_rfl⟩, by kernel_rfl⟩
theorem o66_6_0 : o66_6[0]? = some { dst := some 17, op := .move (.tmp 0), type := 40, pos := "exact.go:289", after := #[], guard := none } := rfl
theorem o66_6_1 : o66_6[1]? = some { dst := some 18, op := .move (.tmp 5), type := 3, pos := "exact.go:289", after := #[], guard := none } := rfl
theorem o66_6_2 : o66_6[2]? = some { dst := some 19, op := .indexAddr 40 (.tmp 17) (.tmp 18), type := 0, pos := "exact.go:289", after := #[{ on := 0, ground := .data }, { on := 1, ground := .data }], guard := none } := rfl
theorem o66_6_3 : o66_6[3]? = some { dst := some 20, op := .load 123 (.tmp 19), type := 123, pos := "exact.go:289", after := #[{ on := 2, ground := .data }], guard := none } := rfl
theorem o66_6_4 : o66_6[4]? = some { dst := some 21, op := .move (.tmp 1), type := 40, pos := "exact.go:289", after := #[], guard := none } := rfl
theorem o66_6_5 : o66_6[5]? = some { dst := some 22, op := .move (.tmp 5), type := 3, pos := "exact.go:289", after := #[], guard := none } := rfl
theorem o66_6_6 : o66_6[6]? = some { dst := some 23, op := .indexAddr 40 (.tmp 21) (.tmp 22), type := 0, pos := "exact.go:289", after := #[{ on := 4, ground := .data }, { on := 5, ground := .data }], guard := none } := rfl
theorem o66_6_7 : o66_6[7]? = some { dst := some 24, op := .load 123 (.tmp 23), type := 123, pos := "exact.go:289", after := #[{ on := 6, ground := .data }], guard := none } := rfl
theorem o66_6_8 : o66_6[8]? = some { dst := some 25, op := .call { callee := .value (.func 123), args := #[.tmp 20, .tmp 24], argTypes := #[123, 123] }, type := 4, pos := "exact.go:289", after := #[{ on := 3, ground := .data }, { on := 7, ground := .data }], guard := none } := rfl
theorem o66_6_9 : o66_6[9]? = some { dst := some 26, op := .unOp .not 4 (.tmp 25), type := 4, pos := "exact.go:289", after := #[{ on := 8, ground := .data }], guard := none } := rfl
theorem FgeqS_same (a a' : Option Addr) (len cap cap' : Nat) (F G : Nat → Fg) (w : World) (h : FgSl w a len F) (h' : FgSl w a' len G) (hB : FgB w len F) (hB' : FgB w len G) (hE : ∀ j, FgEq (F j) (G j)) (hl : len ≤ 1048576) :
  Calls Tryz.prog 52 #[.slice a len cap, .slice a' len cap'] w fun e w' => e = .returned (.bool true) ∧ Below w.heap.size w w' := by
 go_enter Tryz.func52, Tryz.ntmps52
 go_wp2
 go_loopw [5] (fun i wr => ∃ k : Nat, k ≤ len ∧ i = .int .i64 k ∧ Below w.heap.size w wr) (fun i _ => len - (intOf i).toNat)
 case atStart => exact ⟨0, by omega, rfl, Below.refl _ _⟩
 case round =>
  obtain ⟨k, hk, rfl, hb⟩ := hrel
  by_cases hlt : k < len
  ·obtain ⟨b, off, rfl, hbl, hf⟩ := h (by omega)
   obtain ⟨b', off', rfl, hbl', hf'⟩ := h' (by omega)
   obtain ⟨c0, c1⟩ := (hf.below hb hbl) k hlt
   obtain ⟨d0, d1⟩ := (hf'.below hb hbl') k hlt
   have hS := (hB k hlt).1.below hb
   have hS' := (hB' k hlt).1.below hb
   have hbk := (hB k hlt).2
   have hEk := hE k
   clear hE hB hB'
   generalize F k = gx at *
   generalize G k = gy at *
   obtain ⟨n, ba, bl, bc, bf⟩ := gx
   obtain ⟨n', ba', bl', bc', bf'⟩ := gy
   obtain ⟨e0, e1, e2⟩ := hEk
   dsimp only at c0 d0 c1 d1 hS hS' hbk e0 e1 e2
   subst e0
   subst e1
   subst e2
   have i0 : (0 : Int) ≤ (k : Int) := by omega
   have i1 : (k : Int) < (len : Int) := by omega
   go_upto_region 6 with fail
   refine wp_region_m (S := (fun w' => w'.cell? ⟨b, off + k * 2, none⟩ = some (.int .i64 n) ∧ w'.cell? ⟨b, off + k * 2 + 1, none⟩ = some (.slice ba bl bc) ∧ w'.cell? ⟨b', off' + k * 2, none⟩ = some (.int .i64 n) ∧ w'.cell? ⟨b', off' + k * 2 + 1, none⟩ = some (.slice ba' bl bc') ∧ FSl w' ba bl bf ∧ FSl w' ba' bl bf ∧ Below w.heap.size w w')) o66_6 10 fo66_6 ?_ (fun hHeld => ?_)
   ·(try dsimp only); exact ⟨keep_drew c0, keep_drew c1, keep_drew d0, keep_drew d1, hS.below (Below.refl _ _).drew, hS'.below (Below.refl _ _).drew, hb.drew⟩
   refine stY fo66_6 o66_6_0 1 ?_; try simp only [putQ]; refine stY fo66_6 o66_6_1 3 ?_; try simp only [putQ]; refine stY fo66_6 o66_6_2 7 ?_; try simp only [putQ]; refine stY fo66_6 o66_6_3 15 ?_; try simp only [putQ]; refine stY fo66_6 o66_6_4 31 ?_; try simp only [putQ]; refine stY fo66_6 o66_6_5 63 ?_; try simp only [putQ]; refine stY fo66_6 o66_6_6 127 ?_; try simp only [putQ]; refine stY fo66_6 o66_6_7 255 ?_; try simp only [putQ]
   refine stC fo66_6 o66_6_8 511 (fun K hK => ?_)
   go_simp
   refine (Fgeq_same n ba ba' bl bc bc' bf _ hHeld.2.2.2.2.1 hHeld.2.2.2.2.2.1 hbk).mono ?_; rintro r w1 ⟨rfl, k1⟩
   go_wp2_with fail
   refine hK.out _ _ ?_ (fun hHeld => ?_)
   ·(try dsimp only); exact ⟨keep_below k1 hHeld.1, keep_below k1 hHeld.2.1, keep_below k1 hHeld.2.2.1, keep_below k1 hHeld.2.2.2.1, hHeld.2.2.2.2.1.below k1, hHeld.2.2.2.2.2.1.below k1, btrans hHeld.2.2.2.2.2.2 k1⟩
   clear hK K
   (try simp only [putQ]); refine stY fo66_6 o66_6_9 1023 ?_; try simp only [putQ]
   refine wpAnyH_done (by kernel_rfl) ?_ _
   go_wp2
   go_roundw
   case rel => exact ⟨k + 1, by omega, by go_num, hHeld.2.2.2.2.2.2⟩
   case measure => simp [intOf]; omega
  ·go_wp2
   go_ret
   exact ⟨rfl, hb⟩
end Go.Proofs.YtgcdcfjaeehnbaaGreat
