/- A node's line on the board: the program's way and the model's. -/
import Derived.Test.YtoimfgfhlbkdcaaGreatDoorTz
import Derived.Test.YtoimfgfhlbkdcaaGreatDoorNz
import Derived.Test.YtoimfgfhlbkdcaaGreatDoorWy
namespace Go.Proofs.YtoimfgfhlbkdcaaGreatDoor
open Go.ChangeShapes Go.WideShapes Go.ChangeAt Go.RowKit
attribute [local go_sem ↓] Go.wp_at_zero Go.wp_at_succ
/-- what is told of another site -/
def oTx (o : Od) : ByteArray := bs [32, 115, 105, 116, 101, 32] ++ bs (Lib.itoa o.n) ++ bs [32] ++ txt o.fs.length (tF o.fs)
def oTxs (O : List Od) : Nat → ByteArray
  | 0 => bs []
  | k + 1 => oTxs O k ++ oTx (O.getD k Od.zero)
/-- a node's line -/
def nTx (n : Nod) : ByteArray := bs [110, 111, 100, 101, 32] ++ bs (Lib.itoa n.me) ++ (if n.up = true then (if n.gone = true then bs [32, 108, 101, 102, 116] else bs []) ++ (bs [32, 110, 111, 119, 32] ++ bs (Lib.itoa n.now) ++ bs [32, 105, 110, 99, 32] ++ bs (Lib.itoa n.inc)) ++ (bs [32, 97, 116, 32] ++ bs (Lib.itoa n.cx) ++ bs [44] ++ bs (Lib.itoa n.cy) ++ bs [43] ++ bs (Lib.itoa n.ch)) ++ (bs [32, 116, 97, 98, 108, 101, 32] ++ txt n.T.length (tF n.T)) ++ oTxs n.O n.O.length else bs [32, 100, 111, 119, 110])
/-- what is written of a node fits -/
structure NdP (n : Nod) : Prop where
  me : 0 ≤ n.me ∧ n.me ≤ 7
  now : n.up = true → 0 ≤ n.now ∧ n.now ≤ 999999
  inc : n.up = true → 0 ≤ n.inc ∧ n.inc ≤ 999
  cx : n.up = true → -100000 ≤ n.cx ∧ n.cx ≤ 100000
  cy : n.up = true → -100000 ≤ n.cy ∧ n.cy ≤ 100000
  ch : n.up = true → 0 ≤ n.ch ∧ n.ch ≤ 100000
  o : n.up = true → n.O.length ≤ 1048576
  os : n.up = true → ∀ j, j < n.O.length → 0 ≤ (n.O.getD j Od.zero).n ∧ (n.O.getD j Od.zero).n ≤ 1
theorem nil_bs (y : ByteArray) : bs [] ++ y = y := by
  apply ByteArray.ext
  simp [ByteArray.data_append]
def s37_6 : List Stp := [⟨some 19, .move (.tmp 3), 9, none, 0⟩, ⟨some 20, .fieldAddr 52 (.tmp 1) 5, 0, none, 0⟩, ⟨some 21, .load 3 (.tmp 20), 3, none, 0⟩, ⟨some 25, .fieldAddr 52 (.tmp 1) 4, 0, none, 0⟩, ⟨some 26, .load 3 (.tmp 25), 3, none, 0⟩, ⟨some 22, .call { callee := .value (.func 36), args := #[.tmp 21], argTypes := #[3] }, 9, none, 1⟩, ⟨some 23, .binOp .add 9 (.const (.string { data := #[32, 110, 111, 119, 32] })) (.tmp 22) 9, 9, none, 0⟩, ⟨some 24, .binOp .add 9 (.tmp 23) (.const (.string { data := #[32, 105, 110, 99, 32] })) 9, 9, none, 0⟩, ⟨some 27, .call { callee := .value (.func 36), args := #[.tmp 26], argTypes := #[3] }, 9, none, 1⟩, ⟨some 28, .binOp .add 9 (.tmp 24) (.tmp 27) 9, 9, none, 0⟩, ⟨some 29, .binOp .add 9 (.tmp 19) (.tmp 28) 9, 9, none, 0⟩, ⟨some 3, .assign (.tmp 29), 9, none, 0⟩]
def t37_6 : List (Nat × Nat) := [(0, 0), (1, 0), (2, 0), (6, 0), (7, 0), (3, 1), (4, 0), (5, 0), (8, 1), (9, 0), (10, 0), (11, 0)]
def s37_7 : List Stp := [⟨some 30, .move (.tmp 3), 9, none, 0⟩, ⟨some 31, .fieldAddr 52 (.tmp 1) 12, 0, none, 0⟩, ⟨some 32, .fieldAddr 48 (.tmp 31) 0, 0, none, 0⟩, ⟨some 33, .load 3 (.tmp 32), 3, none, 0⟩, ⟨some 37, .fieldAddr 52 (.tmp 1) 12, 0, none, 0⟩, ⟨some 38, .fieldAddr 48 (.tmp 37) 1, 0, none, 0⟩, ⟨some 39, .load 3 (.tmp 38), 3, none, 0⟩, ⟨some 43, .fieldAddr 52 (.tmp 1) 12, 0, none, 0⟩, ⟨some 44, .fieldAddr 48 (.tmp 43) 2, 0, none, 0⟩, ⟨some 45, .load 3 (.tmp 44), 3, none, 0⟩, ⟨some 34, .call { callee := .value (.func 36), args := #[.tmp 33], argTypes := #[3] }, 9, none, 1⟩, ⟨some 35, .binOp .add 9 (.const (.string { data := #[32, 97, 116, 32] })) (.tmp 34) 9, 9, none, 0⟩, ⟨some 36, .binOp .add 9 (.tmp 35) (.const (.string { data := #[44] })) 9, 9, none, 0⟩, ⟨some 40, .call { callee := .value (.func 36), args := #[.tmp 39], argTypes := #[3] }, 9, none, 1⟩, ⟨some 41, .binOp .add 9 (.tmp 36) (.tmp 40) 9, 9, none, 0⟩, ⟨some 42, .binOp .add 9 (.tmp 41) (.const (.string { data := #[43] })) 9, 9, none, 0⟩, ⟨some 46, .call { callee := .value (.func 36), args := #[.tmp 45], argTypes := #[3] }, 9, none, 1⟩, ⟨some 47, .binOp .add 9 (.tmp 42) (.tmp 46) 9, 9, none, 0⟩, ⟨some 48, .binOp .add 9 (.tmp 30) (.tmp 47) 9, 9, none, 0⟩, ⟨some 3, .assign (.tmp 48), 9, none, 0⟩]
def t37_7 : List (Nat × Nat) := [(0, 0), (1, 0), (2, 0), (3, 0), (7, 0), (8, 0), (9, 0), (13, 0), (14, 0), (15, 0), (4, 1), (5, 0), (6, 0), (10, 1), (11, 0), (12, 0), (16, 1), (17, 0), (18, 0), (19, 0)]
def s37_12 : List Stp := [⟨some 62, .move (.tmp 3), 9, none, 0⟩, ⟨some 63, .fieldAddr 100 (.tmp 5) 0, 0, none, 0⟩, ⟨some 64, .load 3 (.tmp 63), 3, none, 0⟩, ⟨some 68, .fieldAddr 100 (.tmp 5) 1, 0, none, 0⟩, ⟨some 69, .load 32 (.tmp 68), 32, none, 0⟩, ⟨some 65, .call { callee := .value (.func 36), args := #[.tmp 64], argTypes := #[3] }, 9, none, 1⟩, ⟨some 66, .binOp .add 9 (.const (.string { data := #[32, 115, 105, 116, 101, 32] })) (.tmp 65) 9, 9, none, 0⟩, ⟨some 67, .binOp .add 9 (.tmp 66) (.const (.string { data := #[32] })) 9, 9, none, 0⟩, ⟨some 70, .call { callee := .value (.func 28), args := #[.tmp 69], argTypes := #[32] }, 9, none, 1⟩, ⟨some 71, .binOp .add 9 (.tmp 67) (.tmp 70) 9, 9, none, 0⟩, ⟨some 72, .binOp .add 9 (.tmp 62) (.tmp 71) 9, 9, none, 0⟩, ⟨some 3, .assign (.tmp 72), 9, none, 0⟩]
def t37_12 : List (Nat × Nat) := [(0, 0), (1, 0), (2, 0), (6, 0), (7, 0), (3, 1), (4, 0), (5, 0), (8, 1), (9, 0), (10, 0), (11, 0)]
def s34_6 : List Stp := [⟨some 18, .move (.tmp 3), 9, none, 0⟩, ⟨some 19, .binOp .add 9 (.tmp 18) (.const (.string { data := #[32, 110, 111, 119, 32] })) 9, 9, none, 0⟩, ⟨some 20, .fieldAddr 52 (.tmp 1) 5, 0, none, 0⟩, ⟨some 21, .load 3 (.tmp 20), 3, none, 0⟩, ⟨some 25, .fieldAddr 52 (.tmp 1) 4, 0, none, 0⟩, ⟨some 26, .load 3 (.tmp 25), 3, none, 0⟩, ⟨some 30, .fieldAddr 52 (.tmp 1) 12, 0, none, 0⟩, ⟨some 31, .fieldAddr 48 (.tmp 30) 0, 0, none, 0⟩, ⟨some 32, .load 3 (.tmp 31), 3, none, 0⟩, ⟨some 36, .fieldAddr 52 (.tmp 1) 12, 0, none, 0⟩, ⟨some 37, .fieldAddr 48 (.tmp 36) 1, 0, none, 0⟩, ⟨some 38, .load 3 (.tmp 37), 3, none, 0⟩, ⟨some 42, .fieldAddr 52 (.tmp 1) 12, 0, none, 0⟩, ⟨some 43, .fieldAddr 48 (.tmp 42) 2, 0, none, 0⟩, ⟨some 44, .load 3 (.tmp 43), 3, none, 0⟩, ⟨some 48, .fieldAddr 52 (.tmp 1) 8, 0, none, 0⟩, ⟨some 49, .load 32 (.tmp 48), 32, none, 0⟩, ⟨some 22, .call { callee := .value (.func 33), args := #[.tmp 21], argTypes := #[3] }, 9, none, 1⟩, ⟨some 23, .binOp .add 9 (.tmp 19) (.tmp 22) 9, 9, none, 0⟩, ⟨some 24, .binOp .add 9 (.tmp 23) (.const (.string { data := #[32, 105, 110, 99, 32] })) 9, 9, none, 0⟩, ⟨some 27, .call { callee := .value (.func 33), args := #[.tmp 26], argTypes := #[3] }, 9, none, 1⟩, ⟨some 28, .binOp .add 9 (.tmp 24) (.tmp 27) 9, 9, none, 0⟩, ⟨some 29, .binOp .add 9 (.tmp 28) (.const (.string { data := #[32, 97, 116, 32] })) 9, 9, none, 0⟩, ⟨some 33, .call { callee := .value (.func 33), args := #[.tmp 32], argTypes := #[3] }, 9, none, 1⟩, ⟨some 34, .binOp .add 9 (.tmp 29) (.tmp 33) 9, 9, none, 0⟩, ⟨some 35, .binOp .add 9 (.tmp 34) (.const (.string { data := #[44] })) 9, 9, none, 0⟩, ⟨some 39, .call { callee := .value (.func 33), args := #[.tmp 38], argTypes := #[3] }, 9, none, 1⟩, ⟨some 40, .binOp .add 9 (.tmp 35) (.tmp 39) 9, 9, none, 0⟩, ⟨some 41, .binOp .add 9 (.tmp 40) (.const (.string { data := #[43] })) 9, 9, none, 0⟩, ⟨some 45, .call { callee := .value (.func 33), args := #[.tmp 44], argTypes := #[3] }, 9, none, 1⟩, ⟨some 46, .binOp .add 9 (.tmp 41) (.tmp 45) 9, 9, none, 0⟩, ⟨some 47, .binOp .add 9 (.tmp 46) (.const (.string { data := #[32, 116, 97, 98, 108, 101, 32] })) 9, 9, none, 0⟩, ⟨some 50, .call { callee := .value (.func 64), args := #[.tmp 49], argTypes := #[32] }, 9, none, 1⟩, ⟨some 51, .binOp .add 9 (.tmp 47) (.tmp 50) 9, 9, none, 0⟩, ⟨some 3, .assign (.tmp 51), 9, none, 0⟩]
def t34_6 : List (Nat × Nat) := [(0, 0), (1, 0), (2, 0), (3, 0), (7, 0), (8, 0), (12, 0), (13, 0), (14, 0), (18, 0), (19, 0), (20, 0), (24, 0), (25, 0), (26, 0), (30, 0), (31, 0), (4, 1), (5, 0), (6, 0), (9, 1), (10, 0), (11, 0), (15, 1), (16, 0), (17, 0), (21, 1), (22, 0), (23, 0), (27, 1), (28, 0), (29, 0), (32, 1), (33, 0), (34, 0)]
def s34_10 : List Stp := [⟨some 59, .move (.tmp 3), 9, none, 0⟩, ⟨some 60, .binOp .add 9 (.tmp 59) (.const (.string { data := #[32, 115, 105, 116, 101, 32] })) 9, 9, none, 0⟩, ⟨some 61, .fieldAddr 52 (.tmp 1) 14, 0, none, 0⟩, ⟨some 62, .load 50 (.tmp 61), 50, none, 0⟩, ⟨some 63, .move (.tmp 4), 3, none, 0⟩, ⟨some 64, .indexAddr 50 (.tmp 62) (.tmp 63), 0, none, 0⟩, ⟨some 65, .fieldAddr 100 (.tmp 64) 0, 0, none, 0⟩, ⟨some 66, .load 3 (.tmp 65), 3, none, 0⟩, ⟨some 70, .fieldAddr 52 (.tmp 1) 14, 0, none, 0⟩, ⟨some 71, .load 50 (.tmp 70), 50, none, 0⟩, ⟨some 72, .move (.tmp 4), 3, none, 0⟩, ⟨some 73, .indexAddr 50 (.tmp 71) (.tmp 72), 0, none, 0⟩, ⟨some 74, .fieldAddr 100 (.tmp 73) 1, 0, none, 0⟩, ⟨some 75, .load 32 (.tmp 74), 32, none, 0⟩, ⟨some 67, .call { callee := .value (.func 33), args := #[.tmp 66], argTypes := #[3] }, 9, none, 1⟩, ⟨some 68, .binOp .add 9 (.tmp 60) (.tmp 67) 9, 9, none, 0⟩, ⟨some 69, .binOp .add 9 (.tmp 68) (.const (.string { data := #[32] })) 9, 9, none, 0⟩, ⟨some 76, .call { callee := .value (.func 64), args := #[.tmp 75], argTypes := #[32] }, 9, none, 1⟩, ⟨some 77, .binOp .add 9 (.tmp 69) (.tmp 76) 9, 9, none, 0⟩, ⟨some 3, .assign (.tmp 77), 9, none, 0⟩]
def t34_10 : List (Nat × Nat) := [(0, 0), (1, 0), (2, 0), (3, 0), (4, 0), (5, 0), (6, 0), (7, 0), (11, 0), (12, 0), (13, 0), (14, 0), (15, 0), (16, 0), (8, 1), (9, 0), (10, 0), (17, 1), (18, 0), (19, 0)]
set_option maxRecDepth 20000 in
set_option maxHeartbeats 8000000 in
theorem ndI_any (n : Nod) (L : Loc) (w : World) (h : NdR w n L) (p : NdP n) (ht : Tabs w) :
    Calls Tryz.prog 37 #[.agg #[.int .i64 n.me, .bool n.up, .bool n.gone, .bool n.gate, .int .i64 n.inc, .int .i64 n.now, .int .i64 n.sq, .int .i64 n.turn, .slice L.ta n.T.length L.tc, .slice L.ca n.C.length L.cc, .int .i64 n.pn, .int .i64 n.ps, .int .i64 n.pq, .bool n.pa, .slice L.da n.D.length L.dc, .int .i64 n.cx, .int .i64 n.cy, .int .i64 n.ch, .int .i64 n.ce, .slice L.pla n.P.length L.plc, .slice L.oa n.O.length L.oc]] w fun e w' => e = .returned (.string (nTx n)) ∧ Below w.heap.size w w' := by
  have b0 := balloc (.cells #[.int .i64 n.me, .bool n.up, .bool n.gone, .bool n.gate, .int .i64 n.inc, .int .i64 n.now, .int .i64 n.sq, .int .i64 n.turn, .slice L.ta n.T.length L.tc, .slice L.ca n.C.length L.cc, .int .i64 n.pn, .int .i64 n.ps, .int .i64 n.pq, .bool n.pa, .slice L.da n.D.length L.dc, .int .i64 n.cx, .int .i64 n.cy, .int .i64 n.ch, .int .i64 n.ce, .slice L.pla n.P.length L.plc, .slice L.oa n.O.length L.oc] 52) (Below.refl w.heap.size w)
  have X := Ws.box (w := w) #[.int .i64 n.me, .bool n.up, .bool n.gone, .bool n.gate, .int .i64 n.inc, .int .i64 n.now, .int .i64 n.sq, .int .i64 n.turn, .slice L.ta n.T.length L.tc, .slice L.ca n.C.length L.cc, .int .i64 n.pn, .int .i64 n.ps, .int .i64 n.pq, .bool n.pa, .slice L.da n.D.length L.dc, .int .i64 n.cx, .int .i64 n.cy, .int .i64 n.ch, .int .i64 n.ce, .slice L.pla n.P.length L.plc, .slice L.oa n.O.length L.oc] 52
  have h0 := h.below b0
  have t0 := ht.below b0
  clear h
  obtain ⟨x0, hx0⟩ : ∃ x, Hid (bs (Lib.itoa n.me) = x) := ⟨_, rfl⟩
  have q0 := p.me
  have z0 : x0.size ≤ 20 := by rw [← hx0.out]; exact itoaZ_len (by omega) (by omega)
  have k0 : ¬ 9223372036854775807 < 5 + x0.size := by omega
  obtain ⟨ad, had⟩ : ∃ ad, Hid (w.heap.size = ad) := ⟨_, rfl⟩
  cases hu : n.up
  · have e1 : Hid (nTx n = bs [110, 111, 100, 101, 32] ++ x0 ++ bs [32, 100, 111, 119, 110]) := by
      unfold Hid nTx
      rw [hu, if_neg (by simp), hx0.out]
    rw [e1.out]
    have k1 : ¬ 9223372036854775807 < 5 + x0.size + 5 := by omega
    clear e1 p
    rw [hu] at X b0 t0 h0
    go_enter Tryz.func37, Tryz.ntmps37
    go_upto_region 1 with fail
    generalize w.alloc (.cells #[.int .i64 n.me, .bool false, .bool n.gone, .bool n.gate, .int .i64 n.inc, .int .i64 n.now, .int .i64 n.sq, .int .i64 n.turn, .slice L.ta n.T.length L.tc, .slice L.ca n.C.length L.cc, .int .i64 n.pn, .int .i64 n.ps, .int .i64 n.pq, .bool n.pa, .slice L.da n.D.length L.dc, .int .i64 n.cx, .int .i64 n.cy, .int .i64 n.ch, .int .i64 n.ce, .slice L.pla n.P.length L.plc, .slice L.oa n.O.length L.oc] 52) = u at *
    have c0 := X.c 0 (.int .i64 n.me) rfl
    have c1 := X.c 1 (.bool false) rfl
    rw [had.out] at c0 c1 ⊢
    clear X
    go_wp2_with fail
    refine (itoaZ n.me x0 (by omega) (by omega) hx0.out _ t0).mono ?_
    rintro e u1 ⟨rfl, k2⟩
    replace c1 := keep_below k2 c1
    replace b0 := btrans b0 k2
    clear k2 c0 h0
    go_wp2
    go_ret
    exact ⟨rfl, had.out ▸ b0⟩
  · obtain ⟨x1, hx1⟩ : ∃ x, Hid (bs (Lib.itoa n.now) = x) := ⟨_, rfl⟩
    have q1 := p.now hu
    have z1 : x1.size ≤ 20 := by rw [← hx1.out]; exact itoaZ_len (by omega) (by omega)
    obtain ⟨x2, hx2⟩ : ∃ x, Hid (bs (Lib.itoa n.inc) = x) := ⟨_, rfl⟩
    have q2 := p.inc hu
    have z2 : x2.size ≤ 20 := by rw [← hx2.out]; exact itoaZ_len (by omega) (by omega)
    obtain ⟨x3, hx3⟩ : ∃ x, Hid (bs (Lib.itoa n.cx) = x) := ⟨_, rfl⟩
    have q3 := p.cx hu
    have z3 : x3.size ≤ 20 := by rw [← hx3.out]; exact itoaZ_len (by omega) (by omega)
    obtain ⟨x4, hx4⟩ : ∃ x, Hid (bs (Lib.itoa n.cy) = x) := ⟨_, rfl⟩
    have q4 := p.cy hu
    have z4 : x4.size ≤ 20 := by rw [← hx4.out]; exact itoaZ_len (by omega) (by omega)
    obtain ⟨x5, hx5⟩ : ∃ x, Hid (bs (Lib.itoa n.ch) = x) := ⟨_, rfl⟩
    have q5 := p.ch hu
    have z5 : x5.size ≤ 20 := by rw [← hx5.out]; exact itoaZ_len (by omega) (by omega)
    obtain ⟨x6, hx6⟩ : ∃ x, Hid (txt n.T.length (tF n.T) = x) := ⟨_, rfl⟩
    have z6 : x6.size ≤ 200 := by rw [← hx6.out]; exact txt_len _ _
    cases hg : n.gone
    · skip
      obtain ⟨S, hS⟩ : ∃ S, Hid (bs [110, 111, 100, 101, 32] ++ x0 ++ (bs [32, 110, 111, 119, 32] ++ x1 ++ bs [32, 105, 110, 99, 32] ++ x2) ++ (bs [32, 97, 116, 32] ++ x3 ++ bs [44] ++ x4 ++ bs [43] ++ x5) ++ (bs [32, 116, 97, 98, 108, 101, 32] ++ x6) = S) := ⟨_, rfl⟩
      have e1 : Hid (nTx n = S ++ oTxs n.O n.O.length) := by
        unfold Hid nTx
        rw [← hS.out, hu, if_pos rfl, hg, if_neg (by simp), hx0.out, hx1.out, hx2.out, hx3.out, hx4.out, hx5.out, hx6.out]
        simp only [ByteArray.append_assoc, nil_bs]
      have hSz : S.size ≤ 1000 := by
        rw [← hS.out]
        simp only [ByteArray.size_append]
        simp only [ByteArray.size, List.size_toArray, List.length_cons, List.length_nil]
        simp only [ByteArray.size] at z0 z1 z2 z3 z4 z5 z6
        omega
      rw [e1.out]
      have m0 : ¬ 9223372036854775807 < 5 + x1.size := by omega
      have m1 : ¬ 9223372036854775807 < 5 + x1.size + 5 := by omega
      have m2 : ¬ 9223372036854775807 < 5 + x1.size + 5 + x2.size := by omega
      have m3 : ¬ 9223372036854775807 < 5 + x0.size + (5 + x1.size + 5 + x2.size) := by omega
      have m4 : ¬ 9223372036854775807 < 4 + x3.size := by omega
      have m5 : ¬ 9223372036854775807 < 4 + x3.size + 1 := by omega
      have m6 : ¬ 9223372036854775807 < 4 + x3.size + 1 + x4.size := by omega
      have m7 : ¬ 9223372036854775807 < 4 + x3.size + 1 + x4.size + 1 := by omega
      have m8 : ¬ 9223372036854775807 < 4 + x3.size + 1 + x4.size + 1 + x5.size := by omega
      have m9 : ¬ 9223372036854775807 < 5 + x0.size + (5 + x1.size + 5 + x2.size) + (4 + x3.size + 1 + x4.size + 1 + x5.size) := by omega
      have m10 : ¬ 9223372036854775807 < 7 + x6.size := by omega
      have m11 : ¬ 9223372036854775807 < 5 + x0.size + (5 + x1.size + 5 + x2.size) + (4 + x3.size + 1 + x4.size + 1 + x5.size) + (7 + x6.size) := by omega
      have hO := p.o hu
      have hOs := p.os hu
      clear e1 p
      rw [hu, hg] at X b0 t0 h0
      go_enter Tryz.func37, Tryz.ntmps37
      go_upto_region 1 with fail
      generalize w.alloc (.cells #[.int .i64 n.me, .bool true, .bool false, .bool n.gate, .int .i64 n.inc, .int .i64 n.now, .int .i64 n.sq, .int .i64 n.turn, .slice L.ta n.T.length L.tc, .slice L.ca n.C.length L.cc, .int .i64 n.pn, .int .i64 n.ps, .int .i64 n.pq, .bool n.pa, .slice L.da n.D.length L.dc, .int .i64 n.cx, .int .i64 n.cy, .int .i64 n.ch, .int .i64 n.ce, .slice L.pla n.P.length L.plc, .slice L.oa n.O.length L.oc] 52) = u at *
      have c0 := X.c 0 (.int .i64 n.me) rfl
      have c1 := X.c 1 (.bool true) rfl
      have c2 := X.c 2 (.bool false) rfl
      have c4 := X.c 4 (.int .i64 n.inc) rfl
      have c5 := X.c 5 (.int .i64 n.now) rfl
      have c8 := X.c 8 (.slice L.ta n.T.length L.tc) rfl
      have c15 := X.c 15 (.int .i64 n.cx) rfl
      have c16 := X.c 16 (.int .i64 n.cy) rfl
      have c17 := X.c 17 (.int .i64 n.ch) rfl
      have c20 := X.c 20 (.slice L.oa n.O.length L.oc) rfl
      rw [had.out] at c0 c1 c2 c4 c5 c8 c15 c16 c17 c20 ⊢
      clear X
      go_wp2_with fail
      refine (itoaZ n.me x0 (by omega) (by omega) hx0.out _ t0).mono ?_
      rintro e u1 ⟨rfl, k2⟩
      replace c0 := keep_below k2 c0
      replace c1 := keep_below k2 c1
      replace c2 := keep_below k2 c2
      replace c4 := keep_below k2 c4
      replace c5 := keep_below k2 c5
      replace c8 := keep_below k2 c8
      replace c15 := keep_below k2 c15
      replace c16 := keep_below k2 c16
      replace c17 := keep_below k2 c17
      replace c20 := keep_below k2 c20
      replace b0 := btrans b0 k2
      replace h0 := h0.below k2
      replace t0 := t0.below k2
      clear k2
      go_upto_region 6 with fail
      refine wp_region_q s37_6 t37_6 (fun hbq => ?_)
      iterate 2 refine qY ?_
      refine qL ?_
      refine qY ?_
      refine qL ?_
      refine qC (fun K hK => ?_)
      go_simp
      refine (itoaZ n.now x1 (by omega) (by omega) hx1.out _ (t0.below hbq)).mono ?_; rintro r v1 ⟨rfl, k2⟩
      go_wp2_with fail
      refine hK.out _ _ (btrans hbq k2) (.inl ?_)
      clear hK K
      replace hbq := btrans hbq k2
      clear k2
      try simp only [putQ]
      iterate 2 refine qY ?_
      refine qC (fun K hK => ?_)
      go_simp
      refine (itoaZ n.inc x2 (by omega) (by omega) hx2.out _ (t0.below hbq)).mono ?_; rintro r v2 ⟨rfl, k2⟩
      go_wp2_with fail
      refine hK.out _ _ (btrans hbq k2) (.inl ?_)
      clear hK K
      replace hbq := btrans hbq k2
      clear k2
      try simp only [putQ]
      iterate 3 refine qY ?_
      refine qE ?_
      replace c0 := keep_below hbq c0
      replace c1 := keep_below hbq c1
      replace c2 := keep_below hbq c2
      replace c4 := keep_below hbq c4
      replace c5 := keep_below hbq c5
      replace c8 := keep_below hbq c8
      replace c15 := keep_below hbq c15
      replace c16 := keep_below hbq c16
      replace c17 := keep_below hbq c17
      replace c20 := keep_below hbq c20
      replace b0 := btrans b0 hbq
      replace h0 := h0.below hbq
      replace t0 := t0.below hbq
      clear hbq
      go_upto_region 7 with fail
      refine wp_region_q s37_7 t37_7 (fun hbq => ?_)
      iterate 3 refine qY ?_
      refine qL ?_
      iterate 2 refine qY ?_
      refine qL ?_
      iterate 2 refine qY ?_
      refine qL ?_
      refine qC (fun K hK => ?_)
      go_simp
      refine (itoaZ n.cx x3 (by omega) (by omega) hx3.out _ (t0.below hbq)).mono ?_; rintro r v1 ⟨rfl, k2⟩
      go_wp2_with fail
      refine hK.out _ _ (btrans hbq k2) (.inl ?_)
      clear hK K
      replace hbq := btrans hbq k2
      clear k2
      try simp only [putQ]
      iterate 2 refine qY ?_
      refine qC (fun K hK => ?_)
      go_simp
      refine (itoaZ n.cy x4 (by omega) (by omega) hx4.out _ (t0.below hbq)).mono ?_; rintro r v2 ⟨rfl, k2⟩
      go_wp2_with fail
      refine hK.out _ _ (btrans hbq k2) (.inl ?_)
      clear hK K
      replace hbq := btrans hbq k2
      clear k2
      try simp only [putQ]
      iterate 2 refine qY ?_
      refine qC (fun K hK => ?_)
      go_simp
      refine (itoaZ n.ch x5 (by omega) (by omega) hx5.out _ (t0.below hbq)).mono ?_; rintro r v2 ⟨rfl, k2⟩
      go_wp2_with fail
      refine hK.out _ _ (btrans hbq k2) (.inl ?_)
      clear hK K
      replace hbq := btrans hbq k2
      clear k2
      try simp only [putQ]
      iterate 3 refine qY ?_
      refine qE ?_
      replace c0 := keep_below hbq c0
      replace c1 := keep_below hbq c1
      replace c2 := keep_below hbq c2
      replace c4 := keep_below hbq c4
      replace c5 := keep_below hbq c5
      replace c8 := keep_below hbq c8
      replace c15 := keep_below hbq c15
      replace c16 := keep_below hbq c16
      replace c17 := keep_below hbq c17
      replace c20 := keep_below hbq c20
      replace b0 := btrans b0 hbq
      replace h0 := h0.below hbq
      replace t0 := t0.below hbq
      clear hbq
      go_wp2_with fail
      refine (textI L.ta n.T.length L.tc (tF n.T) x6 _ h0.f h0.hf t0 hx6.out).mono ?_
      rintro e u2 ⟨rfl, k2⟩
      replace c0 := keep_below k2 c0
      replace c1 := keep_below k2 c1
      replace c2 := keep_below k2 c2
      replace c4 := keep_below k2 c4
      replace c5 := keep_below k2 c5
      replace c8 := keep_below k2 c8
      replace c15 := keep_below k2 c15
      replace c16 := keep_below k2 c16
      replace c17 := keep_below k2 c17
      replace c20 := keep_below k2 c20
      replace b0 := btrans b0 k2
      replace h0 := h0.below k2
      replace t0 := t0.below k2
      clear k2
      clear c0 c1 c2 c4 c5 c8 c15 c16 c17 m0 m1 m2 m3 m4 m5 m6 m7 m8 m9 m10 m11 k0
      have hf := h0.o
      have hfb := h0.ob
      clear h0
      go_wp2_with fail
      go_loopw [3, 5, 58] (fun v _ i wr => ∃ (k : Nat) (y : ByteArray), k ≤ n.O.length ∧ i = .int .i64 k ∧ v = .string y ∧ Hid (S ++ oTxs n.O k = y) ∧ y.size ≤ 1000 + 1000 * k ∧ Below u2.heap.size u2 wr) (fun _ _ i _ => n.O.length - (intOf i).toNat)
      case atStart => exact ⟨0, S, Nat.zero_le _, rfl, by rw [← hS.out], bs_nil S, by omega, Below.refl _ _⟩
      case round =>
        obtain ⟨k, y, hk, rfl, rfl, hy, hyz, hb⟩ := hrel
        have c20' := keep_below hb c20
        by_cases hlt : k < n.O.length
        · have i0 : (0 : Int) ≤ (k : Int) := by omega
          have i1 : (k : Int) < (n.O.length : Int) := by omega
          obtain ⟨b, off, hoa, _, hfk⟩ := (hf.below hb) (by omega)
          obtain ⟨d0, d1⟩ := hfk k hlt
          obtain ⟨f1, f2⟩ := (hfb.below hb) k hlt
          have hq := hOs k hlt
          have hy1 : Hid (S ++ oTxs n.O (k + 1) = y ++ oTx (n.O.getD k Od.zero)) := by
            unfold Hid
            rw [← hy.out, ByteArray.append_assoc]
            rfl
          have hoo : Hid (oF n.O L.oA L.oC k = ⟨(n.O.getD k Od.zero).n, L.oA k, (n.O.getD k Od.zero).fs.length, L.oC k, tF (n.O.getD k Od.zero).fs⟩) := rfl
          rw [hoo.out] at d0 d1 f1 f2
          unfold oTx at hy1
          generalize n.O.getD k Od.zero = o at *
          dsimp only at d0 d1 f1 f2
          obtain ⟨x7, hx7⟩ : ∃ x, Hid (bs (Lib.itoa o.n) = x) := ⟨_, rfl⟩
          obtain ⟨x8, hx8⟩ : ∃ x, Hid (txt o.fs.length (tF o.fs) = x) := ⟨_, rfl⟩
          have z7 : x7.size ≤ 20 := by rw [← hx7.out]; exact itoaZ_len (by omega) (by omega)
          have z8 : x8.size ≤ 200 := by rw [← hx8.out]; exact txt_len _ _
          rw [hx7.out, hx8.out] at hy1
          rw [hoa] at c20' ⊢
          clear hoo hfk hy hoa
          have m0 : ¬ 9223372036854775807 < 6 + x7.size := by omega
          have m1 : ¬ 9223372036854775807 < 6 + x7.size + 1 := by omega
          have m2 : ¬ 9223372036854775807 < 6 + x7.size + 1 + x8.size := by omega
          have m3 : ¬ 9223372036854775807 < y.size + (6 + x7.size + 1 + x8.size) := by omega
          have hy2 : Hid (S ++ oTxs n.O (k + 1) = y ++ (bs [32, 115, 105, 116, 101, 32] ++ x7 ++ bs [32] ++ x8)) := by
            unfold Hid
            rw [hy1.out]
          have hyz1 : (y ++ (bs [32, 115, 105, 116, 101, 32] ++ x7 ++ bs [32] ++ x8)).size ≤ 1000 + 1000 * (k + 1) := by
            simp only [ByteArray.size_append]
            simp only [ByteArray.size, List.size_toArray, List.length_cons, List.length_nil]
            simp only [ByteArray.size] at z7 z8 hyz
            omega
          clear hy1
          have bb := balloc (.cells #[.int .i64 o.n, .slice (L.oA k) o.fs.length (L.oC k)] 100) (Below.refl wr.heap.size wr)
          have XX := Ws.box (w := wr) #[.int .i64 o.n, .slice (L.oA k) o.fs.length (L.oC k)] 100
          go_upto_region 12 with fail
          generalize (wr.alloc (.cells #[.int .i64 o.n, .slice (L.oA k) o.fs.length (L.oC k)] 100)) = v0 at *
          have g0 := XX.c 0 (.int .i64 o.n) rfl
          have g1 := XX.c 1 (.slice (L.oA k) o.fs.length (L.oC k)) rfl
          obtain ⟨ae, hae⟩ : ∃ ad, Hid (wr.heap.size = ad) := ⟨_, rfl⟩
          rw [hae.out] at g0 g1 ⊢
          have hb1 := btrans hb bb
          have f1' := f1.below bb
          have tt := t0.below hb1
          clear XX d0 d1 c20' bb f1 hb
          refine wp_region_q s37_12 t37_12 (fun hbq => ?_)
          iterate 2 refine qY ?_
          refine qL ?_
          refine qY ?_
          refine qL ?_
          refine qC (fun K hK => ?_)
          go_simp
          refine (itoaZ o.n x7 (by omega) (by omega) hx7.out _ (tt.below hbq)).mono ?_; rintro r v1 ⟨rfl, k2⟩
          go_wp2_with fail
          refine hK.out _ _ (btrans hbq k2) (.inl ?_)
          clear hK K
          replace hbq := btrans hbq k2
          clear k2
          try simp only [putQ]
          iterate 2 refine qY ?_
          refine qC (fun K hK => ?_)
          go_simp
          refine (textI (L.oA k) o.fs.length (L.oC k) (tF o.fs) x8 _ (f1'.below hbq) f2 (tt.below hbq) hx8.out).mono ?_; rintro r v2 ⟨rfl, k2⟩
          go_wp2_with fail
          refine hK.out _ _ (btrans hbq k2) (.inl ?_)
          clear hK K
          replace hbq := btrans hbq k2
          clear k2
          try simp only [putQ]
          iterate 3 refine qY ?_
          refine qE ?_
          have B2 := btrans hb1 hbq
          clear hbq hb1 g0 g1 m0 m1 m2 m3
          go_wp2
          go_roundw
          case rel => exact ⟨k + 1, _, by omega, by go_num, rfl, hy2, hyz1, B2⟩
          case measure => simp [intOf]; omega
        · obtain rfl : k = n.O.length := by omega
          have m0 : ¬ 9223372036854775807 < y.size + 1 := by omega
          have fin := btrans b0 hb
          go_wp2
          go_ret
          exact ⟨by rw [hy.out]; rfl, fin⟩
    · skip
      obtain ⟨S, hS⟩ : ∃ S, Hid (bs [110, 111, 100, 101, 32] ++ x0 ++ bs [32, 108, 101, 102, 116] ++ (bs [32, 110, 111, 119, 32] ++ x1 ++ bs [32, 105, 110, 99, 32] ++ x2) ++ (bs [32, 97, 116, 32] ++ x3 ++ bs [44] ++ x4 ++ bs [43] ++ x5) ++ (bs [32, 116, 97, 98, 108, 101, 32] ++ x6) = S) := ⟨_, rfl⟩
      have e1 : Hid (nTx n = S ++ oTxs n.O n.O.length) := by
        unfold Hid nTx
        rw [← hS.out, hu, if_pos rfl, hg, if_pos rfl, hx0.out, hx1.out, hx2.out, hx3.out, hx4.out, hx5.out, hx6.out]
        simp only [ByteArray.append_assoc]
      have hSz : S.size ≤ 1000 := by
        rw [← hS.out]
        simp only [ByteArray.size_append]
        simp only [ByteArray.size, List.size_toArray, List.length_cons, List.length_nil]
        simp only [ByteArray.size] at z0 z1 z2 z3 z4 z5 z6
        omega
      rw [e1.out]
      have k1 : ¬ 9223372036854775807 < 5 + x0.size + 5 := by omega
      have m0 : ¬ 9223372036854775807 < 5 + x1.size := by omega
      have m1 : ¬ 9223372036854775807 < 5 + x1.size + 5 := by omega
      have m2 : ¬ 9223372036854775807 < 5 + x1.size + 5 + x2.size := by omega
      have m3 : ¬ 9223372036854775807 < 5 + x0.size + 5 + (5 + x1.size + 5 + x2.size) := by omega
      have m4 : ¬ 9223372036854775807 < 4 + x3.size := by omega
      have m5 : ¬ 9223372036854775807 < 4 + x3.size + 1 := by omega
      have m6 : ¬ 9223372036854775807 < 4 + x3.size + 1 + x4.size := by omega
      have m7 : ¬ 9223372036854775807 < 4 + x3.size + 1 + x4.size + 1 := by omega
      have m8 : ¬ 9223372036854775807 < 4 + x3.size + 1 + x4.size + 1 + x5.size := by omega
      have m9 : ¬ 9223372036854775807 < 5 + x0.size + 5 + (5 + x1.size + 5 + x2.size) + (4 + x3.size + 1 + x4.size + 1 + x5.size) := by omega
      have m10 : ¬ 9223372036854775807 < 7 + x6.size := by omega
      have m11 : ¬ 9223372036854775807 < 5 + x0.size + 5 + (5 + x1.size + 5 + x2.size) + (4 + x3.size + 1 + x4.size + 1 + x5.size) + (7 + x6.size) := by omega
      have hO := p.o hu
      have hOs := p.os hu
      clear e1 p
      rw [hu, hg] at X b0 t0 h0
      go_enter Tryz.func37, Tryz.ntmps37
      go_upto_region 1 with fail
      generalize w.alloc (.cells #[.int .i64 n.me, .bool true, .bool true, .bool n.gate, .int .i64 n.inc, .int .i64 n.now, .int .i64 n.sq, .int .i64 n.turn, .slice L.ta n.T.length L.tc, .slice L.ca n.C.length L.cc, .int .i64 n.pn, .int .i64 n.ps, .int .i64 n.pq, .bool n.pa, .slice L.da n.D.length L.dc, .int .i64 n.cx, .int .i64 n.cy, .int .i64 n.ch, .int .i64 n.ce, .slice L.pla n.P.length L.plc, .slice L.oa n.O.length L.oc] 52) = u at *
      have c0 := X.c 0 (.int .i64 n.me) rfl
      have c1 := X.c 1 (.bool true) rfl
      have c2 := X.c 2 (.bool true) rfl
      have c4 := X.c 4 (.int .i64 n.inc) rfl
      have c5 := X.c 5 (.int .i64 n.now) rfl
      have c8 := X.c 8 (.slice L.ta n.T.length L.tc) rfl
      have c15 := X.c 15 (.int .i64 n.cx) rfl
      have c16 := X.c 16 (.int .i64 n.cy) rfl
      have c17 := X.c 17 (.int .i64 n.ch) rfl
      have c20 := X.c 20 (.slice L.oa n.O.length L.oc) rfl
      rw [had.out] at c0 c1 c2 c4 c5 c8 c15 c16 c17 c20 ⊢
      clear X
      go_wp2_with fail
      refine (itoaZ n.me x0 (by omega) (by omega) hx0.out _ t0).mono ?_
      rintro e u1 ⟨rfl, k2⟩
      replace c0 := keep_below k2 c0
      replace c1 := keep_below k2 c1
      replace c2 := keep_below k2 c2
      replace c4 := keep_below k2 c4
      replace c5 := keep_below k2 c5
      replace c8 := keep_below k2 c8
      replace c15 := keep_below k2 c15
      replace c16 := keep_below k2 c16
      replace c17 := keep_below k2 c17
      replace c20 := keep_below k2 c20
      replace b0 := btrans b0 k2
      replace h0 := h0.below k2
      replace t0 := t0.below k2
      clear k2
      go_upto_region 6 with fail
      refine wp_region_q s37_6 t37_6 (fun hbq => ?_)
      iterate 2 refine qY ?_
      refine qL ?_
      refine qY ?_
      refine qL ?_
      refine qC (fun K hK => ?_)
      go_simp
      refine (itoaZ n.now x1 (by omega) (by omega) hx1.out _ (t0.below hbq)).mono ?_; rintro r v1 ⟨rfl, k2⟩
      go_wp2_with fail
      refine hK.out _ _ (btrans hbq k2) (.inl ?_)
      clear hK K
      replace hbq := btrans hbq k2
      clear k2
      try simp only [putQ]
      iterate 2 refine qY ?_
      refine qC (fun K hK => ?_)
      go_simp
      refine (itoaZ n.inc x2 (by omega) (by omega) hx2.out _ (t0.below hbq)).mono ?_; rintro r v2 ⟨rfl, k2⟩
      go_wp2_with fail
      refine hK.out _ _ (btrans hbq k2) (.inl ?_)
      clear hK K
      replace hbq := btrans hbq k2
      clear k2
      try simp only [putQ]
      iterate 3 refine qY ?_
      refine qE ?_
      replace c0 := keep_below hbq c0
      replace c1 := keep_below hbq c1
      replace c2 := keep_below hbq c2
      replace c4 := keep_below hbq c4
      replace c5 := keep_below hbq c5
      replace c8 := keep_below hbq c8
      replace c15 := keep_below hbq c15
      replace c16 := keep_below hbq c16
      replace c17 := keep_below hbq c17
      replace c20 := keep_below hbq c20
      replace b0 := btrans b0 hbq
      replace h0 := h0.below hbq
      replace t0 := t0.below hbq
      clear hbq
      go_upto_region 7 with fail
      refine wp_region_q s37_7 t37_7 (fun hbq => ?_)
      iterate 3 refine qY ?_
      refine qL ?_
      iterate 2 refine qY ?_
      refine qL ?_
      iterate 2 refine qY ?_
      refine qL ?_
      refine qC (fun K hK => ?_)
      go_simp
      refine (itoaZ n.cx x3 (by omega) (by omega) hx3.out _ (t0.below hbq)).mono ?_; rintro r v1 ⟨rfl, k2⟩
      go_wp2_with fail
      refine hK.out _ _ (btrans hbq k2) (.inl ?_)
      clear hK K
      replace hbq := btrans hbq k2
      clear k2
      try simp only [putQ]
      iterate 2 refine qY ?_
      refine qC (fun K hK => ?_)
      go_simp
      refine (itoaZ n.cy x4 (by omega) (by omega) hx4.out _ (t0.below hbq)).mono ?_; rintro r v2 ⟨rfl, k2⟩
      go_wp2_with fail
      refine hK.out _ _ (btrans hbq k2) (.inl ?_)
      clear hK K
      replace hbq := btrans hbq k2
      clear k2
      try simp only [putQ]
      iterate 2 refine qY ?_
      refine qC (fun K hK => ?_)
      go_simp
      refine (itoaZ n.ch x5 (by omega) (by omega) hx5.out _ (t0.below hbq)).mono ?_; rintro r v2 ⟨rfl, k2⟩
      go_wp2_with fail
      refine hK.out _ _ (btrans hbq k2) (.inl ?_)
      clear hK K
      replace hbq := btrans hbq k2
      clear k2
      try simp only [putQ]
      iterate 3 refine qY ?_
      refine qE ?_
      replace c0 := keep_below hbq c0
      replace c1 := keep_below hbq c1
      replace c2 := keep_below hbq c2
      replace c4 := keep_below hbq c4
      replace c5 := keep_below hbq c5
      replace c8 := keep_below hbq c8
      replace c15 := keep_below hbq c15
      replace c16 := keep_below hbq c16
      replace c17 := keep_below hbq c17
      replace c20 := keep_below hbq c20
      replace b0 := btrans b0 hbq
      replace h0 := h0.below hbq
      replace t0 := t0.below hbq
      clear hbq
      go_wp2_with fail
      refine (textI L.ta n.T.length L.tc (tF n.T) x6 _ h0.f h0.hf t0 hx6.out).mono ?_
      rintro e u2 ⟨rfl, k2⟩
      replace c0 := keep_below k2 c0
      replace c1 := keep_below k2 c1
      replace c2 := keep_below k2 c2
      replace c4 := keep_below k2 c4
      replace c5 := keep_below k2 c5
      replace c8 := keep_below k2 c8
      replace c15 := keep_below k2 c15
      replace c16 := keep_below k2 c16
      replace c17 := keep_below k2 c17
      replace c20 := keep_below k2 c20
      replace b0 := btrans b0 k2
      replace h0 := h0.below k2
      replace t0 := t0.below k2
      clear k2
      clear c0 c1 c2 c4 c5 c8 c15 c16 c17 m0 m1 m2 m3 m4 m5 m6 m7 m8 m9 m10 m11 k0 k1
      have hf := h0.o
      have hfb := h0.ob
      clear h0
      go_wp2_with fail
      go_loopw [3, 5, 58] (fun v _ i wr => ∃ (k : Nat) (y : ByteArray), k ≤ n.O.length ∧ i = .int .i64 k ∧ v = .string y ∧ Hid (S ++ oTxs n.O k = y) ∧ y.size ≤ 1000 + 1000 * k ∧ Below u2.heap.size u2 wr) (fun _ _ i _ => n.O.length - (intOf i).toNat)
      case atStart => exact ⟨0, S, Nat.zero_le _, rfl, by rw [← hS.out], bs_nil S, by omega, Below.refl _ _⟩
      case round =>
        obtain ⟨k, y, hk, rfl, rfl, hy, hyz, hb⟩ := hrel
        have c20' := keep_below hb c20
        by_cases hlt : k < n.O.length
        · have i0 : (0 : Int) ≤ (k : Int) := by omega
          have i1 : (k : Int) < (n.O.length : Int) := by omega
          obtain ⟨b, off, hoa, _, hfk⟩ := (hf.below hb) (by omega)
          obtain ⟨d0, d1⟩ := hfk k hlt
          obtain ⟨f1, f2⟩ := (hfb.below hb) k hlt
          have hq := hOs k hlt
          have hy1 : Hid (S ++ oTxs n.O (k + 1) = y ++ oTx (n.O.getD k Od.zero)) := by
            unfold Hid
            rw [← hy.out, ByteArray.append_assoc]
            rfl
          have hoo : Hid (oF n.O L.oA L.oC k = ⟨(n.O.getD k Od.zero).n, L.oA k, (n.O.getD k Od.zero).fs.length, L.oC k, tF (n.O.getD k Od.zero).fs⟩) := rfl
          rw [hoo.out] at d0 d1 f1 f2
          unfold oTx at hy1
          generalize n.O.getD k Od.zero = o at *
          dsimp only at d0 d1 f1 f2
          obtain ⟨x7, hx7⟩ : ∃ x, Hid (bs (Lib.itoa o.n) = x) := ⟨_, rfl⟩
          obtain ⟨x8, hx8⟩ : ∃ x, Hid (txt o.fs.length (tF o.fs) = x) := ⟨_, rfl⟩
          have z7 : x7.size ≤ 20 := by rw [← hx7.out]; exact itoaZ_len (by omega) (by omega)
          have z8 : x8.size ≤ 200 := by rw [← hx8.out]; exact txt_len _ _
          rw [hx7.out, hx8.out] at hy1
          rw [hoa] at c20' ⊢
          clear hoo hfk hy hoa
          have m0 : ¬ 9223372036854775807 < 6 + x7.size := by omega
          have m1 : ¬ 9223372036854775807 < 6 + x7.size + 1 := by omega
          have m2 : ¬ 9223372036854775807 < 6 + x7.size + 1 + x8.size := by omega
          have m3 : ¬ 9223372036854775807 < y.size + (6 + x7.size + 1 + x8.size) := by omega
          have hy2 : Hid (S ++ oTxs n.O (k + 1) = y ++ (bs [32, 115, 105, 116, 101, 32] ++ x7 ++ bs [32] ++ x8)) := by
            unfold Hid
            rw [hy1.out]
          have hyz1 : (y ++ (bs [32, 115, 105, 116, 101, 32] ++ x7 ++ bs [32] ++ x8)).size ≤ 1000 + 1000 * (k + 1) := by
            simp only [ByteArray.size_append]
            simp only [ByteArray.size, List.size_toArray, List.length_cons, List.length_nil]
            simp only [ByteArray.size] at z7 z8 hyz
            omega
          clear hy1
          have bb := balloc (.cells #[.int .i64 o.n, .slice (L.oA k) o.fs.length (L.oC k)] 100) (Below.refl wr.heap.size wr)
          have XX := Ws.box (w := wr) #[.int .i64 o.n, .slice (L.oA k) o.fs.length (L.oC k)] 100
          go_upto_region 12 with fail
          generalize (wr.alloc (.cells #[.int .i64 o.n, .slice (L.oA k) o.fs.length (L.oC k)] 100)) = v0 at *
          have g0 := XX.c 0 (.int .i64 o.n) rfl
          have g1 := XX.c 1 (.slice (L.oA k) o.fs.length (L.oC k)) rfl
          obtain ⟨ae, hae⟩ : ∃ ad, Hid (wr.heap.size = ad) := ⟨_, rfl⟩
          rw [hae.out] at g0 g1 ⊢
          have hb1 := btrans hb bb
          have f1' := f1.below bb
          have tt := t0.below hb1
          clear XX d0 d1 c20' bb f1 hb
          refine wp_region_q s37_12 t37_12 (fun hbq => ?_)
          iterate 2 refine qY ?_
          refine qL ?_
          refine qY ?_
          refine qL ?_
          refine qC (fun K hK => ?_)
          go_simp
          refine (itoaZ o.n x7 (by omega) (by omega) hx7.out _ (tt.below hbq)).mono ?_; rintro r v1 ⟨rfl, k2⟩
          go_wp2_with fail
          refine hK.out _ _ (btrans hbq k2) (.inl ?_)
          clear hK K
          replace hbq := btrans hbq k2
          clear k2
          try simp only [putQ]
          iterate 2 refine qY ?_
          refine qC (fun K hK => ?_)
          go_simp
          refine (textI (L.oA k) o.fs.length (L.oC k) (tF o.fs) x8 _ (f1'.below hbq) f2 (tt.below hbq) hx8.out).mono ?_; rintro r v2 ⟨rfl, k2⟩
          go_wp2_with fail
          refine hK.out _ _ (btrans hbq k2) (.inl ?_)
          clear hK K
          replace hbq := btrans hbq k2
          clear k2
          try simp only [putQ]
          iterate 3 refine qY ?_
          refine qE ?_
          have B2 := btrans hb1 hbq
          clear hbq hb1 g0 g1 m0 m1 m2 m3
          go_wp2
          go_roundw
          case rel => exact ⟨k + 1, _, by omega, by go_num, rfl, hy2, hyz1, B2⟩
          case measure => simp [intOf]; omega
        · obtain rfl : k = n.O.length := by omega
          have m0 : ¬ 9223372036854775807 < y.size + 1 := by omega
          have fin := btrans b0 hb
          go_wp2
          go_ret
          exact ⟨by rw [hy.out]; rfl, fin⟩
set_option maxRecDepth 20000 in
set_option maxHeartbeats 8000000 in
theorem ndS_any (n : Nod) (L : Loc) (w : World) (h : NdR w n L) (p : NdP n) :
    Calls Tryz.prog 34 #[.agg #[.int .i64 n.me, .bool n.up, .bool n.gone, .bool n.gate, .int .i64 n.inc, .int .i64 n.now, .int .i64 n.sq, .int .i64 n.turn, .slice L.ta n.T.length L.tc, .slice L.ca n.C.length L.cc, .int .i64 n.pn, .int .i64 n.ps, .int .i64 n.pq, .bool n.pa, .slice L.da n.D.length L.dc, .int .i64 n.cx, .int .i64 n.cy, .int .i64 n.ch, .int .i64 n.ce, .slice L.pla n.P.length L.plc, .slice L.oa n.O.length L.oc]] w fun e w' => e = .returned (.string (nTx n ++ bs [10])) ∧ Below w.heap.size w w' := by
  have b0 := balloc (.cells #[.int .i64 n.me, .bool n.up, .bool n.gone, .bool n.gate, .int .i64 n.inc, .int .i64 n.now, .int .i64 n.sq, .int .i64 n.turn, .slice L.ta n.T.length L.tc, .slice L.ca n.C.length L.cc, .int .i64 n.pn, .int .i64 n.ps, .int .i64 n.pq, .bool n.pa, .slice L.da n.D.length L.dc, .int .i64 n.cx, .int .i64 n.cy, .int .i64 n.ch, .int .i64 n.ce, .slice L.pla n.P.length L.plc, .slice L.oa n.O.length L.oc] 52) (Below.refl w.heap.size w)
  have X := Ws.box (w := w) #[.int .i64 n.me, .bool n.up, .bool n.gone, .bool n.gate, .int .i64 n.inc, .int .i64 n.now, .int .i64 n.sq, .int .i64 n.turn, .slice L.ta n.T.length L.tc, .slice L.ca n.C.length L.cc, .int .i64 n.pn, .int .i64 n.ps, .int .i64 n.pq, .bool n.pa, .slice L.da n.D.length L.dc, .int .i64 n.cx, .int .i64 n.cy, .int .i64 n.ch, .int .i64 n.ce, .slice L.pla n.P.length L.plc, .slice L.oa n.O.length L.oc] 52
  have h0 := h.below b0
  clear h
  obtain ⟨x0, hx0⟩ : ∃ x, Hid (bs (Lib.itoa n.me) = x) := ⟨_, rfl⟩
  have q0 := p.me
  have z0 : x0.size ≤ 20 := by rw [← hx0.out]; exact itoaZ_len (by omega) (by omega)
  have k0 : ¬ 9223372036854775807 < 5 + x0.size := by omega
  obtain ⟨ad, had⟩ : ∃ ad, Hid (w.heap.size = ad) := ⟨_, rfl⟩
  cases hu : n.up
  · have e1 : Hid (nTx n ++ bs [10] = bs [110, 111, 100, 101, 32] ++ x0 ++ bs [32, 100, 111, 119, 110, 10]) := by
      unfold Hid nTx
      rw [hu, if_neg (by simp), hx0.out]
      rw [ByteArray.append_assoc, bs_append]
      rfl
    rw [e1.out]
    have k1 : ¬ 9223372036854775807 < 5 + x0.size + 6 := by omega
    clear e1 p
    rw [hu] at X b0 h0
    go_enter Tryz.func34, Tryz.ntmps34
    go_upto_region 1 with fail
    generalize w.alloc (.cells #[.int .i64 n.me, .bool false, .bool n.gone, .bool n.gate, .int .i64 n.inc, .int .i64 n.now, .int .i64 n.sq, .int .i64 n.turn, .slice L.ta n.T.length L.tc, .slice L.ca n.C.length L.cc, .int .i64 n.pn, .int .i64 n.ps, .int .i64 n.pq, .bool n.pa, .slice L.da n.D.length L.dc, .int .i64 n.cx, .int .i64 n.cy, .int .i64 n.ch, .int .i64 n.ce, .slice L.pla n.P.length L.plc, .slice L.oa n.O.length L.oc] 52) = u at *
    have c0 := X.c 0 (.int .i64 n.me) rfl
    have c1 := X.c 1 (.bool false) rfl
    rw [had.out] at c0 c1 ⊢
    clear X
    go_wp2_with fail
    refine (decZ n.me x0 (by omega) (by omega) hx0.out _).mono ?_
    rintro e u1 ⟨rfl, k2⟩
    replace c1 := keep_below k2 c1
    replace b0 := btrans b0 k2
    clear k2 c0 h0
    go_wp2
    go_ret
    exact ⟨rfl, had.out ▸ b0⟩
  · obtain ⟨x1, hx1⟩ : ∃ x, Hid (bs (Lib.itoa n.now) = x) := ⟨_, rfl⟩
    have q1 := p.now hu
    have z1 : x1.size ≤ 20 := by rw [← hx1.out]; exact itoaZ_len (by omega) (by omega)
    obtain ⟨x2, hx2⟩ : ∃ x, Hid (bs (Lib.itoa n.inc) = x) := ⟨_, rfl⟩
    have q2 := p.inc hu
    have z2 : x2.size ≤ 20 := by rw [← hx2.out]; exact itoaZ_len (by omega) (by omega)
    obtain ⟨x3, hx3⟩ : ∃ x, Hid (bs (Lib.itoa n.cx) = x) := ⟨_, rfl⟩
    have q3 := p.cx hu
    have z3 : x3.size ≤ 20 := by rw [← hx3.out]; exact itoaZ_len (by omega) (by omega)
    obtain ⟨x4, hx4⟩ : ∃ x, Hid (bs (Lib.itoa n.cy) = x) := ⟨_, rfl⟩
    have q4 := p.cy hu
    have z4 : x4.size ≤ 20 := by rw [← hx4.out]; exact itoaZ_len (by omega) (by omega)
    obtain ⟨x5, hx5⟩ : ∃ x, Hid (bs (Lib.itoa n.ch) = x) := ⟨_, rfl⟩
    have q5 := p.ch hu
    have z5 : x5.size ≤ 20 := by rw [← hx5.out]; exact itoaZ_len (by omega) (by omega)
    obtain ⟨x6, hx6⟩ : ∃ x, Hid (txt n.T.length (tF n.T) = x) := ⟨_, rfl⟩
    have z6 : x6.size ≤ 200 := by rw [← hx6.out]; exact txt_len _ _
    cases hg : n.gone
    · skip
      obtain ⟨S, hS⟩ : ∃ S, Hid (bs [110, 111, 100, 101, 32] ++ x0 ++ bs [32, 110, 111, 119, 32] ++ x1 ++ bs [32, 105, 110, 99, 32] ++ x2 ++ bs [32, 97, 116, 32] ++ x3 ++ bs [44] ++ x4 ++ bs [43] ++ x5 ++ bs [32, 116, 97, 98, 108, 101, 32] ++ x6 = S) := ⟨_, rfl⟩
      have e1 : Hid (nTx n ++ bs [10] = S ++ oTxs n.O n.O.length ++ bs [10]) := by
        unfold Hid nTx
        rw [← hS.out, hu, if_pos rfl, hg, if_neg (by simp), hx0.out, hx1.out, hx2.out, hx3.out, hx4.out, hx5.out, hx6.out]
        simp only [ByteArray.append_assoc, nil_bs]
      have hSz : S.size ≤ 1000 := by
        rw [← hS.out]
        simp only [ByteArray.size_append]
        simp only [ByteArray.size, List.size_toArray, List.length_cons, List.length_nil]
        simp only [ByteArray.size] at z0 z1 z2 z3 z4 z5 z6
        omega
      rw [e1.out]
      have m0 : ¬ 9223372036854775807 < 5 + x0.size + 5 := by omega
      have m1 : ¬ 9223372036854775807 < 5 + x0.size + 5 + x1.size := by omega
      have m2 : ¬ 9223372036854775807 < 5 + x0.size + 5 + x1.size + 5 := by omega
      have m3 : ¬ 9223372036854775807 < 5 + x0.size + 5 + x1.size + 5 + x2.size := by omega
      have m4 : ¬ 9223372036854775807 < 5 + x0.size + 5 + x1.size + 5 + x2.size + 4 := by omega
      have m5 : ¬ 9223372036854775807 < 5 + x0.size + 5 + x1.size + 5 + x2.size + 4 + x3.size := by omega
      have m6 : ¬ 9223372036854775807 < 5 + x0.size + 5 + x1.size + 5 + x2.size + 4 + x3.size + 1 := by omega
      have m7 : ¬ 9223372036854775807 < 5 + x0.size + 5 + x1.size + 5 + x2.size + 4 + x3.size + 1 + x4.size := by omega
      have m8 : ¬ 9223372036854775807 < 5 + x0.size + 5 + x1.size + 5 + x2.size + 4 + x3.size + 1 + x4.size + 1 := by omega
      have m9 : ¬ 9223372036854775807 < 5 + x0.size + 5 + x1.size + 5 + x2.size + 4 + x3.size + 1 + x4.size + 1 + x5.size := by omega
      have m10 : ¬ 9223372036854775807 < 5 + x0.size + 5 + x1.size + 5 + x2.size + 4 + x3.size + 1 + x4.size + 1 + x5.size + 7 := by omega
      have m11 : ¬ 9223372036854775807 < 5 + x0.size + 5 + x1.size + 5 + x2.size + 4 + x3.size + 1 + x4.size + 1 + x5.size + 7 + x6.size := by omega
      have hO := p.o hu
      have hOs := p.os hu
      clear e1 p
      rw [hu, hg] at X b0 h0
      go_enter Tryz.func34, Tryz.ntmps34
      go_upto_region 1 with fail
      generalize w.alloc (.cells #[.int .i64 n.me, .bool true, .bool false, .bool n.gate, .int .i64 n.inc, .int .i64 n.now, .int .i64 n.sq, .int .i64 n.turn, .slice L.ta n.T.length L.tc, .slice L.ca n.C.length L.cc, .int .i64 n.pn, .int .i64 n.ps, .int .i64 n.pq, .bool n.pa, .slice L.da n.D.length L.dc, .int .i64 n.cx, .int .i64 n.cy, .int .i64 n.ch, .int .i64 n.ce, .slice L.pla n.P.length L.plc, .slice L.oa n.O.length L.oc] 52) = u at *
      have c0 := X.c 0 (.int .i64 n.me) rfl
      have c1 := X.c 1 (.bool true) rfl
      have c2 := X.c 2 (.bool false) rfl
      have c4 := X.c 4 (.int .i64 n.inc) rfl
      have c5 := X.c 5 (.int .i64 n.now) rfl
      have c8 := X.c 8 (.slice L.ta n.T.length L.tc) rfl
      have c15 := X.c 15 (.int .i64 n.cx) rfl
      have c16 := X.c 16 (.int .i64 n.cy) rfl
      have c17 := X.c 17 (.int .i64 n.ch) rfl
      have c20 := X.c 20 (.slice L.oa n.O.length L.oc) rfl
      rw [had.out] at c0 c1 c2 c4 c5 c8 c15 c16 c17 c20 ⊢
      clear X
      go_wp2_with fail
      refine (decZ n.me x0 (by omega) (by omega) hx0.out _).mono ?_
      rintro e u1 ⟨rfl, k2⟩
      replace c0 := keep_below k2 c0
      replace c1 := keep_below k2 c1
      replace c2 := keep_below k2 c2
      replace c4 := keep_below k2 c4
      replace c5 := keep_below k2 c5
      replace c8 := keep_below k2 c8
      replace c15 := keep_below k2 c15
      replace c16 := keep_below k2 c16
      replace c17 := keep_below k2 c17
      replace c20 := keep_below k2 c20
      replace b0 := btrans b0 k2
      replace h0 := h0.below k2
      clear k2
      go_upto_region 6 with fail
      refine wp_region_q s34_6 t34_6 (fun hbq => ?_)
      iterate 3 refine qY ?_
      refine qL ?_
      refine qY ?_
      refine qL ?_
      iterate 2 refine qY ?_
      refine qL ?_
      iterate 2 refine qY ?_
      refine qL ?_
      iterate 2 refine qY ?_
      refine qL ?_
      refine qY ?_
      refine qL ?_
      refine qC (fun K hK => ?_)
      go_simp
      refine (decZ n.now x1 (by omega) (by omega) hx1.out _).mono ?_; rintro r v1 ⟨rfl, k2⟩
      go_wp2_with fail
      refine hK.out _ _ (btrans hbq k2) (.inl ?_)
      clear hK K
      replace hbq := btrans hbq k2
      clear k2
      try simp only [putQ]
      iterate 2 refine qY ?_
      refine qC (fun K hK => ?_)
      go_simp
      refine (decZ n.inc x2 (by omega) (by omega) hx2.out _).mono ?_; rintro r v2 ⟨rfl, k2⟩
      go_wp2_with fail
      refine hK.out _ _ (btrans hbq k2) (.inl ?_)
      clear hK K
      replace hbq := btrans hbq k2
      clear k2
      try simp only [putQ]
      iterate 2 refine qY ?_
      refine qC (fun K hK => ?_)
      go_simp
      refine (decZ n.cx x3 (by omega) (by omega) hx3.out _).mono ?_; rintro r v2 ⟨rfl, k2⟩
      go_wp2_with fail
      refine hK.out _ _ (btrans hbq k2) (.inl ?_)
      clear hK K
      replace hbq := btrans hbq k2
      clear k2
      try simp only [putQ]
      iterate 2 refine qY ?_
      refine qC (fun K hK => ?_)
      go_simp
      refine (decZ n.cy x4 (by omega) (by omega) hx4.out _).mono ?_; rintro r v2 ⟨rfl, k2⟩
      go_wp2_with fail
      refine hK.out _ _ (btrans hbq k2) (.inl ?_)
      clear hK K
      replace hbq := btrans hbq k2
      clear k2
      try simp only [putQ]
      iterate 2 refine qY ?_
      refine qC (fun K hK => ?_)
      go_simp
      refine (decZ n.ch x5 (by omega) (by omega) hx5.out _).mono ?_; rintro r v2 ⟨rfl, k2⟩
      go_wp2_with fail
      refine hK.out _ _ (btrans hbq k2) (.inl ?_)
      clear hK K
      replace hbq := btrans hbq k2
      clear k2
      try simp only [putQ]
      iterate 2 refine qY ?_
      refine qC (fun K hK => ?_)
      go_simp
      refine (textS L.ta n.T.length L.tc (tF n.T) x6 _ (h0.f.below hbq) h0.hf hx6.out).mono ?_; rintro r u2 ⟨rfl, k2⟩
      go_wp2_with fail
      refine hK.out _ _ (btrans hbq k2) (.inl ?_)
      clear hK K
      replace hbq := btrans hbq k2
      clear k2
      try simp only [putQ]
      iterate 2 refine qY ?_
      refine qE ?_
      replace c0 := keep_below hbq c0
      replace c1 := keep_below hbq c1
      replace c2 := keep_below hbq c2
      replace c4 := keep_below hbq c4
      replace c5 := keep_below hbq c5
      replace c8 := keep_below hbq c8
      replace c15 := keep_below hbq c15
      replace c16 := keep_below hbq c16
      replace c17 := keep_below hbq c17
      replace c20 := keep_below hbq c20
      replace b0 := btrans b0 hbq
      replace h0 := h0.below hbq
      clear hbq
      clear c0 c1 c2 c4 c5 c8 c15 c16 c17 m0 m1 m2 m3 m4 m5 m6 m7 m8 m9 m10 m11 k0
      have hf := h0.o
      have hfb := h0.ob
      clear h0
      go_wp2_with fail
      go_loopw [3, 4] (fun v i wr => ∃ (k : Nat) (y : ByteArray), k ≤ n.O.length ∧ i = .int .i64 k ∧ v = .string y ∧ Hid (S ++ oTxs n.O k = y) ∧ y.size ≤ 1000 + 1000 * k ∧ Below u2.heap.size u2 wr) (fun _ i _ => n.O.length - (intOf i).toNat)
      case atStart => exact ⟨0, S, Nat.zero_le _, rfl, by rw [← hS.out], bs_nil S, by omega, Below.refl _ _⟩
      case round =>
        obtain ⟨k, y, hk, rfl, rfl, hy, hyz, hb⟩ := hrel
        have c20' := keep_below hb c20
        by_cases hlt : k < n.O.length
        · have i0 : (0 : Int) ≤ (k : Int) := by omega
          have i1 : (k : Int) < (n.O.length : Int) := by omega
          obtain ⟨b, off, hoa, _, hfk⟩ := (hf.below hb) (by omega)
          obtain ⟨d0, d1⟩ := hfk k hlt
          obtain ⟨f1, f2⟩ := (hfb.below hb) k hlt
          have hq := hOs k hlt
          have hy1 : Hid (S ++ oTxs n.O (k + 1) = y ++ oTx (n.O.getD k Od.zero)) := by
            unfold Hid
            rw [← hy.out, ByteArray.append_assoc]
            rfl
          have hoo : Hid (oF n.O L.oA L.oC k = ⟨(n.O.getD k Od.zero).n, L.oA k, (n.O.getD k Od.zero).fs.length, L.oC k, tF (n.O.getD k Od.zero).fs⟩) := rfl
          rw [hoo.out] at d0 d1 f1 f2
          unfold oTx at hy1
          generalize n.O.getD k Od.zero = o at *
          dsimp only at d0 d1 f1 f2
          obtain ⟨x7, hx7⟩ : ∃ x, Hid (bs (Lib.itoa o.n) = x) := ⟨_, rfl⟩
          obtain ⟨x8, hx8⟩ : ∃ x, Hid (txt o.fs.length (tF o.fs) = x) := ⟨_, rfl⟩
          have z7 : x7.size ≤ 20 := by rw [← hx7.out]; exact itoaZ_len (by omega) (by omega)
          have z8 : x8.size ≤ 200 := by rw [← hx8.out]; exact txt_len _ _
          rw [hx7.out, hx8.out] at hy1
          rw [hoa] at c20' ⊢
          clear hoo hfk hy hoa
          have m0 : ¬ 9223372036854775807 < y.size + 6 := by omega
          have m1 : ¬ 9223372036854775807 < y.size + 6 + x7.size := by omega
          have m2 : ¬ 9223372036854775807 < y.size + 6 + x7.size + 1 := by omega
          have m3 : ¬ 9223372036854775807 < y.size + 6 + x7.size + 1 + x8.size := by omega
          have hy2 : Hid (S ++ oTxs n.O (k + 1) = y ++ bs [32, 115, 105, 116, 101, 32] ++ x7 ++ bs [32] ++ x8) := by
            unfold Hid
            rw [hy1.out]
            simp only [ByteArray.append_assoc]
          have hyz1 : (y ++ bs [32, 115, 105, 116, 101, 32] ++ x7 ++ bs [32] ++ x8).size ≤ 1000 + 1000 * (k + 1) := by
            simp only [ByteArray.size_append]
            simp only [ByteArray.size, List.size_toArray, List.length_cons, List.length_nil]
            simp only [ByteArray.size] at z7 z8 hyz
            omega
          clear hy1
          go_upto_region 10 with fail
          refine wp_region_q s34_10 t34_10 (fun hbq => ?_)
          iterate 3 refine qY ?_
          refine qL ?_
          iterate 3 refine qY ?_
          refine qL ?_
          refine qY ?_
          refine qL ?_
          iterate 3 refine qY ?_
          refine qL ?_
          refine qC (fun K hK => ?_)
          go_simp
          refine (decZ o.n x7 (by omega) (by omega) hx7.out _).mono ?_; rintro r v1 ⟨rfl, k2⟩
          go_wp2_with fail
          refine hK.out _ _ (btrans hbq k2) (.inl ?_)
          clear hK K
          replace hbq := btrans hbq k2
          clear k2
          try simp only [putQ]
          iterate 2 refine qY ?_
          refine qC (fun K hK => ?_)
          go_simp
          refine (textS (L.oA k) o.fs.length (L.oC k) (tF o.fs) x8 _ (f1.below hbq) f2 hx8.out).mono ?_; rintro r v2 ⟨rfl, k2⟩
          go_wp2_with fail
          refine hK.out _ _ (btrans hbq k2) (.inl ?_)
          clear hK K
          replace hbq := btrans hbq k2
          clear k2
          try simp only [putQ]
          iterate 2 refine qY ?_
          refine qE ?_
          have B2 := btrans hb hbq
          clear hbq hb d0 d1 c20' m0 m1 m2 m3
          go_wp2
          go_roundw
          case rel => exact ⟨k + 1, _, by omega, by go_num, rfl, hy2, hyz1, B2⟩
          case measure => simp [intOf]; omega
        · obtain rfl : k = n.O.length := by omega
          have m0 : ¬ 9223372036854775807 < y.size + 1 := by omega
          have fin := btrans b0 hb
          go_wp2
          go_ret
          exact ⟨by rw [hy.out]; rfl, fin⟩
    · skip
      obtain ⟨S, hS⟩ : ∃ S, Hid (bs [110, 111, 100, 101, 32] ++ x0 ++ bs [32, 108, 101, 102, 116] ++ bs [32, 110, 111, 119, 32] ++ x1 ++ bs [32, 105, 110, 99, 32] ++ x2 ++ bs [32, 97, 116, 32] ++ x3 ++ bs [44] ++ x4 ++ bs [43] ++ x5 ++ bs [32, 116, 97, 98, 108, 101, 32] ++ x6 = S) := ⟨_, rfl⟩
      have e1 : Hid (nTx n ++ bs [10] = S ++ oTxs n.O n.O.length ++ bs [10]) := by
        unfold Hid nTx
        rw [← hS.out, hu, if_pos rfl, hg, if_pos rfl, hx0.out, hx1.out, hx2.out, hx3.out, hx4.out, hx5.out, hx6.out]
        simp only [ByteArray.append_assoc]
      have hSz : S.size ≤ 1000 := by
        rw [← hS.out]
        simp only [ByteArray.size_append]
        simp only [ByteArray.size, List.size_toArray, List.length_cons, List.length_nil]
        simp only [ByteArray.size] at z0 z1 z2 z3 z4 z5 z6
        omega
      rw [e1.out]
      have k1 : ¬ 9223372036854775807 < 5 + x0.size + 5 := by omega
      have m0 : ¬ 9223372036854775807 < 5 + x0.size + 5 + 5 := by omega
      have m1 : ¬ 9223372036854775807 < 5 + x0.size + 5 + 5 + x1.size := by omega
      have m2 : ¬ 9223372036854775807 < 5 + x0.size + 5 + 5 + x1.size + 5 := by omega
      have m3 : ¬ 9223372036854775807 < 5 + x0.size + 5 + 5 + x1.size + 5 + x2.size := by omega
      have m4 : ¬ 9223372036854775807 < 5 + x0.size + 5 + 5 + x1.size + 5 + x2.size + 4 := by omega
      have m5 : ¬ 9223372036854775807 < 5 + x0.size + 5 + 5 + x1.size + 5 + x2.size + 4 + x3.size := by omega
      have m6 : ¬ 9223372036854775807 < 5 + x0.size + 5 + 5 + x1.size + 5 + x2.size + 4 + x3.size + 1 := by omega
      have m7 : ¬ 9223372036854775807 < 5 + x0.size + 5 + 5 + x1.size + 5 + x2.size + 4 + x3.size + 1 + x4.size := by omega
      have m8 : ¬ 9223372036854775807 < 5 + x0.size + 5 + 5 + x1.size + 5 + x2.size + 4 + x3.size + 1 + x4.size + 1 := by omega
      have m9 : ¬ 9223372036854775807 < 5 + x0.size + 5 + 5 + x1.size + 5 + x2.size + 4 + x3.size + 1 + x4.size + 1 + x5.size := by omega
      have m10 : ¬ 9223372036854775807 < 5 + x0.size + 5 + 5 + x1.size + 5 + x2.size + 4 + x3.size + 1 + x4.size + 1 + x5.size + 7 := by omega
      have m11 : ¬ 9223372036854775807 < 5 + x0.size + 5 + 5 + x1.size + 5 + x2.size + 4 + x3.size + 1 + x4.size + 1 + x5.size + 7 + x6.size := by omega
      have hO := p.o hu
      have hOs := p.os hu
      clear e1 p
      rw [hu, hg] at X b0 h0
      go_enter Tryz.func34, Tryz.ntmps34
      go_upto_region 1 with fail
      generalize w.alloc (.cells #[.int .i64 n.me, .bool true, .bool true, .bool n.gate, .int .i64 n.inc, .int .i64 n.now, .int .i64 n.sq, .int .i64 n.turn, .slice L.ta n.T.length L.tc, .slice L.ca n.C.length L.cc, .int .i64 n.pn, .int .i64 n.ps, .int .i64 n.pq, .bool n.pa, .slice L.da n.D.length L.dc, .int .i64 n.cx, .int .i64 n.cy, .int .i64 n.ch, .int .i64 n.ce, .slice L.pla n.P.length L.plc, .slice L.oa n.O.length L.oc] 52) = u at *
      have c0 := X.c 0 (.int .i64 n.me) rfl
      have c1 := X.c 1 (.bool true) rfl
      have c2 := X.c 2 (.bool true) rfl
      have c4 := X.c 4 (.int .i64 n.inc) rfl
      have c5 := X.c 5 (.int .i64 n.now) rfl
      have c8 := X.c 8 (.slice L.ta n.T.length L.tc) rfl
      have c15 := X.c 15 (.int .i64 n.cx) rfl
      have c16 := X.c 16 (.int .i64 n.cy) rfl
      have c17 := X.c 17 (.int .i64 n.ch) rfl
      have c20 := X.c 20 (.slice L.oa n.O.length L.oc) rfl
      rw [had.out] at c0 c1 c2 c4 c5 c8 c15 c16 c17 c20 ⊢
      clear X
      go_wp2_with fail
      refine (decZ n.me x0 (by omega) (by omega) hx0.out _).mono ?_
      rintro e u1 ⟨rfl, k2⟩
      replace c0 := keep_below k2 c0
      replace c1 := keep_below k2 c1
      replace c2 := keep_below k2 c2
      replace c4 := keep_below k2 c4
      replace c5 := keep_below k2 c5
      replace c8 := keep_below k2 c8
      replace c15 := keep_below k2 c15
      replace c16 := keep_below k2 c16
      replace c17 := keep_below k2 c17
      replace c20 := keep_below k2 c20
      replace b0 := btrans b0 k2
      replace h0 := h0.below k2
      clear k2
      go_upto_region 6 with fail
      refine wp_region_q s34_6 t34_6 (fun hbq => ?_)
      iterate 3 refine qY ?_
      refine qL ?_
      refine qY ?_
      refine qL ?_
      iterate 2 refine qY ?_
      refine qL ?_
      iterate 2 refine qY ?_
      refine qL ?_
      iterate 2 refine qY ?_
      refine qL ?_
      refine qY ?_
      refine qL ?_
      refine qC (fun K hK => ?_)
      go_simp
      refine (decZ n.now x1 (by omega) (by omega) hx1.out _).mono ?_; rintro r v1 ⟨rfl, k2⟩
      go_wp2_with fail
      refine hK.out _ _ (btrans hbq k2) (.inl ?_)
      clear hK K
      replace hbq := btrans hbq k2
      clear k2
      try simp only [putQ]
      iterate 2 refine qY ?_
      refine qC (fun K hK => ?_)
      go_simp
      refine (decZ n.inc x2 (by omega) (by omega) hx2.out _).mono ?_; rintro r v2 ⟨rfl, k2⟩
      go_wp2_with fail
      refine hK.out _ _ (btrans hbq k2) (.inl ?_)
      clear hK K
      replace hbq := btrans hbq k2
      clear k2
      try simp only [putQ]
      iterate 2 refine qY ?_
      refine qC (fun K hK => ?_)
      go_simp
      refine (decZ n.cx x3 (by omega) (by omega) hx3.out _).mono ?_; rintro r v2 ⟨rfl, k2⟩
      go_wp2_with fail
      refine hK.out _ _ (btrans hbq k2) (.inl ?_)
      clear hK K
      replace hbq := btrans hbq k2
      clear k2
      try simp only [putQ]
      iterate 2 refine qY ?_
      refine qC (fun K hK => ?_)
      go_simp
      refine (decZ n.cy x4 (by omega) (by omega) hx4.out _).mono ?_; rintro r v2 ⟨rfl, k2⟩
      go_wp2_with fail
      refine hK.out _ _ (btrans hbq k2) (.inl ?_)
      clear hK K
      replace hbq := btrans hbq k2
      clear k2
      try simp only [putQ]
      iterate 2 refine qY ?_
      refine qC (fun K hK => ?_)
      go_simp
      refine (decZ n.ch x5 (by omega) (by omega) hx5.out _).mono ?_; rintro r v2 ⟨rfl, k2⟩
      go_wp2_with fail
      refine hK.out _ _ (btrans hbq k2) (.inl ?_)
      clear hK K
      replace hbq := btrans hbq k2
      clear k2
      try simp only [putQ]
      iterate 2 refine qY ?_
      refine qC (fun K hK => ?_)
      go_simp
      refine (textS L.ta n.T.length L.tc (tF n.T) x6 _ (h0.f.below hbq) h0.hf hx6.out).mono ?_; rintro r u2 ⟨rfl, k2⟩
      go_wp2_with fail
      refine hK.out _ _ (btrans hbq k2) (.inl ?_)
      clear hK K
      replace hbq := btrans hbq k2
      clear k2
      try simp only [putQ]
      iterate 2 refine qY ?_
      refine qE ?_
      replace c0 := keep_below hbq c0
      replace c1 := keep_below hbq c1
      replace c2 := keep_below hbq c2
      replace c4 := keep_below hbq c4
      replace c5 := keep_below hbq c5
      replace c8 := keep_below hbq c8
      replace c15 := keep_below hbq c15
      replace c16 := keep_below hbq c16
      replace c17 := keep_below hbq c17
      replace c20 := keep_below hbq c20
      replace b0 := btrans b0 hbq
      replace h0 := h0.below hbq
      clear hbq
      clear c0 c1 c2 c4 c5 c8 c15 c16 c17 m0 m1 m2 m3 m4 m5 m6 m7 m8 m9 m10 m11 k0 k1
      have hf := h0.o
      have hfb := h0.ob
      clear h0
      go_wp2_with fail
      go_loopw [3, 4] (fun v i wr => ∃ (k : Nat) (y : ByteArray), k ≤ n.O.length ∧ i = .int .i64 k ∧ v = .string y ∧ Hid (S ++ oTxs n.O k = y) ∧ y.size ≤ 1000 + 1000 * k ∧ Below u2.heap.size u2 wr) (fun _ i _ => n.O.length - (intOf i).toNat)
      case atStart => exact ⟨0, S, Nat.zero_le _, rfl, by rw [← hS.out], bs_nil S, by omega, Below.refl _ _⟩
      case round =>
        obtain ⟨k, y, hk, rfl, rfl, hy, hyz, hb⟩ := hrel
        have c20' := keep_below hb c20
        by_cases hlt : k < n.O.length
        · have i0 : (0 : Int) ≤ (k : Int) := by omega
          have i1 : (k : Int) < (n.O.length : Int) := by omega
          obtain ⟨b, off, hoa, _, hfk⟩ := (hf.below hb) (by omega)
          obtain ⟨d0, d1⟩ := hfk k hlt
          obtain ⟨f1, f2⟩ := (hfb.below hb) k hlt
          have hq := hOs k hlt
          have hy1 : Hid (S ++ oTxs n.O (k + 1) = y ++ oTx (n.O.getD k Od.zero)) := by
            unfold Hid
            rw [← hy.out, ByteArray.append_assoc]
            rfl
          have hoo : Hid (oF n.O L.oA L.oC k = ⟨(n.O.getD k Od.zero).n, L.oA k, (n.O.getD k Od.zero).fs.length, L.oC k, tF (n.O.getD k Od.zero).fs⟩) := rfl
          rw [hoo.out] at d0 d1 f1 f2
          unfold oTx at hy1
          generalize n.O.getD k Od.zero = o at *
          dsimp only at d0 d1 f1 f2
          obtain ⟨x7, hx7⟩ : ∃ x, Hid (bs (Lib.itoa o.n) = x) := ⟨_, rfl⟩
          obtain ⟨x8, hx8⟩ : ∃ x, Hid (txt o.fs.length (tF o.fs) = x) := ⟨_, rfl⟩
          have z7 : x7.size ≤ 20 := by rw [← hx7.out]; exact itoaZ_len (by omega) (by omega)
          have z8 : x8.size ≤ 200 := by rw [← hx8.out]; exact txt_len _ _
          rw [hx7.out, hx8.out] at hy1
          rw [hoa] at c20' ⊢
          clear hoo hfk hy hoa
          have m0 : ¬ 9223372036854775807 < y.size + 6 := by omega
          have m1 : ¬ 9223372036854775807 < y.size + 6 + x7.size := by omega
          have m2 : ¬ 9223372036854775807 < y.size + 6 + x7.size + 1 := by omega
          have m3 : ¬ 9223372036854775807 < y.size + 6 + x7.size + 1 + x8.size := by omega
          have hy2 : Hid (S ++ oTxs n.O (k + 1) = y ++ bs [32, 115, 105, 116, 101, 32] ++ x7 ++ bs [32] ++ x8) := by
            unfold Hid
            rw [hy1.out]
            simp only [ByteArray.append_assoc]
          have hyz1 : (y ++ bs [32, 115, 105, 116, 101, 32] ++ x7 ++ bs [32] ++ x8).size ≤ 1000 + 1000 * (k + 1) := by
            simp only [ByteArray.size_append]
            simp only [ByteArray.size, List.size_toArray, List.length_cons, List.length_nil]
            simp only [ByteArray.size] at z7 z8 hyz
            omega
          clear hy1
          go_upto_region 10 with fail
          refine wp_region_q s34_10 t34_10 (fun hbq => ?_)
          iterate 3 refine qY ?_
          refine qL ?_
          iterate 3 refine qY ?_
          refine qL ?_
          refine qY ?_
          refine qL ?_
          iterate 3 refine qY ?_
          refine qL ?_
          refine qC (fun K hK => ?_)
          go_simp
          refine (decZ o.n x7 (by omega) (by omega) hx7.out _).mono ?_; rintro r v1 ⟨rfl, k2⟩
          go_wp2_with fail
          refine hK.out _ _ (btrans hbq k2) (.inl ?_)
          clear hK K
          replace hbq := btrans hbq k2
          clear k2
          try simp only [putQ]
          iterate 2 refine qY ?_
          refine qC (fun K hK => ?_)
          go_simp
          refine (textS (L.oA k) o.fs.length (L.oC k) (tF o.fs) x8 _ (f1.below hbq) f2 hx8.out).mono ?_; rintro r v2 ⟨rfl, k2⟩
          go_wp2_with fail
          refine hK.out _ _ (btrans hbq k2) (.inl ?_)
          clear hK K
          replace hbq := btrans hbq k2
          clear k2
          try simp only [putQ]
          iterate 2 refine qY ?_
          refine qE ?_
          have B2 := btrans hb hbq
          clear hbq hb d0 d1 c20' m0 m1 m2 m3
          go_wp2
          go_roundw
          case rel => exact ⟨k + 1, _, by omega, by go_num, rfl, hy2, hyz1, B2⟩
          case measure => simp [intOf]; omega
        · obtain rfl : k = n.O.length := by omega
          have m0 : ¬ 9223372036854775807 < y.size + 1 := by omega
          have fin := btrans b0 hb
          go_wp2
          go_ret
          exact ⟨by rw [hy.out]; rfl, fin⟩
end Go.Proofs.YtoimfgfhlbkdcaaGreatDoor
/- The board of a world: the program's way and the model's. -/
namespace Go.Proofs.YtoimfgfhlbkdcaaGreatDoor
open Go.ChangeShapes Go.WideShapes Go.ChangeAt Go.RowKit
attribute [local go_sem ↓] Go.wp_at_zero Go.wp_at_succ
/-- the nodes' lines -/
def wTx (nd : Nat → Nod) : Nat → ByteArray
  | 0 => bs []
  | k + 1 => wTx nd k ++ (nTx (nd k) ++ bs [10])
/-- the first line -/
def wHd (rl bl : Nat) : ByteArray := bs (Lib.itoa (rl : Int)) ++ bs [32, 117, 110, 100, 101, 114, 32, 119, 97, 121, 44, 32] ++ bs (Lib.itoa (bl : Int)) ++ bs [32, 116, 111, 108, 100, 10]
/-- a world's board -/
def brd (nl : Nat) (nd : Nat → Nod) (rl : Nat) (FR : Nat → Ft) (sl : Nat) (SD : Nat → Int) (bl : Nat) (BF : Nat → Fc) : ByteArray := if wldB nl nd rl FR sl SD bl BF = true then wHd rl bl ++ wTx nd nl else bs []
theorem wld_nod {nl : Nat} {nd : Nat → Nod} {rl : Nat} {FR : Nat → Ft} {sl : Nat} {SD : Nat → Int} {bl : Nat} {BF : Nat → Fc} (h : wldB nl nd rl FR sl SD bl BF = true) : nl = 8 ∧ ∀ k, k < nl → nodQ (nd k) = true := by
  unfold wldB at h
  simp only [Bool.and_eq_true] at h
  refine ⟨of_decide_eq_true h.1.1.1.1.1, ?_⟩
  have h1 := h.1.1.2
  unfold sdnB at h1
  rw [decide_eq_true_iff] at h1
  intro k hk
  have h2 := (h1 k hk).1
  unfold nokB at h2
  simp only [Bool.and_eq_true] at h2
  exact h2.2
theorem nod_ndp {n : Nod} (h : nodQ n = true) (ho : n.O.length ≤ 1048576) : NdP n := by
  unfold nodQ nodB at h
  rw [Bool.and_eq_true, Bool.or_eq_true] at h
  obtain ⟨h1, h2⟩ := h
  unfold numB inb at h1
  simp only [Bool.and_eq_true, decide_eq_true_eq] at h1
  have hup : n.up = true → cok n.cx n.cy n.ch n.ce = true ∧ othsB n.me n.O.length (oF n.O (fun _ => none) fun _ => 0) = true := fun hu => by
    rcases h2 with h2 | h2
    · unfold dwn at h2
      simp [hu] at h2
    · rw [Bool.and_eq_true] at h2
      have h3 := h2.2
      unfold upB at h3
      simp only [Bool.and_eq_true] at h3
      exact ⟨h3.1.1.1.1.1.1, h3.2⟩
  have hc : n.up = true → (-100000 ≤ n.cx ∧ n.cx ≤ 100000) ∧ (-100000 ≤ n.cy ∧ n.cy ≤ 100000) ∧ (0 ≤ n.ch ∧ n.ch ≤ 100000) := fun hu => by
    have := (hup hu).1
    unfold cok inb at this
    simp only [Bool.and_eq_true, decide_eq_true_eq] at this
    omega
  refine ⟨by omega, fun _ => by omega, fun _ => by omega, fun hu => (hc hu).1, fun hu => (hc hu).2.1, fun hu => (hc hu).2.2, fun _ => ho, fun hu j hj => ?_⟩
  have := (hup hu).2
  unfold othsB otA at this
  rw [Bool.and_eq_true, decide_eq_true_iff] at this
  have h4 := this.2 j hj
  unfold othB inb at h4
  simp only [Bool.and_eq_true, decide_eq_true_eq] at h4
  exact h4.1.1.1.1
theorem oTxs_len (O : List Od) : ∀ k, (∀ j, j < k → 0 ≤ (O.getD j Od.zero).n ∧ (O.getD j Od.zero).n ≤ 1) → (oTxs O k).size ≤ 1000 * k
  | 0, _ => by simp [oTxs, ByteArray.size]
  | k + 1, h => by
    have h1 := oTxs_len O k (fun j hj => h j (by omega))
    have h2 := h k (by omega)
    have h3 := itoaZ_len (n := (O.getD k Od.zero).n) (by omega) (by omega)
    have h4 := txt_len (O.getD k Od.zero).fs.length (tF (O.getD k Od.zero).fs)
    unfold oTxs oTx
    simp only [ByteArray.size_append]
    have h5 : (bs [32, 115, 105, 116, 101, 32]).size = 6 := rfl
    have h6 : (bs [32]).size = 1 := rfl
    omega
theorem nTx_len (n : Nod) (p : NdP n) : (nTx n).size ≤ 2000000000 := by
  have p0 := p.me
  have h0 := itoaZ_len (n := n.me) (by omega) (by omega)
  have e0 : (bs [110, 111, 100, 101, 32]).size = 5 := rfl
  have e1 : (bs [32, 100, 111, 119, 110]).size = 5 := rfl
  have e2 : (bs [32, 108, 101, 102, 116]).size = 5 := rfl
  have e3 : (bs [32, 110, 111, 119, 32]).size = 5 := rfl
  have e4 : (bs [32, 105, 110, 99, 32]).size = 5 := rfl
  have e5 : (bs [32, 97, 116, 32]).size = 4 := rfl
  have e6 : (bs [44]).size = 1 := rfl
  have e7 : (bs [43]).size = 1 := rfl
  have e8 : (bs [32, 116, 97, 98, 108, 101, 32]).size = 7 := rfl
  have e9 : (bs []).size = 0 := rfl
  unfold nTx
  cases hu : n.up
  · rw [if_neg (by simp)]
    simp only [ByteArray.size_append]
    omega
  · have p1 := p.now hu
    have p2 := p.inc hu
    have p3 := p.cx hu
    have p4 := p.cy hu
    have p5 := p.ch hu
    have p6 := p.o hu
    have h1 := itoaZ_len (n := n.now) (by omega) (by omega)
    have h2 := itoaZ_len (n := n.inc) (by omega) (by omega)
    have h3 := itoaZ_len (n := n.cx) (by omega) (by omega)
    have h4 := itoaZ_len (n := n.cy) (by omega) (by omega)
    have h5 := itoaZ_len (n := n.ch) (by omega) (by omega)
    have h6 := txt_len n.T.length (tF n.T)
    have h7 := oTxs_len n.O n.O.length (p.os hu)
    rw [if_pos rfl]
    cases n.gone <;> simp only [if_true, if_false, Bool.false_eq_true, ByteArray.size_append] <;> omega
theorem wTx_len (nd : Nat → Nod) : ∀ k, (∀ j, j < k → NdP (nd j)) → (wTx nd k).size ≤ 2000000001 * k
  | 0, _ => by simp [wTx, ByteArray.size]
  | k + 1, h => by
    have h1 := wTx_len nd k (fun j hj => h j (by omega))
    have h2 := nTx_len (nd k) (h k (by omega))
    have h3 : (bs [10]).size = 1 := rfl
    unfold wTx
    simp only [ByteArray.size_append]
    omega
theorem wHd_len {rl bl : Nat} (h : rl ≤ 1048576) (h' : bl ≤ 1048576) : (wHd rl bl).size ≤ 60 ∧ 0 < (wHd rl bl).size := by
  have h1 := itoaZ_len (n := (rl : Int)) (by omega) (by omega)
  have h2 := itoaZ_len (n := (bl : Int)) (by omega) (by omega)
  have e0 : (bs [32, 117, 110, 100, 101, 114, 32, 119, 97, 121, 44, 32]).size = 12 := rfl
  have e1 : (bs [32, 116, 111, 108, 100, 10]).size = 6 := rfl
  unfold wHd
  simp only [ByteArray.size_append]
  omega
theorem sc_append (a b : ByteArray) : Lib.strCells (a ++ b) = Lib.strCells a ++ Lib.strCells b := by
  have := Lib.byteCells_append a.data.toList b.data.toList
  rw [← Array.toList_append, ← ByteArray.data_append] at this
  exact this
theorem lineW (B b g : Nat) (S x : ByteArray) (n : Int) (w : World) (h : Pg B b (Lib.strCells S) n w) (hg : w.heap[g]? = some (.cells #[.string x] 9 (0, 0))) (hne : g ≠ b) (hlen : S.size + x.size + 1 ≤ 140737488355328) (hBw : B ≤ w.heap.size) (n0 : 0 ≤ n) (n1 : n ≤ 1048576) :
    Calls Tryz.prog 35 #[.pointer (some ⟨b, 0, none⟩), .slice (some ⟨g, 0, none⟩) 1 1] w fun e w' => e = .returned (.tuple #[]) ∧ Pg B b (Lib.strCells (S ++ (x ++ bs [10]))) (n + 1) w' ∧ Below B w w' := by
  have := line_any B b g (Lib.strCells S) n [x] w h hg hne (by simp) (by rw [Lib.strCells_length]; simp only [szs]; omega) hBw n0 n1
  refine Calls.mono this ?_
  rintro e w' ⟨rfl, h1, h2⟩
  refine ⟨rfl, ?_, h2⟩
  have e1 : Lib.strCells S ++ cat [x] ++ [Value.int .u8 10] = Lib.strCells (S ++ (x ++ bs [10])) := by
    rw [sc_append, sc_append]
    simp only [cat, List.append_nil, List.append_assoc]
    rfl
  rw [← e1]
  exact h1
theorem lineH (B b g : Nat) (x y : ByteArray) (w : World) (h : Pg B b [] 0 w) (hg : w.heap[g]? = some (.cells #[.string x, .string (bs [32, 117, 110, 100, 101, 114, 32, 119, 97, 121, 44, 32]), .string y, .string (bs [32, 116, 111, 108, 100])] 9 (0, 0))) (hne : g ≠ b) (hx : x.size ≤ 20) (hy : y.size ≤ 20) (hBw : B ≤ w.heap.size) :
    Calls Tryz.prog 35 #[.pointer (some ⟨b, 0, none⟩), .slice (some ⟨g, 0, none⟩) 4 4] w fun e w' => e = .returned (.tuple #[]) ∧ Pg B b (Lib.strCells (x ++ bs [32, 117, 110, 100, 101, 114, 32, 119, 97, 121, 44, 32] ++ y ++ bs [32, 116, 111, 108, 100, 10])) 1 w' ∧ Below B w w' := by
  have e0 : (bs [32, 117, 110, 100, 101, 114, 32, 119, 97, 121, 44, 32]).size = 12 := rfl
  have e2 : (bs [32, 116, 111, 108, 100]).size = 5 := rfl
  have := line_any B b g [] 0 [x, bs [32, 117, 110, 100, 101, 114, 32, 119, 97, 121, 44, 32], y, bs [32, 116, 111, 108, 100]] w h hg hne (by simp) (by simp only [szs, List.length_nil]; omega) hBw (by omega) (by omega)
  refine Calls.mono this ?_
  rintro e w' ⟨rfl, h1, h2⟩
  refine ⟨rfl, ?_, h2⟩
  have e1 : [] ++ cat [x, bs [32, 117, 110, 100, 101, 114, 32, 119, 97, 121, 44, 32], y, bs [32, 116, 111, 108, 100]] ++ [Value.int .u8 10] = Lib.strCells (x ++ bs [32, 117, 110, 100, 101, 114, 32, 119, 97, 121, 44, 32] ++ y ++ bs [32, 116, 111, 108, 100, 10]) := by
    have e3 : bs [32, 116, 111, 108, 100, 10] = bs [32, 116, 111, 108, 100] ++ bs [10] := bs_append [32, 116, 111, 108, 100] [10]
    rw [e3]
    simp only [sc_append, cat, List.append_nil, List.nil_append, List.append_assoc]
    rfl
  rw [← e1]
  exact h1
theorem strW (B b : Nat) (S : ByteArray) (n : Int) (w : World) (h : Pg B b (Lib.strCells S) n w) (h0 : 0 < S.size) :
    Calls Tryz.prog 38 #[.pointer (some ⟨b, 0, none⟩)] w fun e w' => e = .returned (.string S) ∧ Below B w w' := by
  have := str_some B b S.data.toList n w h (fun e => by
    have : S.data.size = 0 := by rw [← Array.length_toList, e]; rfl
    simp only [ByteArray.size] at h0
    omega)
  rw [Array.toArray_toList] at this
  exact this
set_option maxRecDepth 20000 in
set_option maxHeartbeats 8000000 in
theorem brdI_any (na : Option Addr) (nl nc : Nat) (ra : Option Addr) (rl rc : Nat) (sa : Option Addr) (sl sc : Nat) (ba : Option Addr) (bl bc : Nat) (nd : Nat → Nod) (FR : Nat → Ft) (SD : Nat → Int) (BF : Nat → Fc) (w : World) (h : WdR w na nl ra rl sa sl ba bl nd FR SD BF) (ht : Tabs w) :
    Calls Tryz.prog 11 #[.agg #[.slice na nl nc, .slice ra rl rc, .slice sa sl sc, .slice ba bl bc]] w fun e w' => e = .returned (.string (brd nl nd rl FR sl SD bl BF)) ∧ Below w.heap.size w w' := by
  have b0 := balloc (.cells #[.slice na nl nc, .slice ra rl rc, .slice sa sl sc, .slice ba bl bc] 34) (Below.refl w.heap.size w)
  have X := Ws.box (w := w) #[.slice na nl nc, .slice ra rl rc, .slice sa sl sc, .slice ba bl bc] 34
  have h0 := h.below b0
  have t0 := ht.below b0
  obtain ⟨res, hres⟩ : ∃ r, Hid (brd nl nd rl FR sl SD bl BF = r) := ⟨_, rfl⟩
  have hr0 : Hid (wldB nl nd rl FR sl SD bl BF = false → res = bs []) := fun q => by rw [← hres.out, brd, q]; rfl
  have hr1 : Hid (wldB nl nd rl FR sl SD bl BF = true → res = wHd rl bl ++ wTx nd nl) := fun q => by rw [← hres.out, brd, if_pos q]
  rw [hres.out]
  have hnd : Hid (wldB nl nd rl FR sl SD bl BF = true → nl = 8 ∧ ∀ k, k < nl → nodQ (nd k) = true) := wld_nod
  have ok1 : ∀ w1, Below (w.alloc (.cells #[.slice na nl nc, .slice ra rl rc, .slice sa sl sc, .slice ba bl bc] 34)).heap.size (w.alloc (.cells #[.slice na nl nc, .slice ra rl rc, .slice sa sl sc, .slice ba bl bc] 34)) w1 → Calls Tryz.prog 24 #[.agg #[.slice na nl nc, .slice ra rl rc, .slice sa sl sc, .slice ba bl bc]] w1 fun e w' => e = .returned (.bool (wldB nl nd rl FR sl SD bl BF)) ∧ Below w1.heap.size w1 w' := fun w1 z => wldI_any na nl nc ra rl rc sa sl sc ba bl bc nd FR SD BF w1 (h0.below z)
  clear h hres
  obtain ⟨ok, hok⟩ : ∃ q, Hid (wldB nl nd rl FR sl SD bl BF = q) := ⟨_, rfl⟩
  rw [hok.out] at hnd hr0 hr1
  have ok2 : Hid _ := ok1
  rw [hok.out] at ok2
  clear ok1 hok
  obtain ⟨ad, had⟩ : ∃ ad, Hid (w.heap.size = ad) := ⟨_, rfl⟩
  go_enter Tryz.func11, Tryz.ntmps11
  go_upto_region 1 with fail
  have hlt : w.heap.size < (w.alloc (.cells #[.slice na nl nc, .slice ra rl rc, .slice sa sl sc, .slice ba bl bc] 34)).heap.size := by simp
  generalize w.alloc (.cells #[.slice na nl nc, .slice ra rl rc, .slice sa sl sc, .slice ba bl bc] 34) = u at *
  have e0 := X.c 0 (.slice na nl nc) rfl
  have e1 := X.c 1 (.slice ra rl rc) rfl
  have e2 := X.c 2 (.slice sa sl sc) rfl
  have e3 := X.c 3 (.slice ba bl bc) rfl
  rw [had.out] at e0 e1 e2 e3 hlt ⊢
  clear X
  go_wp2_with fail
  refine (ok2.out _ (Below.refl _ _)).mono ?_
  rintro r u1 ⟨rfl, k1⟩
  replace e0 := keep_below k1 e0
  replace e1 := keep_below k1 e1
  replace e3 := keep_below k1 e3
  replace h0 := h0.below k1
  replace t0 := t0.below k1
  have hadB : ad < u1.heap.size := by have := k1.size; omega
  replace b0 := btrans b0 k1
  clear k1 e2 ok2 hlt
  cases ok
  · have hr := hr0.out rfl
    clear hnd hr0 hr1
    go_wp2
    go_ret
    exact ⟨by rw [hr]; rfl, b0⟩
  · obtain ⟨h8, hq⟩ := hnd.out rfl
    have hr : Hid (res = wHd rl bl ++ wTx nd nl) := hr1.out rfl
    clear hnd hr0 hr1
    obtain ⟨x1, hx1⟩ : ∃ x, Hid (bs (Lib.itoa (rl : Int)) = x) := ⟨_, rfl⟩
    obtain ⟨x2, hx2⟩ : ∃ x, Hid (bs (Lib.itoa (bl : Int)) = x) := ⟨_, rfl⟩
    have hrl := h0.hr
    have hbl := h0.hb
    have hn8 := h0.hn
    have z1 : x1.size ≤ 20 := by rw [← hx1.out]; exact itoaZ_len (by omega) (by omega)
    have z2 : x2.size ≤ 20 := by rw [← hx2.out]; exact itoaZ_len (by omega) (by omega)
    have hH := wHd_len hrl hbl
    have hHd : Hid (wHd rl bl = x1 ++ bs [32, 117, 110, 100, 101, 114, 32, 119, 97, 121, 44, 32] ++ x2 ++ bs [32, 116, 111, 108, 100, 10]) := by
      unfold Hid wHd
      rw [hx1.out, hx2.out]
    have b1 := balloc (.cells #[.pointer none, .slice none 0 0, .int .i64 0] 77) (Below.refl u1.heap.size u1)
    have hpg : Pg u1.heap.size u1.heap.size [] 0 (u1.alloc (.cells #[.pointer none, .slice none 0 0, .int .i64 0] 77)) := .inl ⟨Nat.le_refl _, _, heap_alloc_new _ _, World.ownsRow_nil _ _ _ _, by simp [Value.ownBlock]⟩
    have hbp0 : u1.heap.size < (u1.alloc (.cells #[.pointer none, .slice none 0 0, .int .i64 0] 77)).heap.size := by simp
    go_upto_region 4 with fail
    generalize (u1.alloc (.cells #[.pointer none, .slice none 0 0, .int .i64 0] 77)) = u2 at *
    have d1 := keep_below b1 e1
    have d3 := keep_below b1 e3
    have tD : Tabs u2.drew := (t0.below b1).below (qd (Below.refl _ _))
    have c0 := e0
    obtain ⟨B, hB⟩ : ∃ B, Hid (u1.heap.size = B) := ⟨_, rfl⟩
    rw [hB.out] at hpg hbp0 hadB ⊢
    obtain ⟨bp, hbp1⟩ : ∃ bp, Hid (B = bp) := ⟨_, rfl⟩
    have hpg' : Pg B bp [] 0 u2 := hbp1.out ▸ hpg
    have hgoal : Hid (B = bp) := hbp1
    rw [hgoal.out]
    have hbp : bp < u2.heap.size := by rw [← hgoal.out]; exact hbp0
    have hBp : B ≤ bp := by rw [← hgoal.out]; exact Nat.le_refl _
    have hpg := hpg'
    clear hpg' hbp1
    refine wp_region_held_drew (S := fun w' => w'.cell? ⟨ad, 1, none⟩ = some (.slice ra rl rc) ∧ w'.cell? ⟨ad, 3, none⟩ = some (.slice ba bl bc)) (by kernel_rfl) ?_ (fun hHeld => ?_)
    · (try dsimp only); (refine ⟨?_, ?_⟩ <;> (repeat (first | with_reducible assumption | with_reducible refine keep_drew ?_ | with_reducible refine keep_below (by assumption) ?_ | with_reducible refine keep_alloc _ ?_)))
    refine wpAnyH_take (i := 0) (oi := { dst := some 11, op := Go.Op.move (Go.Operand.tmp 3), type := 71, pos := "l53_board.go:107", after := #[], guard := none }) (v := ?_) rfl (by kernel_rfl) (by kernel_rfl) (by kernel_rfl) (fun _ _ _ h => h) (Or.inl ⟨by rfl, ?_⟩) (by assumption) ?_
    rotate_left 1
    · (intro w hSw; (try dsimp only at hSw); go_simp; try with_reducible rfl)
    (try simp only [Act.put, List.setIfInBounds_toArray, List.set_cons_zero, List.set_cons_succ])
    refine wpAnyH_take (i := 1) (oi := { dst := some 12, op := Go.Op.fieldAddr 34 (Go.Operand.tmp 1) 1, type := 0, pos := "l53_board.go:107", after := #[], guard := none }) (v := ?_) rfl (by kernel_rfl) (by kernel_rfl) (by kernel_rfl) (fun _ _ _ h => h) (Or.inl ⟨by rfl, ?_⟩) (by assumption) ?_
    rotate_left 1
    · (intro w hSw; (try dsimp only at hSw); go_simp; try with_reducible rfl)
    (try simp only [Act.put, List.setIfInBounds_toArray, List.set_cons_zero, List.set_cons_succ])
    refine wpAnyH_take (i := 2) (oi := { dst := some 13, op := Go.Op.load 31 (Go.Operand.tmp 12), type := 31, pos := "l53_board.go:107", after := #[{ on := 1, ground := Go.Ground.data }], guard := none }) (v := ?_) rfl (by kernel_rfl) (by kernel_rfl) (by kernel_rfl) (fun _ _ _ h => h) (Or.inl ⟨by rfl, ?_⟩) (by assumption) ?_
    rotate_left 1
    · (intro w hSw; (try dsimp only at hSw); go_simp; try with_reducible rfl)
    (try simp only [Act.put, List.setIfInBounds_toArray, List.set_cons_zero, List.set_cons_succ])
    refine wpAnyH_take (i := 3) (oi := { dst := some 14, op := Go.Op.call { callee := Go.Callee.builtin Go.Builtin.len, args := #[Go.Operand.tmp 13], argTypes := #[31] }, type := 3, pos := "l53_board.go:107", after := #[{ on := 2, ground := Go.Ground.data }], guard := none }) (v := ?_) rfl (by kernel_rfl) (by kernel_rfl) (by kernel_rfl) (fun _ _ _ h => h) (Or.inl ⟨by rfl, ?_⟩) (by assumption) ?_
    rotate_left 1
    · (intro w hSw; (try dsimp only at hSw); go_simp; try with_reducible rfl)
    (try simp only [Act.put, List.setIfInBounds_toArray, List.set_cons_zero, List.set_cons_succ])
    refine wpAnyH_take (i := 5) (oi := { dst := some 16, op := Go.Op.fieldAddr 34 (Go.Operand.tmp 1) 3, type := 0, pos := "l53_board.go:107", after := #[], guard := none }) (v := ?_) rfl (by kernel_rfl) (by kernel_rfl) (by kernel_rfl) (fun _ _ _ h => h) (Or.inl ⟨by rfl, ?_⟩) (by assumption) ?_
    rotate_left 1
    · (intro w hSw; (try dsimp only at hSw); go_simp; try with_reducible rfl)
    (try simp only [Act.put, List.setIfInBounds_toArray, List.set_cons_zero, List.set_cons_succ])
    refine wpAnyH_take (i := 6) (oi := { dst := some 17, op := Go.Op.load 32 (Go.Operand.tmp 16), type := 32, pos := "l53_board.go:107", after := #[{ on := 5, ground := Go.Ground.data }], guard := none }) (v := ?_) rfl (by kernel_rfl) (by kernel_rfl) (by kernel_rfl) (fun _ _ _ h => h) (Or.inl ⟨by rfl, ?_⟩) (by assumption) ?_
    rotate_left 1
    · (intro w hSw; (try dsimp only at hSw); go_simp; try with_reducible rfl)
    (try simp only [Act.put, List.setIfInBounds_toArray, List.set_cons_zero, List.set_cons_succ])
    refine wpAnyH_take (i := 7) (oi := { dst := some 18, op := Go.Op.call { callee := Go.Callee.builtin Go.Builtin.len, args := #[Go.Operand.tmp 17], argTypes := #[32] }, type := 3, pos := "l53_board.go:107", after := #[{ on := 6, ground := Go.Ground.data }], guard := none }) (v := ?_) rfl (by kernel_rfl) (by kernel_rfl) (by kernel_rfl) (fun _ _ _ h => h) (Or.inl ⟨by rfl, ?_⟩) (by assumption) ?_
    rotate_left 1
    · (intro w hSw; (try dsimp only at hSw); go_simp; try with_reducible rfl)
    (try simp only [Act.put, List.setIfInBounds_toArray, List.set_cons_zero, List.set_cons_succ])
    refine wpAnyH_ready (rs := [4]) (by kernel_rfl) (by simp) ?_
    refine AllReadyH.cons (o := { dst := some 15, op := Go.Op.call { callee := Go.Callee.value (Go.Operand.func 36), args := #[Go.Operand.tmp 14], argTypes := #[3] }, type := 9, pos := "l53_board.go:107", after := #[{ on := 3, ground := Go.Ground.data }], guard := none }) rfl (fun K hK => ?_) AllReadyH.nil
    go_simp
    refine (itoaZ (rl : Int) x1 (by omega) (by omega) hx1.out _ tD).mono ?_
    rintro e v1 ⟨rfl, j1⟩
    go_wp2_with fail
    refine hK.out _ _ ?_ (fun hHeld => ?_)
    · (try dsimp only); (refine ⟨?_, ?_⟩ <;> (repeat (first | with_reducible assumption | with_reducible refine keep_drew ?_ | with_reducible refine keep_below (by assumption) ?_ | with_reducible refine keep_alloc _ ?_)))
    clear hK K
    (try simp only [Act.put, List.setIfInBounds_toArray, List.set_cons_zero, List.set_cons_succ])
    refine wpAnyH_ready (rs := [8]) (by kernel_rfl) (by simp) ?_
    refine AllReadyH.cons (o := { dst := some 19, op := Go.Op.call { callee := Go.Callee.value (Go.Operand.func 36), args := #[Go.Operand.tmp 18], argTypes := #[3] }, type := 9, pos := "l53_board.go:107", after := #[{ on := 7, ground := Go.Ground.data }, { on := 4, ground := Go.Ground.chain }], guard := none }) rfl (fun K hK => ?_) AllReadyH.nil
    go_simp
    refine (itoaZ (bl : Int) x2 (by omega) (by omega) hx2.out _ (tD.below j1)).mono ?_
    rintro e v2 ⟨rfl, j2⟩
    go_wp2_with fail
    refine hK.out _ _ ?_ (fun hHeld => ?_)
    · (try dsimp only); (refine ⟨?_, ?_⟩ <;> (repeat (first | with_reducible assumption | with_reducible refine keep_drew ?_ | with_reducible refine keep_below (by assumption) ?_ | with_reducible refine keep_alloc _ ?_)))
    clear hK K
    (try simp only [Act.put, List.setIfInBounds_toArray, List.set_cons_zero, List.set_cons_succ])
    have j3 := balloc (.cells #[.string x1, .string (bs [32, 117, 110, 100, 101, 114, 32, 119, 97, 121, 44, 32]), .string x2, .string (bs [32, 116, 111, 108, 100])] 9) (Below.refl v2.heap.size v2)
    have hg : (v2.alloc (.cells #[.string x1, .string (bs [32, 117, 110, 100, 101, 114, 32, 119, 97, 121, 44, 32]), .string x2, .string (bs [32, 116, 111, 108, 100])] 9)).heap[v2.heap.size]? = some (.cells #[.string x1, .string (bs [32, 117, 110, 100, 101, 114, 32, 119, 97, 121, 44, 32]), .string x2, .string (bs [32, 116, 111, 108, 100])] 9 (0, 0)) := heap_alloc_new _ _
    have j4 := btrans (btrans (btrans (qd (Below.refl u2.heap.size u2)) j1) j2) j3
    refine wpAnyH_ready (rs := [9]) (by kernel_rfl) (by simp) ?_
    refine AllReadyH.cons (o := { dst := some 20, op := Go.Op.buildSlice 112 4 #[(0, Go.Operand.tmp 15), (1, Go.Operand.const (Go.Value.string { data := #[32, 117, 110, 100, 101, 114, 32, 119, 97, 121, 44, 32] })), (2, Go.Operand.tmp 19), (3, Go.Operand.const (Go.Value.string { data := #[32, 116, 111, 108, 100] }))], type := 112, pos := "l53_board.go:107", after := #[{ on := 4, ground := Go.Ground.data }, { on := 8, ground := Go.Ground.data }], guard := none }) rfl (fun K hK => ?_) AllReadyH.nil
    go_simp
    refine hK.out _ _ ?_ (fun hHeld => ?_)
    · (try dsimp only); (refine ⟨?_, ?_⟩ <;> (repeat (first | with_reducible assumption | with_reducible refine keep_drew ?_ | with_reducible refine keep_below (by assumption) ?_ | with_reducible refine keep_alloc _ ?_)))
    clear hK K
    (try simp only [Act.put, List.setIfInBounds_toArray, List.set_cons_zero, List.set_cons_succ])
    generalize (v2.alloc (.cells #[.string x1, .string (bs [32, 117, 110, 100, 101, 114, 32, 119, 97, 121, 44, 32]), .string x2, .string (bs [32, 116, 111, 108, 100])] 9)) = v3 at *
    have hne : v2.heap.size ≠ bp := by have := hbp; have := j1.size; have := j2.size; have := (qd (Below.refl u2.heap.size u2)).size; omega
    generalize v2.heap.size = gg at *
    refine wpAnyH_ready (rs := [10]) (by kernel_rfl) (by simp) ?_
    refine AllReadyH.cons (o := { dst := some 21, op := Go.Op.call { callee := Go.Callee.value (Go.Operand.func 35), args := #[Go.Operand.tmp 11, Go.Operand.tmp 20], argTypes := #[71, 112] }, type := 0, pos := "l53_board.go:107", after := #[{ on := 0, ground := Go.Ground.data }, { on := 9, ground := Go.Ground.data }, { on := 8, ground := Go.Ground.chain }], guard := none }) rfl (fun K hK => ?_) AllReadyH.nil
    go_simp
    refine (lineH B bp gg x1 x2 _ (hpg.below j4) hg hne z1 z2 (by have := j4.size; omega)).mono ?_
    rintro e v4 ⟨rfl, hp4, j5⟩
    have q1 : v4.cell? ⟨ad, 1, none⟩ = some (.slice ra rl rc) := (j5.cell (p := ⟨ad, 1, none⟩) hadB).trans hHeld.1
    have q3 : v4.cell? ⟨ad, 3, none⟩ = some (.slice ba bl bc) := (j5.cell (p := ⟨ad, 3, none⟩) hadB).trans hHeld.2
    go_wp2_with fail
    refine hK.out _ _ ?_ (fun hHeld => ?_)
    · (try dsimp only); (refine ⟨?_, ?_⟩ <;> (repeat (first | with_reducible assumption | with_reducible refine keep_drew ?_ | with_reducible refine keep_below (by assumption) ?_ | with_reducible refine keep_alloc _ ?_)))
    clear hK K
    (try simp only [Act.put, List.setIfInBounds_toArray, List.set_cons_zero, List.set_cons_succ])
    refine wpAnyH_done (by kernel_rfl) ?_ _
    have jj : Below B u1 v4 := by
      have a1 : Below B u1 u2 := hB.out ▸ b1
      have a2 : Below B u2 v3 := j4.mono (by omega)
      exact (a1.trans a2).trans j5
    rw [← hHd.out] at hp4
    clear hHeld j1 j2 j3 j4 j5 hg hne hpg tD d1 d3 b1 q1 q3 hHd hx1 hx2 e1 e3
    have c0' : v4.cell? ⟨ad, 0, none⟩ = some (.slice na nl nc) := (jj.cell (p := ⟨ad, 0, none⟩) hadB).trans c0
    clear c0 e0
    go_wp2_with fail
    go_loopw [5, 25] (fun _ i wr => ∃ k : Nat, k ≤ nl ∧ i = .int .i64 k ∧ Pg B bp (Lib.strCells (wHd rl bl ++ wTx nd k)) ((k : Int) + 1) wr ∧ Below B u1 wr) (fun _ i _ => nl - (intOf i).toNat)
    case atStart => exact ⟨0, Nat.zero_le _, rfl, by rw [show wTx nd 0 = bs [] from rfl, bs_nil]; exact hp4, jj⟩
    case round =>
      obtain ⟨k, hk, rfl, hp, hb⟩ := hrel
      have hbu : Below u1.heap.size u1 wr := hB.out ▸ hb
      have hBw : B ≤ wr.heap.size := by have := hbu.size; have := hB.out; omega
      by_cases hlt : k < nl
      · obtain ⟨b, off, hna, _, hf⟩ := (h0.n.below hbu) (by omega)
        obtain ⟨L, c1, c2⟩ := hf k hlt
        have i0 : (0 : Int) ≤ (k : Int) := by omega
        have i1 : (k : Int) < (nl : Int) := by omega
        have pn : ∀ j, j < k + 1 → NdP (nd j) := fun j hj => nod_ndp (hq j (by omega)) (by
          obtain ⟨b', off', _, _, hf'⟩ := (h0.n.below hbu) (by omega)
          obtain ⟨L', _, c2'⟩ := hf' j (by omega)
          exact c2'.ho)
        have hsz := wTx_len nd k (fun j hj => pn j (by omega))
        have pk := pn k (by omega)
        have hsn := nTx_len (nd k) pk
        have hS1 : Hid (wHd rl bl ++ wTx nd (k + 1) = wHd rl bl ++ wTx nd k ++ (nTx (nd k) ++ bs [10])) := by
          unfold Hid
          rw [ByteArray.append_assoc]
          rfl
        have hSz : (wHd rl bl ++ wTx nd k).size ≤ 20000000000 := by
          rw [ByteArray.size_append]
          omega
        clear pn hf hsz
        obtain ⟨x, hx⟩ : ∃ x, Hid (nTx (nd k) = x) := ⟨_, rfl⟩
        rw [hx.out] at hS1 hsn
        generalize wHd rl bl ++ wTx nd k = S at *
        have hcall : ∀ w1, Below wr.heap.size wr w1 → Calls Tryz.prog 37 #[.agg (ndC (nd k) L)] w1 fun e w' => e = .returned (.string x) ∧ Below w1.heap.size w1 w' := fun w1 q => by
          rw [← hx.out]
          exact ndI_any (nd k) L w1 (c2.below q) pk ((t0.below hbu).below q)
        clear pk hx
        generalize nd k = n at *
        have hBx := Ws.box (w := wr) #[.int .i64 0, .bool false, .bool false, .bool false, .int .i64 0, .int .i64 0, .int .i64 0, .int .i64 0, .slice none 0 0, .slice none 0 0, .int .i64 0, .int .i64 0, .int .i64 0, .bool false, .slice none 0 0, .int .i64 0, .int .i64 0, .int .i64 0, .int .i64 0, .slice none 0 0, .slice none 0 0] 52
        have hth := hBx.there (n := 21) rfl
        have hu1 : Below wr.heap.size wr ((wr.alloc (.cells #[.int .i64 0, .bool false, .bool false, .bool false, .int .i64 0, .int .i64 0, .int .i64 0, .int .i64 0, .slice none 0 0, .slice none 0 0, .int .i64 0, .int .i64 0, .int .i64 0, .bool false, .slice none 0 0, .int .i64 0, .int .i64 0, .int .i64 0, .int .i64 0, .slice none 0 0, .slice none 0 0] 52)).setCells wr.heap.size 0 (ndC n L).toList) := below_cells _ _ _ _ (Nat.le_refl _) (balloc _ (Below.refl _ _))
        have hrg := World.rangeAt_setCells_same (wr.alloc (.cells #[.int .i64 0, .bool false, .bool false, .bool false, .int .i64 0, .int .i64 0, .int .i64 0, .int .i64 0, .slice none 0 0, .slice none 0 0, .int .i64 0, .int .i64 0, .int .i64 0, .bool false, .slice none 0 0, .int .i64 0, .int .i64 0, .int .i64 0, .int .i64 0, .slice none 0 0, .slice none 0 0] 52)) wr.heap.size 0 (ndC n L).toList hth
        clear hBx
        rw [hna]
        go_upto_region 8 with (first | (refine wpList_load_mid rfl 52 _ rfl b (off + k * 21) rfl (ndC n L).toList _ c1 Tryz.underlying52 rfl size51 ?_) | (refine wpList_store_mid rfl 52 _ _ rfl wr.heap.size 0 (ndC n L) rfl rfl hth size51 (by kernel_rfl) ?_))
        clear hth c1
        generalize ((wr.alloc (.cells #[.int .i64 0, .bool false, .bool false, .bool false, .int .i64 0, .int .i64 0, .int .i64 0, .int .i64 0, .slice none 0 0, .slice none 0 0, .int .i64 0, .int .i64 0, .int .i64 0, .bool false, .slice none 0 0, .int .i64 0, .int .i64 0, .int .i64 0, .int .i64 0, .slice none 0 0, .slice none 0 0] 52)).setCells wr.heap.size 0 (ndC n L).toList) = v5 at *
        obtain ⟨an, han⟩ : ∃ an, Hid (wr.heap.size = an) := ⟨_, rfl⟩
        rw [han.out] at hrg ⊢
        go_wp2_with (refine wpList_load_mid rfl 52 _ rfl an 0 rfl (ndC n L).toList _ hrg Tryz.underlying52 rfl size51 ?_)
        refine (hcall _ hu1).mono ?_
        rintro e v6 ⟨rfl, k6⟩
        have k7 := btrans hu1 k6
        have j3 := balloc (.cells #[.string x] 9) (Below.refl v6.heap.size v6)
        have hg : (v6.alloc (.cells #[.string x] 9)).heap[v6.heap.size]? = some (.cells #[.string x] 9 (0, 0)) := heap_alloc_new _ _
        clear hrg hcall
        go_wp2_with fail
        have hne : v6.heap.size ≠ bp := by
          have h1 := hp.at
          obtain ⟨_, h2⟩ := h1
          have := h2.lt
          have := k7.size
          omega
        have k8 := btrans k7 j3
        refine (lineW B bp v6.heap.size S x _ _ (hp.below k8) hg hne (by omega) (by have := k8.size; omega) (by omega) (by omega)).mono ?_
        rintro e v7 ⟨rfl, hp7, j7⟩
        have jb : Below B u1 v7 := (hb.trans (k8.mono hBw)).trans j7
        rw [← hS1.out] at hp7
        clear hg hne k8 j3 k7 k6 hu1 j7 hp hb hbu hS1
        go_wp2
        go_roundw
        case rel => exact ⟨k + 1, by omega, by go_num, by rw [show ((k + 1 : Nat) : Int) = (k : Int) + 1 by omega]; exact hp7, jb⟩
        case measure => simp [intOf]; omega
      · obtain rfl : k = nl := by omega
        have hS0 : 0 < (wHd rl bl ++ wTx nd k).size := by
          rw [ByteArray.size_append]
          omega
        have hr2 : Hid _ := hr.out
        clear hr
        generalize wHd rl bl ++ wTx nd k = S at *
        go_wp2_with fail
        refine (strW B bp S _ _ hp hS0).mono ?_
        rintro e v8 ⟨rfl, j8⟩
        have fin := b0.trans ((hb.trans j8).mono (show w.heap.size ≤ B by have := b0.size; have := hB.out; omega))
        go_wp2
        go_ret
        exact ⟨by rw [hr2.out]; rfl, fin⟩
def s10_3 : List Stp := [⟨some 8, .fieldAddr 34 (.tmp 1) 1, 0, none, 0⟩, ⟨some 9, .load 31 (.tmp 8), 31, none, 0⟩, ⟨some 10, .call { callee := .builtin .len, args := #[.tmp 9], argTypes := #[31] }, 3, none, 0⟩, ⟨some 13, .fieldAddr 34 (.tmp 1) 3, 0, none, 0⟩, ⟨some 14, .load 32 (.tmp 13), 32, none, 0⟩, ⟨some 15, .call { callee := .builtin .len, args := #[.tmp 14], argTypes := #[32] }, 3, none, 0⟩, ⟨some 11, .call { callee := .value (.func 33), args := #[.tmp 10], argTypes := #[3] }, 9, none, 1⟩, ⟨some 12, .binOp .add 9 (.tmp 11) (.const (.string { data := #[32, 117, 110, 100, 101, 114, 32, 119, 97, 121, 44, 32] })) 9, 9, none, 0⟩, ⟨some 16, .call { callee := .value (.func 33), args := #[.tmp 15], argTypes := #[3] }, 9, none, 1⟩, ⟨some 17, .binOp .add 9 (.tmp 12) (.tmp 16) 9, 9, none, 0⟩, ⟨some 18, .binOp .add 9 (.tmp 17) (.const (.string { data := #[32, 116, 111, 108, 100, 10] })) 9, 9, none, 0⟩, ⟨some 3, .assign (.tmp 18), 9, none, 0⟩]
def t10_3 : List (Nat × Nat) := [(0, 0), (1, 0), (2, 0), (5, 0), (6, 0), (7, 0), (3, 1), (4, 0), (8, 1), (9, 0), (10, 0), (11, 0)]
def s10_7 : List Stp := [⟨some 26, .move (.tmp 3), 9, none, 0⟩, ⟨some 27, .fieldAddr 34 (.tmp 1) 0, 0, none, 0⟩, ⟨some 28, .load 30 (.tmp 27), 30, none, 0⟩, ⟨some 29, .move (.tmp 4), 3, none, 0⟩, ⟨some 30, .indexAddr 30 (.tmp 28) (.tmp 29), 0, none, 0⟩, ⟨some 31, .load 52 (.tmp 30), 52, none, 0⟩, ⟨some 32, .call { callee := .value (.func 34), args := #[.tmp 31], argTypes := #[52] }, 9, none, 1⟩, ⟨some 33, .binOp .add 9 (.tmp 26) (.tmp 32) 9, 9, none, 0⟩, ⟨some 3, .assign (.tmp 33), 9, none, 0⟩]
def t10_7 : List (Nat × Nat) := [(0, 0), (1, 0), (2, 0), (3, 0), (4, 0), (5, 0), (6, 1), (7, 0), (8, 0)]
set_option maxRecDepth 20000 in
set_option maxHeartbeats 8000000 in
theorem brdS_any (na : Option Addr) (nl nc : Nat) (ra : Option Addr) (rl rc : Nat) (sa : Option Addr) (sl sc : Nat) (ba : Option Addr) (bl bc : Nat) (nd : Nat → Nod) (FR : Nat → Ft) (SD : Nat → Int) (BF : Nat → Fc) (w : World) (h : WdR w na nl ra rl sa sl ba bl nd FR SD BF) :
    Calls Tryz.prog 10 #[.agg #[.slice na nl nc, .slice ra rl rc, .slice sa sl sc, .slice ba bl bc]] w fun e w' => e = .returned (.string (brd nl nd rl FR sl SD bl BF)) ∧ Below w.heap.size w w' := by
  have b0 := balloc (.cells #[.slice na nl nc, .slice ra rl rc, .slice sa sl sc, .slice ba bl bc] 34) (Below.refl w.heap.size w)
  have X := Ws.box (w := w) #[.slice na nl nc, .slice ra rl rc, .slice sa sl sc, .slice ba bl bc] 34
  have h0 := h.below b0
  obtain ⟨res, hres⟩ : ∃ r, Hid (brd nl nd rl FR sl SD bl BF = r) := ⟨_, rfl⟩
  have hr0 : Hid (wldB nl nd rl FR sl SD bl BF = false → res = bs []) := fun q => by rw [← hres.out, brd, q]; rfl
  have hr1 : Hid (wldB nl nd rl FR sl SD bl BF = true → res = wHd rl bl ++ wTx nd nl) := fun q => by rw [← hres.out, brd, if_pos q]
  rw [hres.out]
  have hnd : Hid (wldB nl nd rl FR sl SD bl BF = true → nl = 8 ∧ ∀ k, k < nl → nodQ (nd k) = true) := wld_nod
  have ok1 : ∀ w1, Below (w.alloc (.cells #[.slice na nl nc, .slice ra rl rc, .slice sa sl sc, .slice ba bl bc] 34)).heap.size (w.alloc (.cells #[.slice na nl nc, .slice ra rl rc, .slice sa sl sc, .slice ba bl bc] 34)) w1 → Calls Tryz.prog 16 #[.agg #[.slice na nl nc, .slice ra rl rc, .slice sa sl sc, .slice ba bl bc]] w1 fun e w' => e = .returned (.bool (wldB nl nd rl FR sl SD bl BF)) ∧ Below w1.heap.size w1 w' := fun w1 z => wldS_any na nl nc ra rl rc sa sl sc ba bl bc nd FR SD BF w1 (h0.below z)
  clear h hres
  obtain ⟨ok, hok⟩ : ∃ q, Hid (wldB nl nd rl FR sl SD bl BF = q) := ⟨_, rfl⟩
  rw [hok.out] at hnd hr0 hr1
  have ok2 : Hid _ := ok1
  rw [hok.out] at ok2
  clear ok1 hok
  obtain ⟨ad, had⟩ : ∃ ad, Hid (w.heap.size = ad) := ⟨_, rfl⟩
  go_enter Tryz.func10, Tryz.ntmps10
  go_upto_region 1 with fail
  generalize w.alloc (.cells #[.slice na nl nc, .slice ra rl rc, .slice sa sl sc, .slice ba bl bc] 34) = u at *
  have e0 := X.c 0 (.slice na nl nc) rfl
  have e1 := X.c 1 (.slice ra rl rc) rfl
  have e2 := X.c 2 (.slice sa sl sc) rfl
  have e3 := X.c 3 (.slice ba bl bc) rfl
  rw [had.out] at e0 e1 e2 e3 ⊢
  clear X
  go_wp2_with fail
  refine (ok2.out _ (Below.refl _ _)).mono ?_
  rintro r u1 ⟨rfl, k1⟩
  replace e0 := keep_below k1 e0
  replace e1 := keep_below k1 e1
  replace e3 := keep_below k1 e3
  replace h0 := h0.below k1
  replace b0 := btrans b0 k1
  clear k1 e2 ok2
  cases ok
  · have hr := hr0.out rfl
    clear hnd hr0 hr1
    go_wp2
    go_ret
    exact ⟨by rw [hr]; rfl, b0⟩
  · obtain ⟨h8, hq⟩ := hnd.out rfl
    have hr : Hid (res = wHd rl bl ++ wTx nd nl) := hr1.out rfl
    clear hnd hr0 hr1
    obtain ⟨x1, hx1⟩ : ∃ x, Hid (bs (Lib.itoa (rl : Int)) = x) := ⟨_, rfl⟩
    obtain ⟨x2, hx2⟩ : ∃ x, Hid (bs (Lib.itoa (bl : Int)) = x) := ⟨_, rfl⟩
    have hrl := h0.hr
    have hbl := h0.hb
    have hn8 := h0.hn
    have z1 : x1.size ≤ 20 := by rw [← hx1.out]; exact itoaZ_len (by omega) (by omega)
    have z2 : x2.size ≤ 20 := by rw [← hx2.out]; exact itoaZ_len (by omega) (by omega)
    have hH := wHd_len hrl hbl
    have hHd : Hid (wHd rl bl = x1 ++ bs [32, 117, 110, 100, 101, 114, 32, 119, 97, 121, 44, 32] ++ x2 ++ bs [32, 116, 111, 108, 100, 10]) := by
      unfold Hid wHd
      rw [hx1.out, hx2.out]
    have m0 : ¬ 9223372036854775807 < x1.size + 12 := by omega
    have m1 : ¬ 9223372036854775807 < x1.size + 12 + x2.size := by omega
    have m2 : ¬ 9223372036854775807 < x1.size + 12 + x2.size + 6 := by omega
    go_upto_region 3 with fail
    refine wp_region_q s10_3 t10_3 (fun hbq => ?_)
    refine qY ?_
    refine qL ?_
    iterate 2 refine qY ?_
    refine qL ?_
    refine qY ?_
    refine qC (fun K hK => ?_)
    go_simp
    refine (decZ (rl : Int) x1 (by omega) (by omega) hx1.out _).mono ?_; rintro r v1 ⟨rfl, k2⟩
    go_wp2_with fail
    refine hK.out _ _ (btrans hbq k2) (.inl ?_)
    clear hK K
    replace hbq := btrans hbq k2
    clear k2
    try simp only [putQ]
    refine qY ?_
    refine qC (fun K hK => ?_)
    go_simp
    refine (decZ (bl : Int) x2 (by omega) (by omega) hx2.out _).mono ?_; rintro r v2 ⟨rfl, k2⟩
    go_wp2_with fail
    refine hK.out _ _ (btrans hbq k2) (.inl ?_)
    clear hK K
    replace hbq := btrans hbq k2
    clear k2
    try simp only [putQ]
    iterate 3 refine qY ?_
    refine qE ?_
    replace e0 := keep_below hbq e0
    replace b0 := btrans b0 hbq
    replace h0 := h0.below hbq
    clear hbq m0 m1 m2 e1 e3
    go_wp2_with fail
    go_loopw [3, 4] (fun v i wr => ∃ (k : Nat) (y : ByteArray), k ≤ nl ∧ i = .int .i64 k ∧ v = .string y ∧ Hid (wHd rl bl ++ wTx nd k = y) ∧ Below v2.heap.size v2 wr) (fun _ i _ => nl - (intOf i).toNat)
    case atStart => exact ⟨0, wHd rl bl, Nat.zero_le _, rfl, by rw [hHd.out], bs_nil _, Below.refl _ _⟩
    case round =>
      obtain ⟨k, y, hk, rfl, rfl, hy, hb⟩ := hrel
      have e0' := keep_below hb e0
      by_cases hlt : k < nl
      · obtain ⟨b, off, hna, _, hf⟩ := (h0.n.below hb) (by omega)
        obtain ⟨L, c1, c2⟩ := hf k hlt
        have i0 : (0 : Int) ≤ (k : Int) := by omega
        have i1 : (k : Int) < (nl : Int) := by omega
        have pn : ∀ j, j < k + 1 → NdP (nd j) := fun j hj => nod_ndp (hq j (by omega)) (by
          obtain ⟨b', off', _, _, hf'⟩ := (h0.n.below hb) (by omega)
          obtain ⟨L', _, c2'⟩ := hf' j (by omega)
          exact c2'.ho)
        have hsz := wTx_len nd k (fun j hj => pn j (by omega))
        have pk := pn k (by omega)
        have hsn := nTx_len (nd k) pk
        have hS1 : Hid (wHd rl bl ++ wTx nd (k + 1) = y ++ (nTx (nd k) ++ bs [10])) := by
          unfold Hid
          rw [← hy.out, ByteArray.append_assoc]
          rfl
        have hSz : y.size ≤ 20000000000 := by
          rw [← hy.out, ByteArray.size_append]
          omega
        have hsn' : (nTx (nd k) ++ bs [10]).size ≤ 2000000001 := by
          rw [ByteArray.size_append]
          have : (bs [10]).size = 1 := rfl
          omega
        clear pn hf hsz hy hsn
        obtain ⟨x, hx⟩ : ∃ x, Hid (nTx (nd k) ++ bs [10] = x) := ⟨_, rfl⟩
        rw [hx.out] at hS1 hsn'
        have hcall : ∀ w1, Below wr.heap.size wr w1 → Calls Tryz.prog 34 #[.agg (ndC (nd k) L)] w1 fun e w' => e = .returned (.string x) ∧ Below w1.heap.size w1 w' := fun w1 q => by
          rw [← hx.out]
          exact ndS_any (nd k) L w1 (c2.below q) pk
        clear pk hx c2
        generalize nd k = n at *
        rw [hna] at e0'
        have m0 : ¬ 9223372036854775807 < y.size + x.size := by omega
        clear hna
        go_upto_region 7 with fail
        refine wp_region_q0 s10_7 t10_7 (fun hbq => ?_)
        iterate 2 refine qY ?_
        refine qL ?_
        iterate 2 refine qY ?_
        refine qR ?_
        refine qC (fun K hK => ?_)
        go_simp
        refine (hcall _ hbq).mono ?_; rintro r v3 ⟨rfl, k2⟩
        go_wp2_with fail
        refine hK.out _ _ (btrans hbq k2) (.inl ?_)
        clear hK K
        replace hbq := btrans hbq k2
        clear k2
        try simp only [putQ]
        iterate 2 refine qY ?_
        refine qE ?_
        have B2 := btrans hb hbq
        clear hbq hb c1 e0' m0 hcall
        go_wp2
        go_roundw
        case rel => exact ⟨k + 1, _, by omega, by go_num, rfl, hS1, B2⟩
        case measure => simp [intOf]; omega
      · obtain rfl : k = nl := by omega
        have fin := btrans b0 hb
        go_wp2
        go_ret
        exact ⟨by rw [hr.out, hy.out]; rfl, fin⟩
theorem brdI_lit (na : Option Addr) (nl nc : Nat) (ra : Option Addr) (rl rc : Nat) (sa : Option Addr) (sl sc : Nat) (ba : Option Addr) (bl bc : Nat) (nd : Nat → Nod) (FR : Nat → Ft) (SD : Nat → Int) (BF : Nat → Fc) (v : ByteArray) (hv : brd nl nd rl FR sl SD bl BF = v) (w : World) (h : WdR w na nl ra rl sa sl ba bl nd FR SD BF) (ht : Tabs w) :
    Calls Tryz.prog 11 #[.agg #[.slice na nl nc, .slice ra rl rc, .slice sa sl sc, .slice ba bl bc]] w fun e w' => e = .returned (.string v) ∧ Below w.heap.size w w' := hv ▸ brdI_any na nl nc ra rl rc sa sl sc ba bl bc nd FR SD BF w h ht
theorem brdS_lit (na : Option Addr) (nl nc : Nat) (ra : Option Addr) (rl rc : Nat) (sa : Option Addr) (sl sc : Nat) (ba : Option Addr) (bl bc : Nat) (nd : Nat → Nod) (FR : Nat → Ft) (SD : Nat → Int) (BF : Nat → Fc) (v : ByteArray) (hv : brd nl nd rl FR sl SD bl BF = v) (w : World) (h : WdR w na nl ra rl sa sl ba bl nd FR SD BF) :
    Calls Tryz.prog 10 #[.agg #[.slice na nl nc, .slice ra rl rc, .slice sa sl sc, .slice ba bl bc]] w fun e w' => e = .returned (.string v) ∧ Below w.heap.size w w' := hv ▸ brdS_any na nl nc ra rl rc sa sl sc ba bl bc nd FR SD BF w h
end Go.Proofs.YtoimfgfhlbkdcaaGreatDoor
/- Exact WorldBoard, walked. -/
namespace Go.Proofs.YtoimfgfhlbkdcaaGreatDoor
open Go.ChangeShapes Go.WideShapes Go.ChangeAt Go.RowKit
def s4_10 : List Stp := [⟨some 22, .load 34 (.tmp 5), 34, none, 0⟩, ⟨some 23, .load 27 (.tmp 1), 27, none, 0⟩, ⟨some 24, .call { callee := .value (.func 7), args := #[.tmp 23], argTypes := #[27] }, 34, none, 1⟩, ⟨some 25, .call { callee := .value (.func 9), args := #[.tmp 22, .tmp 24], argTypes := #[34, 34] }, 4, none, 1⟩, ⟨some 26, .unOp .not 4 (.tmp 25), 4, none, 0⟩]
def t4_10 : List (Nat × Nat) := [(0, 0), (1, 0), (2, 1), (3, 1), (4, 0)]
set_option maxRecDepth 20000 in
set_option maxHeartbeats 4000000 in
theorem exWorldBoard_walk (na : Option Addr) (nl nc : Nat) (ra : Option Addr) (rl rc : Nat) (sa : Option Addr) (sl sc : Nat) (ba : Option Addr) (bl bc : Nat) (R : Nat → Rn) (FR : Nat → Ft) (SD : Nat → Int) (BF : Nat → Fc) (w : World) (h : WdRaw w na nl ra rl sa sl sc ba bl bc R FR SD BF) (ht : Tabs w) :
    Calls Tryz.prog 4 #[.agg #[.slice na nl nc, .slice ra rl rc, .slice sa sl sc, .slice ba bl bc]] w fun e w' => e = .returned (.bool true) ∧ Below w.heap.size w w' := by
  obtain ⟨v, hv⟩ : ∃ v, Hid (brd nl (fun k => (R k).nod) rl FR sl SD bl BF = v) := ⟨_, rfl⟩
  have b0 := balloc (.cells #[.slice na nl nc, .slice ra rl rc, .slice sa sl sc, .slice ba bl bc] 27) (Below.refl w.heap.size w)
  have X := Ws.box (w := w) #[.slice na nl nc, .slice ra rl rc, .slice sa sl sc, .slice ba bl bc] 27
  go_enter Tryz.func4, Tryz.ntmps4
  go_upto_region 2 with fail
  generalize w.alloc (.cells #[.slice na nl nc, .slice ra rl rc, .slice sa sl sc, .slice ba bl bc] 27) = u at *
  have e0 := X.c 0 (.slice na nl nc) rfl
  have e1 := X.c 1 (.slice ra rl rc) rfl
  have e2 := X.c 2 (.slice sa sl sc) rfl
  have e3 := X.c 3 (.slice ba bl bc) rfl
  go_wp2_with fail
  refine (szWld_any na nl nc ra rl rc sa sl sc ba bl bc R FR SD BF _ (h.below b0)).mono ?_
  rintro r u1 ⟨⟨z, rfl, hz⟩, k1⟩
  clear e0 e1 e2 e3
  replace b0 := btrans b0 k1
  replace X := X.below k1
  clear k1
  rcases hz with rfl | ⟨hz, m⟩
  · go_wp2
    go_ret
    exact ⟨rfl, b0⟩
  have n1 : ¬ z < 0 := by omega
  have e0 := X.c 0 (.slice na nl nc) rfl
  have e1 := X.c 1 (.slice ra rl rc) rfl
  have e2 := X.c 2 (.slice sa sl sc) rfl
  have e3 := X.c 3 (.slice ba bl bc) rfl
  go_wp2_with fail
  refine (toWld_any na nl nc ra rl rc sa sl sc ba bl bc R FR SD BF _ (h.below b0) m).mono ?_
  rintro r u2 ⟨b1, b2, b3, b4, rfl, hW, k1⟩
  clear e0 e1 e2 e3
  replace b0 := btrans b0 k1
  replace X := X.below k1
  clear k1
  go_wp2_with fail
  refine (brdS_lit (some ⟨b1, 0, none⟩) nl nl (some ⟨b2, 0, none⟩) rl rl (some ⟨b3, 0, none⟩) sl sl (some ⟨b4, 0, none⟩) bl bl (fun k => (R k).nod) FR SD BF v hv.out _ hW).mono ?_
  rintro r u3 ⟨rfl, k1⟩
  replace b0 := btrans b0 k1
  replace X := X.below k1
  clear k1 hW
  have e0 := X.c 0 (.slice na nl nc) rfl
  have e1 := X.c 1 (.slice ra rl rc) rfl
  have e2 := X.c 2 (.slice sa sl sc) rfl
  have e3 := X.c 3 (.slice ba bl bc) rfl
  go_wp2_with fail
  refine (toWld_any na nl nc ra rl rc sa sl sc ba bl bc R FR SD BF _ (h.below b0) m).mono ?_
  rintro r u4 ⟨c1, c2, c3, c4, rfl, hC, k1⟩
  clear e0 e1 e2 e3
  replace b0 := btrans b0 k1
  replace X := X.below k1
  clear k1
  have hB := Ws.box (w := u4) #[.slice none 0 0, .slice none 0 0, .slice none 0 0, .slice none 0 0] 34
  have hth := hB.there (n := 4) rfl
  have k1 : Below u4.heap.size u4 ((u4.alloc (.cells #[.slice none 0 0, .slice none 0 0, .slice none 0 0, .slice none 0 0] 34)).setCells u4.heap.size 0 (#[.slice (some ⟨c1, 0, none⟩) nl nl, .slice (some ⟨c2, 0, none⟩) rl rl, .slice (some ⟨c3, 0, none⟩) sl sl, .slice (some ⟨c4, 0, none⟩) bl bl] : Array Value).toList) := below_cells _ _ _ _ (Nat.le_refl _) (balloc _ (Below.refl _ _))
  have hrg := World.rangeAt_setCells_same (u4.alloc (.cells #[.slice none 0 0, .slice none 0 0, .slice none 0 0, .slice none 0 0] 34)) u4.heap.size 0 (#[.slice (some ⟨c1, 0, none⟩) nl nl, .slice (some ⟨c2, 0, none⟩) rl rl, .slice (some ⟨c3, 0, none⟩) sl sl, .slice (some ⟨c4, 0, none⟩) bl bl] : Array Value).toList hth
  clear hB
  go_upto_region 7 with (refine wpList_store_mid rfl 34 _ _ rfl u4.heap.size 0 #[.slice (some ⟨c1, 0, none⟩) nl nl, .slice (some ⟨c2, 0, none⟩) rl rl, .slice (some ⟨c3, 0, none⟩) sl sl, .slice (some ⟨c4, 0, none⟩) bl bl] rfl rfl hth (by kernel_rfl) (by kernel_rfl) ?_)
  clear hth
  generalize (u4.alloc (.cells #[.slice none 0 0, .slice none 0 0, .slice none 0 0, .slice none 0 0] 34)).setCells u4.heap.size 0 (#[.slice (some ⟨c1, 0, none⟩) nl nl, .slice (some ⟨c2, 0, none⟩) rl rl, .slice (some ⟨c3, 0, none⟩) sl sl, .slice (some ⟨c4, 0, none⟩) bl bl] : Array Value).toList = u5 at *
  replace b0 := btrans b0 k1
  replace X := X.below k1
  replace hC := hC.below k1
  clear k1
  generalize u4.heap.size = KB at *
  have f0 := hrg 0 (.slice (some ⟨c1, 0, none⟩) nl nl) rfl
  have f1 := hrg 1 (.slice (some ⟨c2, 0, none⟩) rl rl) rfl
  have f2 := hrg 2 (.slice (some ⟨c3, 0, none⟩) sl sl) rfl
  have f3 := hrg 3 (.slice (some ⟨c4, 0, none⟩) bl bl) rfl
  simp only [Nat.zero_add] at f0 f1 f2 f3
  go_wp2_with fail
  refine (brdI_lit (some ⟨c1, 0, none⟩) nl nl (some ⟨c2, 0, none⟩) rl rl (some ⟨c3, 0, none⟩) sl sl (some ⟨c4, 0, none⟩) bl bl (fun k => (R k).nod) FR SD BF v hv.out _ hC (ht.below b0)).mono ?_
  rintro r u6 ⟨rfl, k1⟩
  clear f0 f1 f2 f3 hv
  replace b0 := btrans b0 k1
  replace X := X.below k1
  replace hC := hC.below k1
  replace hrg := range_below' hrg k1
  clear k1
  go_upto_region 10 with fail
  have hrX := X.range
  clear X
  refine wp_region_q s4_10 t4_10 (fun hbq => ?_)
  iterate 2 refine qR ?_
  refine qC (fun K hK => ?_)
  go_simp
  refine (toWld_any na nl nc ra rl rc sa sl sc ba bl bc R FR SD BF _ (h.below (btrans b0 hbq)) m).mono ?_; rintro r u7 ⟨d1, d2, d3, d4, rfl, hD, k7⟩
  go_wp2_with fail
  refine hK.out _ _ (btrans hbq k7) (.inl ?_)
  clear hK K
  replace hbq := btrans hbq k7
  clear k7
  try simp only [putQ]
  refine qC (fun K hK => ?_)
  go_simp
  refine (eqWld_same (some ⟨c1, 0, none⟩) nl nl (some ⟨c2, 0, none⟩) rl rl (some ⟨c3, 0, none⟩) sl sl (some ⟨c4, 0, none⟩) bl bl (fun k => (R k).nod) FR SD BF (some ⟨d1, 0, none⟩) nl (some ⟨d2, 0, none⟩) rl (some ⟨d3, 0, none⟩) sl (some ⟨d4, 0, none⟩) bl _ (hC.below hbq) hD).mono ?_; rintro r u8 ⟨rfl, k8⟩
  go_wp2_with fail
  refine hK.out _ _ (btrans hbq k8) (.inl ?_)
  clear hK K
  replace hbq := btrans hbq k8
  clear k8
  try simp only [putQ]
  refine qY ?_
  refine qE ?_
  replace b0 := btrans b0 hbq
  go_wp2
  go_ret
  exact ⟨rfl, b0⟩
end Go.Proofs.YtoimfgfhlbkdcaaGreatDoor
