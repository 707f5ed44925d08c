/- How a word is written, the model's way. -/
import Derived.Test.YtibnojbhoepcdaaDoorWWr
import Derived.Test.YtibnojbhoepcdaaDoorWLh
namespace Go.Proofs.YtibnojbhoepcdaaDoor
open Go.ChangeShapes Go.WideShapes Go.ChangeAt Go.RowKit
attribute [local go_sem ↓] Go.wp_at_zero Go.wp_at_succ
theorem cat11 (x0 x1 x2 x3 x4 x5 x6 x7 x8 x9 x10 : ByteArray) : x0 ++ (⟨#[32]⟩ : ByteArray) ++ x1 ++ (⟨#[32]⟩ : ByteArray) ++ x2 ++ (⟨#[32]⟩ : ByteArray) ++ x3 ++ (⟨#[32]⟩ : ByteArray) ++ x4 ++ (⟨#[32]⟩ : ByteArray) ++ x5 ++ (⟨#[32]⟩ : ByteArray) ++ x6 ++ (⟨#[32]⟩ : ByteArray) ++ x7 ++ (⟨#[32]⟩ : ByteArray) ++ x8 ++ (⟨#[32]⟩ : ByteArray) ++ x9 ++ (⟨#[32]⟩ : ByteArray) ++ x10 = ByteArray.mk (Lib.join ([x0, x1, x2, x3, x4, x5, x6, x7, x8, x9, x10].map (·.data.toList)) [32]).toArray := by
  apply ByteArray.ext
  apply Array.toList_inj.1
  simp [Lib.join_cons, Lib.joinTail]
theorem size11 (x0 x1 x2 x3 x4 x5 x6 x7 x8 x9 x10 : ByteArray) : (x0 ++ (⟨#[32]⟩ : ByteArray) ++ x1 ++ (⟨#[32]⟩ : ByteArray) ++ x2 ++ (⟨#[32]⟩ : ByteArray) ++ x3 ++ (⟨#[32]⟩ : ByteArray) ++ x4 ++ (⟨#[32]⟩ : ByteArray) ++ x5 ++ (⟨#[32]⟩ : ByteArray) ++ x6 ++ (⟨#[32]⟩ : ByteArray) ++ x7 ++ (⟨#[32]⟩ : ByteArray) ++ x8 ++ (⟨#[32]⟩ : ByteArray) ++ x9 ++ (⟨#[32]⟩ : ByteArray) ++ x10).size = x0.size + 1 + x1.size + 1 + x2.size + 1 + x3.size + 1 + x4.size + 1 + x5.size + 1 + x6.size + 1 + x7.size + 1 + x8.size + 1 + x9.size + 1 + x10.size := by
  simp only [ByteArray.size_append]
  rfl
theorem lkind_lit (s : Int) (x : ByteArray) (h1 : 1 ≤ s) (h4 : s ≤ 6) (hx : bs (kindL s) = x) (w : World) :
    Calls Tryd.prog 30 #[.int .i64 s] w fun e w' => e = .returned (.string x) ∧ Below w.heap.size w w' := hx ▸ lkind_any s h1 h4 w
theorem ldec_lit (n : Int) (x : ByteArray) (h0 : 0 ≤ n) (h1 : n ≤ 999999) (hx : bs (Lib.itoa n) = x) (w : World) :
    Calls Tryd.prog 31 #[.int .i64 n] w fun e w' => e = .returned (.string x) ∧ Below w.heap.size w w' := by
  subst hx
  obtain ⟨u, rfl⟩ : ∃ u : Nat, n = u := ⟨n.toNat, by omega⟩
  rw [Lib.itoa_nonneg]
  exact sdec6_any u (by omega) w
theorem lsgn_lit (n : Int) (x : ByteArray) (h0 : -999999 ≤ n) (h1 : n ≤ 999999) (hx : bs (sgn n) = x) (w : World) :
    Calls Tryd.prog 32 #[.int .i64 n] w fun e w' => e = .returned (.string x) ∧ Below w.heap.size w w' := hx ▸ lsgn_any n h0 h1 w
theorem stext_lit (a : Option Addr) (len cap : Nat) (F : Nat → Fc) (x : ByteArray) (hx : txt len F = x) (w : World) (h : FSl w a len F) (hl : len ≤ 1048576) :
    Calls Tryd.prog 33 #[.slice a len cap] w fun e w' => e = .returned (.string x) ∧ Below w.heap.size w w' := hx ▸ stext_any a len cap F w h hl
theorem swok_lit (p k f t s q x y z e : Int) (a : Option Addr) (len cap : Nat) (F : Nat → Fc) (b : Bool) (hb : wokB p k f t s q x y z e len F = b) (w : World) (h : FSl w a len F) (hl : len ≤ 1048576) :
    Calls Tryd.prog 10 #[.agg #[.int .i64 p, .int .i64 k, .int .i64 f, .int .i64 t, .int .i64 s, .int .i64 q, .int .i64 x, .int .i64 y, .int .i64 z, .int .i64 e, (.slice a len cap)]] w fun r w' => r = .returned (.bool b) ∧ Below w.heap.size w w' := hb ▸ swok_any p k f t s q x y z e a len cap F w h hl
theorem pre11 {n0 n1 n2 n3 n4 n5 n6 n7 n8 n9 n10 : Nat} (h : n0 + 1 + n1 + 1 + n2 + 1 + n3 + 1 + n4 + 1 + n5 + 1 + n6 + 1 + n7 + 1 + n8 + 1 + n9 + 1 + n10 ≤ 300) : ¬ 9223372036854775807 < n0 + 1 ∧ ¬ 9223372036854775807 < n0 + 1 + n1 ∧ ¬ 9223372036854775807 < n0 + 1 + n1 + 1 ∧ ¬ 9223372036854775807 < n0 + 1 + n1 + 1 + n2 ∧ ¬ 9223372036854775807 < n0 + 1 + n1 + 1 + n2 + 1 ∧ ¬ 9223372036854775807 < n0 + 1 + n1 + 1 + n2 + 1 + n3 ∧ ¬ 9223372036854775807 < n0 + 1 + n1 + 1 + n2 + 1 + n3 + 1 ∧ ¬ 9223372036854775807 < n0 + 1 + n1 + 1 + n2 + 1 + n3 + 1 + n4 ∧ ¬ 9223372036854775807 < n0 + 1 + n1 + 1 + n2 + 1 + n3 + 1 + n4 + 1 ∧ ¬ 9223372036854775807 < n0 + 1 + n1 + 1 + n2 + 1 + n3 + 1 + n4 + 1 + n5 ∧ ¬ 9223372036854775807 < n0 + 1 + n1 + 1 + n2 + 1 + n3 + 1 + n4 + 1 + n5 + 1 ∧ ¬ 9223372036854775807 < n0 + 1 + n1 + 1 + n2 + 1 + n3 + 1 + n4 + 1 + n5 + 1 + n6 ∧ ¬ 9223372036854775807 < n0 + 1 + n1 + 1 + n2 + 1 + n3 + 1 + n4 + 1 + n5 + 1 + n6 + 1 ∧ ¬ 9223372036854775807 < n0 + 1 + n1 + 1 + n2 + 1 + n3 + 1 + n4 + 1 + n5 + 1 + n6 + 1 + n7 ∧ ¬ 9223372036854775807 < n0 + 1 + n1 + 1 + n2 + 1 + n3 + 1 + n4 + 1 + n5 + 1 + n6 + 1 + n7 + 1 ∧ ¬ 9223372036854775807 < n0 + 1 + n1 + 1 + n2 + 1 + n3 + 1 + n4 + 1 + n5 + 1 + n6 + 1 + n7 + 1 + n8 ∧ ¬ 9223372036854775807 < n0 + 1 + n1 + 1 + n2 + 1 + n3 + 1 + n4 + 1 + n5 + 1 + n6 + 1 + n7 + 1 + n8 + 1 ∧ ¬ 9223372036854775807 < n0 + 1 + n1 + 1 + n2 + 1 + n3 + 1 + n4 + 1 + n5 + 1 + n6 + 1 + n7 + 1 + n8 + 1 + n9 ∧ ¬ 9223372036854775807 < n0 + 1 + n1 + 1 + n2 + 1 + n3 + 1 + n4 + 1 + n5 + 1 + n6 + 1 + n7 + 1 + n8 + 1 + n9 + 1 ∧ ¬ 9223372036854775807 < n0 + 1 + n1 + 1 + n2 + 1 + n3 + 1 + n4 + 1 + n5 + 1 + n6 + 1 + n7 + 1 + n8 + 1 + n9 + 1 + n10 := by
  refine ⟨?_, ?_, ?_, ?_, ?_, ?_, ?_, ?_, ?_, ?_, ?_, ?_, ?_, ?_, ?_, ?_, ?_, ?_, ?_, ?_⟩ <;> omega
set_option maxRecDepth 20000 in
set_option maxHeartbeats 8000000 in
theorem lbody_any (p k f t s q x y z e : Int) (a : Option Addr) (len cap : Nat) (F : Nat → Fc) (hok : wokB p k f t s q x y z e len F = true) (w : World) (h : FSl w a len F) :
    Calls Tryd.prog 11 #[.agg #[.int .i64 p, .int .i64 k, .int .i64 f, .int .i64 t, .int .i64 s, .int .i64 q, .int .i64 x, .int .i64 y, .int .i64 z, .int .i64 e, (.slice a len cap)]] w fun r w' => r = .returned (.string (bs (bodyL p k f t s q x y z e (txt len F)))) ∧ Below w.heap.size w w' := by
  obtain ⟨r0, r1, r2, r3, r4, r5, r6, r7, r8, r9, r10, r11, r12, r13, r14, r15, r16, r17, r18, r19, r20⟩ := wok_facts hok
  have m8 := tok_len r20
  have hbl : (bs (bodyL p k f t s q x y z e (txt len F))).size ≤ 300 := body_len hok
  clear hok r20
  obtain ⟨x0, hx0⟩ : ∃ xx, Hid (bs (poolL p) = xx) := ⟨_, rfl⟩
  obtain ⟨x1, hx1⟩ : ∃ xx, Hid (bs (kindL k) = xx) := ⟨_, rfl⟩
  obtain ⟨x2, hx2⟩ : ∃ xx, Hid (bs (Lib.itoa f) = xx) := ⟨_, rfl⟩
  obtain ⟨x3, hx3⟩ : ∃ xx, Hid (bs (Lib.itoa t) = xx) := ⟨_, rfl⟩
  obtain ⟨x4, hx4⟩ : ∃ xx, Hid (bs (Lib.itoa s) = xx) := ⟨_, rfl⟩
  obtain ⟨x5, hx5⟩ : ∃ xx, Hid (bs (Lib.itoa q) = xx) := ⟨_, rfl⟩
  obtain ⟨x6, hx6⟩ : ∃ xx, Hid (bs (sgn x) = xx) := ⟨_, rfl⟩
  obtain ⟨x7, hx7⟩ : ∃ xx, Hid (bs (sgn y) = xx) := ⟨_, rfl⟩
  obtain ⟨x8, hx8⟩ : ∃ xx, Hid (bs (Lib.itoa z) = xx) := ⟨_, rfl⟩
  obtain ⟨x9, hx9⟩ : ∃ xx, Hid (bs (Lib.itoa e) = xx) := ⟨_, rfl⟩
  obtain ⟨x10, hx10⟩ : ∃ xx, Hid (txt len F = xx) := ⟨_, rfl⟩
  have hJ : Hid (bs (bodyL p k f t s q x y z e (txt len F)) = ByteArray.mk (Lib.join ([x0, x1, x2, x3, x4, x5, x6, x7, x8, x9, x10].map (·.data.toList)) [32]).toArray) := by
    unfold Hid
    rw [← hx0.out, ← hx1.out, ← hx2.out, ← hx3.out, ← hx4.out, ← hx5.out, ← hx6.out, ← hx7.out, ← hx8.out, ← hx9.out, ← hx10.out]
    rfl
  have hsz : x0.size + 1 + x1.size + 1 + x2.size + 1 + x3.size + 1 + x4.size + 1 + x5.size + 1 + x6.size + 1 + x7.size + 1 + x8.size + 1 + x9.size + 1 + x10.size ≤ 300 := by
    have h11 := size11 x0 x1 x2 x3 x4 x5 x6 x7 x8 x9 x10
    rw [cat11 x0 x1 x2 x3 x4 x5 x6 x7 x8 x9 x10, ← hJ.out] at h11
    rw [← h11]
    exact hbl
  clear hbl
  obtain ⟨k0, k1, k2, k3, k4, k5, k6, k7, k8, k9, k10, k11, k12, k13, k14, k15, k16, k17, k18, k19⟩ := pre11 hsz
  clear hsz
  have hp : p = 1 ∨ p = 2 := by omega
  rcases hp with rfl | rfl
  · have hx0' : (⟨#[108, 97, 110]⟩ : ByteArray) = x0 := hx0.out
    clear hx0 r0 r1
    go_enter Tryd.func11, Tryd.ntmps11
    go_upto_region 2 with fail
    have b0 := balloc (.cells #[.int .i64 1, .int .i64 k, .int .i64 f, .int .i64 t, .int .i64 s, .int .i64 q, .int .i64 x, .int .i64 y, .int .i64 z, .int .i64 e, (.slice a len cap)] 32) (Below.refl w.heap.size w)
    have p0 : (w.alloc (.cells #[.int .i64 1, .int .i64 k, .int .i64 f, .int .i64 t, .int .i64 s, .int .i64 q, .int .i64 x, .int .i64 y, .int .i64 z, .int .i64 e, (.slice a len cap)] 32)).heap[w.heap.size]? = some (.cells #[.int .i64 1, .int .i64 k, .int .i64 f, .int .i64 t, .int .i64 s, .int .i64 q, .int .i64 x, .int .i64 y, .int .i64 z, .int .i64 e, (.slice a len cap)] 32 (0, 0)) := heap_alloc_new _ _
    have gA := h.below b0
    have c0 := cell_block (o := 0) (v := .int .i64 1) p0 rfl
    have c1 := cell_block (o := 1) (v := .int .i64 k) p0 rfl
    have c2 := cell_block (o := 2) (v := .int .i64 f) p0 rfl
    have c3 := cell_block (o := 3) (v := .int .i64 t) p0 rfl
    have c4 := cell_block (o := 4) (v := .int .i64 s) p0 rfl
    have c5 := cell_block (o := 5) (v := .int .i64 q) p0 rfl
    have c6 := cell_block (o := 6) (v := .int .i64 x) p0 rfl
    have c7 := cell_block (o := 7) (v := .int .i64 y) p0 rfl
    have c8 := cell_block (o := 8) (v := .int .i64 z) p0 rfl
    have c9 := cell_block (o := 9) (v := .int .i64 e) p0 rfl
    have c10 := cell_block (o := 10) (v := .slice a len cap) p0 rfl
    generalize w.alloc (.cells #[.int .i64 1, .int .i64 k, .int .i64 f, .int .i64 t, .int .i64 s, .int .i64 q, .int .i64 x, .int .i64 y, .int .i64 z, .int .i64 e, (.slice a len cap)] 32) = V at *
    clear p0
    have sA : w.heap.size < V.heap.size := World.block_lt_of_cell? V _ c0
    go_upto_region 5 with fail
    have b1 := balloc (.cells #[.int .i64 x, .int .i64 y, .int .i64 z, .int .i64 e] 29) (Below.refl V.heap.size V)
    have q0 : (V.alloc (.cells #[.int .i64 x, .int .i64 y, .int .i64 z, .int .i64 e] 29)).heap[V.heap.size]? = some (.cells #[.int .i64 x, .int .i64 y, .int .i64 z, .int .i64 e] 29 (0, 0)) := heap_alloc_new _ _
    have gB := gA.below b1
    have B0 : Below w.heap.size w (V.alloc (.cells #[.int .i64 x, .int .i64 y, .int .i64 z, .int .i64 e] 29)) := btrans b0 b1
    have e1 := keep_below b1 c1
    have e2 := keep_below b1 c2
    have e3 := keep_below b1 c3
    have e4 := keep_below b1 c4
    have e5 := keep_below b1 c5
    have e10 := keep_below b1 c10
    have d0 := cell_block (o := 0) (v := .int .i64 x) q0 rfl
    have d1 := cell_block (o := 1) (v := .int .i64 y) q0 rfl
    have d2 := cell_block (o := 2) (v := .int .i64 z) q0 rfl
    have d3 := cell_block (o := 3) (v := .int .i64 e) q0 rfl
    clear b1 q0 gA b0 sA c0 c1 c2 c3 c4 c5 c6 c7 c8 c9 c10
    generalize hvs : V.heap.size = vs at *
    generalize V.alloc (.cells #[.int .i64 x, .int .i64 y, .int .i64 z, .int .i64 e] 29) = U at *
    clear hvs
    rw [hx0']
    clear hx0'
    have g0 : FSl U.drew a len F := gB.below (qd (Below.refl _ _))
    refine wp_region_held_drew (S := fun w' => w'.cell? ⟨w.heap.size, 1, none⟩ = some (.int .i64 k) ∧ w'.cell? ⟨w.heap.size, 2, none⟩ = some (.int .i64 f) ∧ w'.cell? ⟨w.heap.size, 3, none⟩ = some (.int .i64 t) ∧ w'.cell? ⟨w.heap.size, 4, none⟩ = some (.int .i64 s) ∧ w'.cell? ⟨w.heap.size, 5, none⟩ = some (.int .i64 q) ∧ w'.cell? ⟨w.heap.size, 10, none⟩ = some (.slice a len cap) ∧ w'.cell? ⟨vs, 0, none⟩ = some (.int .i64 x) ∧ w'.cell? ⟨vs, 1, none⟩ = some (.int .i64 y) ∧ w'.cell? ⟨vs, 2, none⟩ = some (.int .i64 z) ∧ w'.cell? ⟨vs, 3, none⟩ = some (.int .i64 e)) (by kernel_rfl) ?_ (fun hHeld => ?_)
    · (try dsimp only); (refine ⟨?_, ?_, ?_, ?_, ?_, ?_, ?_, ?_, ?_, ?_⟩ <;> (repeat (first | with_reducible assumption | with_reducible refine keep_drew ?_ | with_reducible refine keep_alloc _ ?_ | with_reducible refine keep_below (by assumption) ?_)))
    refine wpAnyH_take (i := 0) (oi := { dst := some 10, op := Go.Op.move (Go.Operand.tmp 3), type := 9, pos := "l4_word.go:92", after := #[], guard := none }) (v := ?_) rfl (by kernel_rfl) (by kernel_rfl) (by kernel_rfl) (fun _ _ _ h => h) (Or.inl ⟨by rfl, ?_⟩) (by assumption) ?_
    rotate_left 1
    · (intro w hSw; (try dsimp only at hSw); go_simp; try with_reducible rfl)
    (try simp only [Act.put, List.setIfInBounds_toArray, List.set_cons_zero, List.set_cons_succ])
    refine wpAnyH_take (i := 1) (oi := { dst := some 11, op := Go.Op.binOp Go.BinOp.add 9 (Go.Operand.tmp 10) (Go.Operand.const (Go.Value.string { data := #[32] })) 9, type := 9, pos := "l4_word.go:92", after := #[{ on := 0, ground := Go.Ground.data }], guard := none }) (v := ?_) rfl (by kernel_rfl) (by kernel_rfl) (by kernel_rfl) (fun _ _ _ h => h) (Or.inl ⟨by rfl, ?_⟩) (by assumption) ?_
    rotate_left 1
    · (intro w hSw; (try dsimp only at hSw); go_simp; try with_reducible rfl)
    (try simp only [Act.put, List.setIfInBounds_toArray, List.set_cons_zero, List.set_cons_succ])
    refine wpAnyH_take (i := 2) (oi := { dst := some 12, op := Go.Op.fieldAddr 32 (Go.Operand.tmp 1) 1, type := 0, pos := "l4_word.go:92", after := #[], guard := none }) (v := ?_) rfl (by kernel_rfl) (by kernel_rfl) (by kernel_rfl) (fun _ _ _ h => h) (Or.inl ⟨by rfl, ?_⟩) (by assumption) ?_
    rotate_left 1
    · (intro w hSw; (try dsimp only at hSw); go_simp; try with_reducible rfl)
    (try simp only [Act.put, List.setIfInBounds_toArray, List.set_cons_zero, List.set_cons_succ])
    refine wpAnyH_take (i := 3) (oi := { dst := some 13, op := Go.Op.load 3 (Go.Operand.tmp 12), type := 3, pos := "l4_word.go:92", after := #[{ on := 2, ground := Go.Ground.data }], guard := none }) (v := ?_) rfl (by kernel_rfl) (by kernel_rfl) (by kernel_rfl) (fun _ _ _ h => h) (Or.inl ⟨by rfl, ?_⟩) (by assumption) ?_
    rotate_left 1
    · (intro w hSw; (try dsimp only at hSw); go_simp; try with_reducible rfl)
    (try simp only [Act.put, List.setIfInBounds_toArray, List.set_cons_zero, List.set_cons_succ])
    refine wpAnyH_take (i := 7) (oi := { dst := some 17, op := Go.Op.fieldAddr 32 (Go.Operand.tmp 1) 2, type := 0, pos := "l4_word.go:92", after := #[], guard := none }) (v := ?_) rfl (by kernel_rfl) (by kernel_rfl) (by kernel_rfl) (fun _ _ _ h => h) (Or.inl ⟨by rfl, ?_⟩) (by assumption) ?_
    rotate_left 1
    · (intro w hSw; (try dsimp only at hSw); go_simp; try with_reducible rfl)
    (try simp only [Act.put, List.setIfInBounds_toArray, List.set_cons_zero, List.set_cons_succ])
    refine wpAnyH_take (i := 8) (oi := { dst := some 18, op := Go.Op.load 3 (Go.Operand.tmp 17), type := 3, pos := "l4_word.go:92", after := #[{ on := 7, ground := Go.Ground.data }], guard := none }) (v := ?_) rfl (by kernel_rfl) (by kernel_rfl) (by kernel_rfl) (fun _ _ _ h => h) (Or.inl ⟨by rfl, ?_⟩) (by assumption) ?_
    rotate_left 1
    · (intro w hSw; (try dsimp only at hSw); go_simp; try with_reducible rfl)
    (try simp only [Act.put, List.setIfInBounds_toArray, List.set_cons_zero, List.set_cons_succ])
    refine wpAnyH_take (i := 12) (oi := { dst := some 22, op := Go.Op.fieldAddr 32 (Go.Operand.tmp 1) 3, type := 0, pos := "l4_word.go:92", after := #[], guard := none }) (v := ?_) rfl (by kernel_rfl) (by kernel_rfl) (by kernel_rfl) (fun _ _ _ h => h) (Or.inl ⟨by rfl, ?_⟩) (by assumption) ?_
    rotate_left 1
    · (intro w hSw; (try dsimp only at hSw); go_simp; try with_reducible rfl)
    (try simp only [Act.put, List.setIfInBounds_toArray, List.set_cons_zero, List.set_cons_succ])
    refine wpAnyH_take (i := 13) (oi := { dst := some 23, op := Go.Op.load 3 (Go.Operand.tmp 22), type := 3, pos := "l4_word.go:92", after := #[{ on := 12, ground := Go.Ground.data }], guard := none }) (v := ?_) rfl (by kernel_rfl) (by kernel_rfl) (by kernel_rfl) (fun _ _ _ h => h) (Or.inl ⟨by rfl, ?_⟩) (by assumption) ?_
    rotate_left 1
    · (intro w hSw; (try dsimp only at hSw); go_simp; try with_reducible rfl)
    (try simp only [Act.put, List.setIfInBounds_toArray, List.set_cons_zero, List.set_cons_succ])
    refine wpAnyH_take (i := 17) (oi := { dst := some 27, op := Go.Op.fieldAddr 32 (Go.Operand.tmp 1) 4, type := 0, pos := "l4_word.go:92", after := #[], guard := none }) (v := ?_) rfl (by kernel_rfl) (by kernel_rfl) (by kernel_rfl) (fun _ _ _ h => h) (Or.inl ⟨by rfl, ?_⟩) (by assumption) ?_
    rotate_left 1
    · (intro w hSw; (try dsimp only at hSw); go_simp; try with_reducible rfl)
    (try simp only [Act.put, List.setIfInBounds_toArray, List.set_cons_zero, List.set_cons_succ])
    refine wpAnyH_take (i := 18) (oi := { dst := some 28, op := Go.Op.load 3 (Go.Operand.tmp 27), type := 3, pos := "l4_word.go:92", after := #[{ on := 17, ground := Go.Ground.data }], guard := none }) (v := ?_) rfl (by kernel_rfl) (by kernel_rfl) (by kernel_rfl) (fun _ _ _ h => h) (Or.inl ⟨by rfl, ?_⟩) (by assumption) ?_
    rotate_left 1
    · (intro w hSw; (try dsimp only at hSw); go_simp; try with_reducible rfl)
    (try simp only [Act.put, List.setIfInBounds_toArray, List.set_cons_zero, List.set_cons_succ])
    refine wpAnyH_take (i := 22) (oi := { dst := some 32, op := Go.Op.fieldAddr 32 (Go.Operand.tmp 1) 5, type := 0, pos := "l4_word.go:92", after := #[], guard := none }) (v := ?_) rfl (by kernel_rfl) (by kernel_rfl) (by kernel_rfl) (fun _ _ _ h => h) (Or.inl ⟨by rfl, ?_⟩) (by assumption) ?_
    rotate_left 1
    · (intro w hSw; (try dsimp only at hSw); go_simp; try with_reducible rfl)
    (try simp only [Act.put, List.setIfInBounds_toArray, List.set_cons_zero, List.set_cons_succ])
    refine wpAnyH_take (i := 23) (oi := { dst := some 33, op := Go.Op.load 3 (Go.Operand.tmp 32), type := 3, pos := "l4_word.go:92", after := #[{ on := 22, ground := Go.Ground.data }], guard := none }) (v := ?_) rfl (by kernel_rfl) (by kernel_rfl) (by kernel_rfl) (fun _ _ _ h => h) (Or.inl ⟨by rfl, ?_⟩) (by assumption) ?_
    rotate_left 1
    · (intro w hSw; (try dsimp only at hSw); go_simp; try with_reducible rfl)
    (try simp only [Act.put, List.setIfInBounds_toArray, List.set_cons_zero, List.set_cons_succ])
    refine wpAnyH_take (i := 27) (oi := { dst := some 37, op := Go.Op.fieldAddr 29 (Go.Operand.tmp 4) 0, type := 0, pos := "l4_word.go:92", after := #[], guard := none }) (v := ?_) rfl (by kernel_rfl) (by kernel_rfl) (by kernel_rfl) (fun _ _ _ h => h) (Or.inl ⟨by rfl, ?_⟩) (by assumption) ?_
    rotate_left 1
    · (intro w hSw; (try dsimp only at hSw); go_simp; try with_reducible rfl)
    (try simp only [Act.put, List.setIfInBounds_toArray, List.set_cons_zero, List.set_cons_succ])
    refine wpAnyH_take (i := 28) (oi := { dst := some 38, op := Go.Op.load 3 (Go.Operand.tmp 37), type := 3, pos := "l4_word.go:92", after := #[{ on := 27, ground := Go.Ground.data }], guard := none }) (v := ?_) rfl (by kernel_rfl) (by kernel_rfl) (by kernel_rfl) (fun _ _ _ h => h) (Or.inl ⟨by rfl, ?_⟩) (by assumption) ?_
    rotate_left 1
    · (intro w hSw; (try dsimp only at hSw); go_simp; try with_reducible rfl)
    (try simp only [Act.put, List.setIfInBounds_toArray, List.set_cons_zero, List.set_cons_succ])
    refine wpAnyH_take (i := 32) (oi := { dst := some 42, op := Go.Op.fieldAddr 29 (Go.Operand.tmp 4) 1, type := 0, pos := "l4_word.go:92", after := #[], guard := none }) (v := ?_) rfl (by kernel_rfl) (by kernel_rfl) (by kernel_rfl) (fun _ _ _ h => h) (Or.inl ⟨by rfl, ?_⟩) (by assumption) ?_
    rotate_left 1
    · (intro w hSw; (try dsimp only at hSw); go_simp; try with_reducible rfl)
    (try simp only [Act.put, List.setIfInBounds_toArray, List.set_cons_zero, List.set_cons_succ])
    refine wpAnyH_take (i := 33) (oi := { dst := some 43, op := Go.Op.load 3 (Go.Operand.tmp 42), type := 3, pos := "l4_word.go:92", after := #[{ on := 32, ground := Go.Ground.data }], guard := none }) (v := ?_) rfl (by kernel_rfl) (by kernel_rfl) (by kernel_rfl) (fun _ _ _ h => h) (Or.inl ⟨by rfl, ?_⟩) (by assumption) ?_
    rotate_left 1
    · (intro w hSw; (try dsimp only at hSw); go_simp; try with_reducible rfl)
    (try simp only [Act.put, List.setIfInBounds_toArray, List.set_cons_zero, List.set_cons_succ])
    refine wpAnyH_take (i := 37) (oi := { dst := some 47, op := Go.Op.fieldAddr 29 (Go.Operand.tmp 4) 2, type := 0, pos := "l4_word.go:92", after := #[], guard := none }) (v := ?_) rfl (by kernel_rfl) (by kernel_rfl) (by kernel_rfl) (fun _ _ _ h => h) (Or.inl ⟨by rfl, ?_⟩) (by assumption) ?_
    rotate_left 1
    · (intro w hSw; (try dsimp only at hSw); go_simp; try with_reducible rfl)
    (try simp only [Act.put, List.setIfInBounds_toArray, List.set_cons_zero, List.set_cons_succ])
    refine wpAnyH_take (i := 38) (oi := { dst := some 48, op := Go.Op.load 3 (Go.Operand.tmp 47), type := 3, pos := "l4_word.go:92", after := #[{ on := 37, ground := Go.Ground.data }], guard := none }) (v := ?_) rfl (by kernel_rfl) (by kernel_rfl) (by kernel_rfl) (fun _ _ _ h => h) (Or.inl ⟨by rfl, ?_⟩) (by assumption) ?_
    rotate_left 1
    · (intro w hSw; (try dsimp only at hSw); go_simp; try with_reducible rfl)
    (try simp only [Act.put, List.setIfInBounds_toArray, List.set_cons_zero, List.set_cons_succ])
    refine wpAnyH_take (i := 42) (oi := { dst := some 52, op := Go.Op.fieldAddr 29 (Go.Operand.tmp 4) 3, type := 0, pos := "l4_word.go:92", after := #[], guard := none }) (v := ?_) rfl (by kernel_rfl) (by kernel_rfl) (by kernel_rfl) (fun _ _ _ h => h) (Or.inl ⟨by rfl, ?_⟩) (by assumption) ?_
    rotate_left 1
    · (intro w hSw; (try dsimp only at hSw); go_simp; try with_reducible rfl)
    (try simp only [Act.put, List.setIfInBounds_toArray, List.set_cons_zero, List.set_cons_succ])
    refine wpAnyH_take (i := 43) (oi := { dst := some 53, op := Go.Op.load 3 (Go.Operand.tmp 52), type := 3, pos := "l4_word.go:92", after := #[{ on := 42, ground := Go.Ground.data }], guard := none }) (v := ?_) rfl (by kernel_rfl) (by kernel_rfl) (by kernel_rfl) (fun _ _ _ h => h) (Or.inl ⟨by rfl, ?_⟩) (by assumption) ?_
    rotate_left 1
    · (intro w hSw; (try dsimp only at hSw); go_simp; try with_reducible rfl)
    (try simp only [Act.put, List.setIfInBounds_toArray, List.set_cons_zero, List.set_cons_succ])
    refine wpAnyH_take (i := 47) (oi := { dst := some 57, op := Go.Op.fieldAddr 32 (Go.Operand.tmp 1) 7, type := 0, pos := "l4_word.go:92", after := #[], guard := none }) (v := ?_) rfl (by kernel_rfl) (by kernel_rfl) (by kernel_rfl) (fun _ _ _ h => h) (Or.inl ⟨by rfl, ?_⟩) (by assumption) ?_
    rotate_left 1
    · (intro w hSw; (try dsimp only at hSw); go_simp; try with_reducible rfl)
    (try simp only [Act.put, List.setIfInBounds_toArray, List.set_cons_zero, List.set_cons_succ])
    refine wpAnyH_take (i := 48) (oi := { dst := some 58, op := Go.Op.load 30 (Go.Operand.tmp 57), type := 30, pos := "l4_word.go:92", after := #[{ on := 47, ground := Go.Ground.data }], guard := none }) (v := ?_) rfl (by kernel_rfl) (by kernel_rfl) (by kernel_rfl) (fun _ _ _ h => h) (Or.inl ⟨by rfl, ?_⟩) (by assumption) ?_
    rotate_left 1
    · (intro w hSw; (try dsimp only at hSw); go_simp; try with_reducible rfl)
    (try simp only [Act.put, List.setIfInBounds_toArray, List.set_cons_zero, List.set_cons_succ])
    refine wpAnyH_ready (rs := [4]) (by kernel_rfl) (by simp) ?_
    refine AllReadyH.cons (o := { dst := some 14, op := Go.Op.call { callee := Go.Callee.value (Go.Operand.func 30), args := #[Go.Operand.tmp 13], argTypes := #[3] }, type := 9, pos := "l4_word.go:92", after := #[{ on := 3, ground := Go.Ground.data }], guard := none }) rfl (fun K hK => ?_) AllReadyH.nil
    go_simp
    refine (lkind_lit k _ (by omega) (by omega) hx1.out _).mono ?_; rintro r o1 ⟨rfl, b1⟩; have g1 := g0.below b1
    go_wp2_with fail
    refine hK.out _ _ ?_ (fun hHeld => ?_)
    · (try dsimp only); (refine ⟨?_, ?_, ?_, ?_, ?_, ?_, ?_, ?_, ?_, ?_⟩ <;> (repeat (first | with_reducible assumption | with_reducible refine keep_drew ?_ | with_reducible refine keep_alloc _ ?_ | with_reducible refine keep_below (by assumption) ?_)))
    clear hK K
    (try simp only [Act.put, List.setIfInBounds_toArray, List.set_cons_zero, List.set_cons_succ])
    refine wpAnyH_take (i := 5) (oi := { dst := some 15, op := Go.Op.binOp Go.BinOp.add 9 (Go.Operand.tmp 11) (Go.Operand.tmp 14) 9, type := 9, pos := "l4_word.go:92", after := #[{ on := 1, ground := Go.Ground.data }, { on := 4, ground := Go.Ground.data }], guard := none }) (v := ?_) rfl (by kernel_rfl) (by kernel_rfl) (by kernel_rfl) (fun _ _ _ h => h) (Or.inl ⟨by rfl, ?_⟩) (by assumption) ?_
    rotate_left 1
    · (intro w hSw; (try dsimp only at hSw); go_simp; try with_reducible rfl)
    (try simp only [Act.put, List.setIfInBounds_toArray, List.set_cons_zero, List.set_cons_succ])
    refine wpAnyH_take (i := 6) (oi := { dst := some 16, op := Go.Op.binOp Go.BinOp.add 9 (Go.Operand.tmp 15) (Go.Operand.const (Go.Value.string { data := #[32] })) 9, type := 9, pos := "l4_word.go:92", after := #[{ on := 5, ground := Go.Ground.data }], guard := none }) (v := ?_) rfl (by kernel_rfl) (by kernel_rfl) (by kernel_rfl) (fun _ _ _ h => h) (Or.inl ⟨by rfl, ?_⟩) (by assumption) ?_
    rotate_left 1
    · (intro w hSw; (try dsimp only at hSw); go_simp; try with_reducible rfl)
    (try simp only [Act.put, List.setIfInBounds_toArray, List.set_cons_zero, List.set_cons_succ])
    refine wpAnyH_ready (rs := [9]) (by kernel_rfl) (by simp) ?_
    refine AllReadyH.cons (o := { dst := some 19, op := Go.Op.call { callee := Go.Callee.value (Go.Operand.func 31), args := #[Go.Operand.tmp 18], argTypes := #[3] }, type := 9, pos := "l4_word.go:92", after := #[{ on := 8, ground := Go.Ground.data }, { on := 4, ground := Go.Ground.chain }], guard := none }) rfl (fun K hK => ?_) AllReadyH.nil
    go_simp
    refine (ldec_lit f _ (by omega) (by omega) hx2.out _).mono ?_; rintro r o2 ⟨rfl, b2⟩; have g2 := g1.below b2
    go_wp2_with fail
    refine hK.out _ _ ?_ (fun hHeld => ?_)
    · (try dsimp only); (refine ⟨?_, ?_, ?_, ?_, ?_, ?_, ?_, ?_, ?_, ?_⟩ <;> (repeat (first | with_reducible assumption | with_reducible refine keep_drew ?_ | with_reducible refine keep_alloc _ ?_ | with_reducible refine keep_below (by assumption) ?_)))
    clear hK K
    (try simp only [Act.put, List.setIfInBounds_toArray, List.set_cons_zero, List.set_cons_succ])
    refine wpAnyH_take (i := 10) (oi := { dst := some 20, op := Go.Op.binOp Go.BinOp.add 9 (Go.Operand.tmp 16) (Go.Operand.tmp 19) 9, type := 9, pos := "l4_word.go:92", after := #[{ on := 6, ground := Go.Ground.data }, { on := 9, ground := Go.Ground.data }], guard := none }) (v := ?_) rfl (by kernel_rfl) (by kernel_rfl) (by kernel_rfl) (fun _ _ _ h => h) (Or.inl ⟨by rfl, ?_⟩) (by assumption) ?_
    rotate_left 1
    · (intro w hSw; (try dsimp only at hSw); go_simp; try with_reducible rfl)
    (try simp only [Act.put, List.setIfInBounds_toArray, List.set_cons_zero, List.set_cons_succ])
    refine wpAnyH_take (i := 11) (oi := { dst := some 21, op := Go.Op.binOp Go.BinOp.add 9 (Go.Operand.tmp 20) (Go.Operand.const (Go.Value.string { data := #[32] })) 9, type := 9, pos := "l4_word.go:92", after := #[{ on := 10, ground := Go.Ground.data }], guard := none }) (v := ?_) rfl (by kernel_rfl) (by kernel_rfl) (by kernel_rfl) (fun _ _ _ h => h) (Or.inl ⟨by rfl, ?_⟩) (by assumption) ?_
    rotate_left 1
    · (intro w hSw; (try dsimp only at hSw); go_simp; try with_reducible rfl)
    (try simp only [Act.put, List.setIfInBounds_toArray, List.set_cons_zero, List.set_cons_succ])
    refine wpAnyH_ready (rs := [14]) (by kernel_rfl) (by simp) ?_
    refine AllReadyH.cons (o := { dst := some 24, op := Go.Op.call { callee := Go.Callee.value (Go.Operand.func 31), args := #[Go.Operand.tmp 23], argTypes := #[3] }, type := 9, pos := "l4_word.go:92", after := #[{ on := 13, ground := Go.Ground.data }, { on := 9, ground := Go.Ground.chain }], guard := none }) rfl (fun K hK => ?_) AllReadyH.nil
    go_simp
    refine (ldec_lit t _ (by omega) (by omega) hx3.out _).mono ?_; rintro r o3 ⟨rfl, b3⟩; have g3 := g2.below b3
    go_wp2_with fail
    refine hK.out _ _ ?_ (fun hHeld => ?_)
    · (try dsimp only); (refine ⟨?_, ?_, ?_, ?_, ?_, ?_, ?_, ?_, ?_, ?_⟩ <;> (repeat (first | with_reducible assumption | with_reducible refine keep_drew ?_ | with_reducible refine keep_alloc _ ?_ | with_reducible refine keep_below (by assumption) ?_)))
    clear hK K
    (try simp only [Act.put, List.setIfInBounds_toArray, List.set_cons_zero, List.set_cons_succ])
    refine wpAnyH_take (i := 15) (oi := { dst := some 25, op := Go.Op.binOp Go.BinOp.add 9 (Go.Operand.tmp 21) (Go.Operand.tmp 24) 9, type := 9, pos := "l4_word.go:92", after := #[{ on := 11, ground := Go.Ground.data }, { on := 14, ground := Go.Ground.data }], guard := none }) (v := ?_) rfl (by kernel_rfl) (by kernel_rfl) (by kernel_rfl) (fun _ _ _ h => h) (Or.inl ⟨by rfl, ?_⟩) (by assumption) ?_
    rotate_left 1
    · (intro w hSw; (try dsimp only at hSw); go_simp; try with_reducible rfl)
    (try simp only [Act.put, List.setIfInBounds_toArray, List.set_cons_zero, List.set_cons_succ])
    refine wpAnyH_take (i := 16) (oi := { dst := some 26, op := Go.Op.binOp Go.BinOp.add 9 (Go.Operand.tmp 25) (Go.Operand.const (Go.Value.string { data := #[32] })) 9, type := 9, pos := "l4_word.go:92", after := #[{ on := 15, ground := Go.Ground.data }], guard := none }) (v := ?_) rfl (by kernel_rfl) (by kernel_rfl) (by kernel_rfl) (fun _ _ _ h => h) (Or.inl ⟨by rfl, ?_⟩) (by assumption) ?_
    rotate_left 1
    · (intro w hSw; (try dsimp only at hSw); go_simp; try with_reducible rfl)
    (try simp only [Act.put, List.setIfInBounds_toArray, List.set_cons_zero, List.set_cons_succ])
    refine wpAnyH_ready (rs := [19]) (by kernel_rfl) (by simp) ?_
    refine AllReadyH.cons (o := { dst := some 29, op := Go.Op.call { callee := Go.Callee.value (Go.Operand.func 31), args := #[Go.Operand.tmp 28], argTypes := #[3] }, type := 9, pos := "l4_word.go:92", after := #[{ on := 18, ground := Go.Ground.data }, { on := 14, ground := Go.Ground.chain }], guard := none }) rfl (fun K hK => ?_) AllReadyH.nil
    go_simp
    refine (ldec_lit s _ (by omega) (by omega) hx4.out _).mono ?_; rintro r o4 ⟨rfl, b4⟩; have g4 := g3.below b4
    go_wp2_with fail
    refine hK.out _ _ ?_ (fun hHeld => ?_)
    · (try dsimp only); (refine ⟨?_, ?_, ?_, ?_, ?_, ?_, ?_, ?_, ?_, ?_⟩ <;> (repeat (first | with_reducible assumption | with_reducible refine keep_drew ?_ | with_reducible refine keep_alloc _ ?_ | with_reducible refine keep_below (by assumption) ?_)))
    clear hK K
    (try simp only [Act.put, List.setIfInBounds_toArray, List.set_cons_zero, List.set_cons_succ])
    refine wpAnyH_take (i := 20) (oi := { dst := some 30, op := Go.Op.binOp Go.BinOp.add 9 (Go.Operand.tmp 26) (Go.Operand.tmp 29) 9, type := 9, pos := "l4_word.go:92", after := #[{ on := 16, ground := Go.Ground.data }, { on := 19, ground := Go.Ground.data }], guard := none }) (v := ?_) rfl (by kernel_rfl) (by kernel_rfl) (by kernel_rfl) (fun _ _ _ h => h) (Or.inl ⟨by rfl, ?_⟩) (by assumption) ?_
    rotate_left 1
    · (intro w hSw; (try dsimp only at hSw); go_simp; try with_reducible rfl)
    (try simp only [Act.put, List.setIfInBounds_toArray, List.set_cons_zero, List.set_cons_succ])
    refine wpAnyH_take (i := 21) (oi := { dst := some 31, op := Go.Op.binOp Go.BinOp.add 9 (Go.Operand.tmp 30) (Go.Operand.const (Go.Value.string { data := #[32] })) 9, type := 9, pos := "l4_word.go:92", after := #[{ on := 20, ground := Go.Ground.data }], guard := none }) (v := ?_) rfl (by kernel_rfl) (by kernel_rfl) (by kernel_rfl) (fun _ _ _ h => h) (Or.inl ⟨by rfl, ?_⟩) (by assumption) ?_
    rotate_left 1
    · (intro w hSw; (try dsimp only at hSw); go_simp; try with_reducible rfl)
    (try simp only [Act.put, List.setIfInBounds_toArray, List.set_cons_zero, List.set_cons_succ])
    refine wpAnyH_ready (rs := [24]) (by kernel_rfl) (by simp) ?_
    refine AllReadyH.cons (o := { dst := some 34, op := Go.Op.call { callee := Go.Callee.value (Go.Operand.func 31), args := #[Go.Operand.tmp 33], argTypes := #[3] }, type := 9, pos := "l4_word.go:92", after := #[{ on := 23, ground := Go.Ground.data }, { on := 19, ground := Go.Ground.chain }], guard := none }) rfl (fun K hK => ?_) AllReadyH.nil
    go_simp
    refine (ldec_lit q _ (by omega) (by omega) hx5.out _).mono ?_; rintro r o5 ⟨rfl, b5⟩; have g5 := g4.below b5
    go_wp2_with fail
    refine hK.out _ _ ?_ (fun hHeld => ?_)
    · (try dsimp only); (refine ⟨?_, ?_, ?_, ?_, ?_, ?_, ?_, ?_, ?_, ?_⟩ <;> (repeat (first | with_reducible assumption | with_reducible refine keep_drew ?_ | with_reducible refine keep_alloc _ ?_ | with_reducible refine keep_below (by assumption) ?_)))
    clear hK K
    (try simp only [Act.put, List.setIfInBounds_toArray, List.set_cons_zero, List.set_cons_succ])
    refine wpAnyH_take (i := 25) (oi := { dst := some 35, op := Go.Op.binOp Go.BinOp.add 9 (Go.Operand.tmp 31) (Go.Operand.tmp 34) 9, type := 9, pos := "l4_word.go:92", after := #[{ on := 21, ground := Go.Ground.data }, { on := 24, ground := Go.Ground.data }], guard := none }) (v := ?_) rfl (by kernel_rfl) (by kernel_rfl) (by kernel_rfl) (fun _ _ _ h => h) (Or.inl ⟨by rfl, ?_⟩) (by assumption) ?_
    rotate_left 1
    · (intro w hSw; (try dsimp only at hSw); go_simp; try with_reducible rfl)
    (try simp only [Act.put, List.setIfInBounds_toArray, List.set_cons_zero, List.set_cons_succ])
    refine wpAnyH_take (i := 26) (oi := { dst := some 36, op := Go.Op.binOp Go.BinOp.add 9 (Go.Operand.tmp 35) (Go.Operand.const (Go.Value.string { data := #[32] })) 9, type := 9, pos := "l4_word.go:92", after := #[{ on := 25, ground := Go.Ground.data }], guard := none }) (v := ?_) rfl (by kernel_rfl) (by kernel_rfl) (by kernel_rfl) (fun _ _ _ h => h) (Or.inl ⟨by rfl, ?_⟩) (by assumption) ?_
    rotate_left 1
    · (intro w hSw; (try dsimp only at hSw); go_simp; try with_reducible rfl)
    (try simp only [Act.put, List.setIfInBounds_toArray, List.set_cons_zero, List.set_cons_succ])
    refine wpAnyH_ready (rs := [29]) (by kernel_rfl) (by simp) ?_
    refine AllReadyH.cons (o := { dst := some 39, op := Go.Op.call { callee := Go.Callee.value (Go.Operand.func 32), args := #[Go.Operand.tmp 38], argTypes := #[3] }, type := 9, pos := "l4_word.go:92", after := #[{ on := 28, ground := Go.Ground.data }, { on := 24, ground := Go.Ground.chain }], guard := none }) rfl (fun K hK => ?_) AllReadyH.nil
    go_simp
    refine (lsgn_lit x _ (by omega) (by omega) hx6.out _).mono ?_; rintro r o6 ⟨rfl, b6⟩; have g6 := g5.below b6
    go_wp2_with fail
    refine hK.out _ _ ?_ (fun hHeld => ?_)
    · (try dsimp only); (refine ⟨?_, ?_, ?_, ?_, ?_, ?_, ?_, ?_, ?_, ?_⟩ <;> (repeat (first | with_reducible assumption | with_reducible refine keep_drew ?_ | with_reducible refine keep_alloc _ ?_ | with_reducible refine keep_below (by assumption) ?_)))
    clear hK K
    (try simp only [Act.put, List.setIfInBounds_toArray, List.set_cons_zero, List.set_cons_succ])
    refine wpAnyH_take (i := 30) (oi := { dst := some 40, op := Go.Op.binOp Go.BinOp.add 9 (Go.Operand.tmp 36) (Go.Operand.tmp 39) 9, type := 9, pos := "l4_word.go:92", after := #[{ on := 26, ground := Go.Ground.data }, { on := 29, ground := Go.Ground.data }], guard := none }) (v := ?_) rfl (by kernel_rfl) (by kernel_rfl) (by kernel_rfl) (fun _ _ _ h => h) (Or.inl ⟨by rfl, ?_⟩) (by assumption) ?_
    rotate_left 1
    · (intro w hSw; (try dsimp only at hSw); go_simp; try with_reducible rfl)
    (try simp only [Act.put, List.setIfInBounds_toArray, List.set_cons_zero, List.set_cons_succ])
    refine wpAnyH_take (i := 31) (oi := { dst := some 41, op := Go.Op.binOp Go.BinOp.add 9 (Go.Operand.tmp 40) (Go.Operand.const (Go.Value.string { data := #[32] })) 9, type := 9, pos := "l4_word.go:92", after := #[{ on := 30, ground := Go.Ground.data }], guard := none }) (v := ?_) rfl (by kernel_rfl) (by kernel_rfl) (by kernel_rfl) (fun _ _ _ h => h) (Or.inl ⟨by rfl, ?_⟩) (by assumption) ?_
    rotate_left 1
    · (intro w hSw; (try dsimp only at hSw); go_simp; try with_reducible rfl)
    (try simp only [Act.put, List.setIfInBounds_toArray, List.set_cons_zero, List.set_cons_succ])
    refine wpAnyH_ready (rs := [34]) (by kernel_rfl) (by simp) ?_
    refine AllReadyH.cons (o := { dst := some 44, op := Go.Op.call { callee := Go.Callee.value (Go.Operand.func 32), args := #[Go.Operand.tmp 43], argTypes := #[3] }, type := 9, pos := "l4_word.go:92", after := #[{ on := 33, ground := Go.Ground.data }, { on := 29, ground := Go.Ground.chain }], guard := none }) rfl (fun K hK => ?_) AllReadyH.nil
    go_simp
    refine (lsgn_lit y _ (by omega) (by omega) hx7.out _).mono ?_; rintro r o7 ⟨rfl, b7⟩; have g7 := g6.below b7
    go_wp2_with fail
    refine hK.out _ _ ?_ (fun hHeld => ?_)
    · (try dsimp only); (refine ⟨?_, ?_, ?_, ?_, ?_, ?_, ?_, ?_, ?_, ?_⟩ <;> (repeat (first | with_reducible assumption | with_reducible refine keep_drew ?_ | with_reducible refine keep_alloc _ ?_ | with_reducible refine keep_below (by assumption) ?_)))
    clear hK K
    (try simp only [Act.put, List.setIfInBounds_toArray, List.set_cons_zero, List.set_cons_succ])
    refine wpAnyH_take (i := 35) (oi := { dst := some 45, op := Go.Op.binOp Go.BinOp.add 9 (Go.Operand.tmp 41) (Go.Operand.tmp 44) 9, type := 9, pos := "l4_word.go:92", after := #[{ on := 31, ground := Go.Ground.data }, { on := 34, ground := Go.Ground.data }], guard := none }) (v := ?_) rfl (by kernel_rfl) (by kernel_rfl) (by kernel_rfl) (fun _ _ _ h => h) (Or.inl ⟨by rfl, ?_⟩) (by assumption) ?_
    rotate_left 1
    · (intro w hSw; (try dsimp only at hSw); go_simp; try with_reducible rfl)
    (try simp only [Act.put, List.setIfInBounds_toArray, List.set_cons_zero, List.set_cons_succ])
    refine wpAnyH_take (i := 36) (oi := { dst := some 46, op := Go.Op.binOp Go.BinOp.add 9 (Go.Operand.tmp 45) (Go.Operand.const (Go.Value.string { data := #[32] })) 9, type := 9, pos := "l4_word.go:92", after := #[{ on := 35, ground := Go.Ground.data }], guard := none }) (v := ?_) rfl (by kernel_rfl) (by kernel_rfl) (by kernel_rfl) (fun _ _ _ h => h) (Or.inl ⟨by rfl, ?_⟩) (by assumption) ?_
    rotate_left 1
    · (intro w hSw; (try dsimp only at hSw); go_simp; try with_reducible rfl)
    (try simp only [Act.put, List.setIfInBounds_toArray, List.set_cons_zero, List.set_cons_succ])
    refine wpAnyH_ready (rs := [39]) (by kernel_rfl) (by simp) ?_
    refine AllReadyH.cons (o := { dst := some 49, op := Go.Op.call { callee := Go.Callee.value (Go.Operand.func 31), args := #[Go.Operand.tmp 48], argTypes := #[3] }, type := 9, pos := "l4_word.go:92", after := #[{ on := 38, ground := Go.Ground.data }, { on := 34, ground := Go.Ground.chain }], guard := none }) rfl (fun K hK => ?_) AllReadyH.nil
    go_simp
    refine (ldec_lit z _ (by omega) (by omega) hx8.out _).mono ?_; rintro r o8 ⟨rfl, b8⟩; have g8 := g7.below b8
    go_wp2_with fail
    refine hK.out _ _ ?_ (fun hHeld => ?_)
    · (try dsimp only); (refine ⟨?_, ?_, ?_, ?_, ?_, ?_, ?_, ?_, ?_, ?_⟩ <;> (repeat (first | with_reducible assumption | with_reducible refine keep_drew ?_ | with_reducible refine keep_alloc _ ?_ | with_reducible refine keep_below (by assumption) ?_)))
    clear hK K
    (try simp only [Act.put, List.setIfInBounds_toArray, List.set_cons_zero, List.set_cons_succ])
    refine wpAnyH_take (i := 40) (oi := { dst := some 50, op := Go.Op.binOp Go.BinOp.add 9 (Go.Operand.tmp 46) (Go.Operand.tmp 49) 9, type := 9, pos := "l4_word.go:92", after := #[{ on := 36, ground := Go.Ground.data }, { on := 39, ground := Go.Ground.data }], guard := none }) (v := ?_) rfl (by kernel_rfl) (by kernel_rfl) (by kernel_rfl) (fun _ _ _ h => h) (Or.inl ⟨by rfl, ?_⟩) (by assumption) ?_
    rotate_left 1
    · (intro w hSw; (try dsimp only at hSw); go_simp; try with_reducible rfl)
    (try simp only [Act.put, List.setIfInBounds_toArray, List.set_cons_zero, List.set_cons_succ])
    refine wpAnyH_take (i := 41) (oi := { dst := some 51, op := Go.Op.binOp Go.BinOp.add 9 (Go.Operand.tmp 50) (Go.Operand.const (Go.Value.string { data := #[32] })) 9, type := 9, pos := "l4_word.go:92", after := #[{ on := 40, ground := Go.Ground.data }], guard := none }) (v := ?_) rfl (by kernel_rfl) (by kernel_rfl) (by kernel_rfl) (fun _ _ _ h => h) (Or.inl ⟨by rfl, ?_⟩) (by assumption) ?_
    rotate_left 1
    · (intro w hSw; (try dsimp only at hSw); go_simp; try with_reducible rfl)
    (try simp only [Act.put, List.setIfInBounds_toArray, List.set_cons_zero, List.set_cons_succ])
    refine wpAnyH_ready (rs := [44]) (by kernel_rfl) (by simp) ?_
    refine AllReadyH.cons (o := { dst := some 54, op := Go.Op.call { callee := Go.Callee.value (Go.Operand.func 31), args := #[Go.Operand.tmp 53], argTypes := #[3] }, type := 9, pos := "l4_word.go:92", after := #[{ on := 43, ground := Go.Ground.data }, { on := 39, ground := Go.Ground.chain }], guard := none }) rfl (fun K hK => ?_) AllReadyH.nil
    go_simp
    refine (ldec_lit e _ (by omega) (by omega) hx9.out _).mono ?_; rintro r o9 ⟨rfl, b9⟩; have g9 := g8.below b9
    go_wp2_with fail
    refine hK.out _ _ ?_ (fun hHeld => ?_)
    · (try dsimp only); (refine ⟨?_, ?_, ?_, ?_, ?_, ?_, ?_, ?_, ?_, ?_⟩ <;> (repeat (first | with_reducible assumption | with_reducible refine keep_drew ?_ | with_reducible refine keep_alloc _ ?_ | with_reducible refine keep_below (by assumption) ?_)))
    clear hK K
    (try simp only [Act.put, List.setIfInBounds_toArray, List.set_cons_zero, List.set_cons_succ])
    refine wpAnyH_take (i := 45) (oi := { dst := some 55, op := Go.Op.binOp Go.BinOp.add 9 (Go.Operand.tmp 51) (Go.Operand.tmp 54) 9, type := 9, pos := "l4_word.go:92", after := #[{ on := 41, ground := Go.Ground.data }, { on := 44, ground := Go.Ground.data }], guard := none }) (v := ?_) rfl (by kernel_rfl) (by kernel_rfl) (by kernel_rfl) (fun _ _ _ h => h) (Or.inl ⟨by rfl, ?_⟩) (by assumption) ?_
    rotate_left 1
    · (intro w hSw; (try dsimp only at hSw); go_simp; try with_reducible rfl)
    (try simp only [Act.put, List.setIfInBounds_toArray, List.set_cons_zero, List.set_cons_succ])
    refine wpAnyH_take (i := 46) (oi := { dst := some 56, op := Go.Op.binOp Go.BinOp.add 9 (Go.Operand.tmp 55) (Go.Operand.const (Go.Value.string { data := #[32] })) 9, type := 9, pos := "l4_word.go:92", after := #[{ on := 45, ground := Go.Ground.data }], guard := none }) (v := ?_) rfl (by kernel_rfl) (by kernel_rfl) (by kernel_rfl) (fun _ _ _ h => h) (Or.inl ⟨by rfl, ?_⟩) (by assumption) ?_
    rotate_left 1
    · (intro w hSw; (try dsimp only at hSw); go_simp; try with_reducible rfl)
    (try simp only [Act.put, List.setIfInBounds_toArray, List.set_cons_zero, List.set_cons_succ])
    refine wpAnyH_ready (rs := [49]) (by kernel_rfl) (by simp) ?_
    refine AllReadyH.cons (o := { dst := some 59, op := Go.Op.call { callee := Go.Callee.value (Go.Operand.func 33), args := #[Go.Operand.tmp 58], argTypes := #[30] }, type := 9, pos := "l4_word.go:92", after := #[{ on := 48, ground := Go.Ground.data }, { on := 44, ground := Go.Ground.chain }], guard := none }) rfl (fun K hK => ?_) AllReadyH.nil
    go_simp
    refine (stext_lit a len cap F _ hx10.out _ g9 (by omega)).mono ?_; rintro r o10 ⟨rfl, b10⟩; have g10 := g9.below b10
    go_wp2_with fail
    refine hK.out _ _ ?_ (fun hHeld => ?_)
    · (try dsimp only); (refine ⟨?_, ?_, ?_, ?_, ?_, ?_, ?_, ?_, ?_, ?_⟩ <;> (repeat (first | with_reducible assumption | with_reducible refine keep_drew ?_ | with_reducible refine keep_alloc _ ?_ | with_reducible refine keep_below (by assumption) ?_)))
    clear hK K
    (try simp only [Act.put, List.setIfInBounds_toArray, List.set_cons_zero, List.set_cons_succ])
    refine wpAnyH_take (i := 50) (oi := { dst := some 60, op := Go.Op.binOp Go.BinOp.add 9 (Go.Operand.tmp 56) (Go.Operand.tmp 59) 9, type := 9, pos := "l4_word.go:92", after := #[{ on := 46, ground := Go.Ground.data }, { on := 49, ground := Go.Ground.data }], guard := none }) (v := ?_) rfl (by kernel_rfl) (by kernel_rfl) (by kernel_rfl) (fun _ _ _ h => h) (Or.inl ⟨by rfl, ?_⟩) (by assumption) ?_
    rotate_left 1
    · (intro w hSw; (try dsimp only at hSw); go_simp; try with_reducible rfl)
    (try simp only [Act.put, List.setIfInBounds_toArray, List.set_cons_zero, List.set_cons_succ])
    refine wpAnyH_take (i := 51) (oi := { dst := some 2, op := Go.Op.assign (Go.Operand.tmp 60), type := 9, pos := "l4_word.go:92", after := #[{ on := 50, ground := Go.Ground.data }, { on := 49, ground := Go.Ground.chain }, { on := 0, ground := Go.Ground.phase }, { on := 1, ground := Go.Ground.phase }, { on := 2, ground := Go.Ground.phase }, { on := 3, ground := Go.Ground.phase }, { on := 4, ground := Go.Ground.phase }, { on := 5, ground := Go.Ground.phase }, { on := 6, ground := Go.Ground.phase }, { on := 7, ground := Go.Ground.phase }, { on := 8, ground := Go.Ground.phase }, { on := 9, ground := Go.Ground.phase }, { on := 10, ground := Go.Ground.phase }, { on := 11, ground := Go.Ground.phase }, { on := 12, ground := Go.Ground.phase }, { on := 13, ground := Go.Ground.phase }, { on := 14, ground := Go.Ground.phase }, { on := 15, ground := Go.Ground.phase }, { on := 16, ground := Go.Ground.phase }, { on := 17, ground := Go.Ground.phase }, { on := 18, ground := Go.Ground.phase }, { on := 19, ground := Go.Ground.phase }, { on := 20, ground := Go.Ground.phase }, { on := 21, ground := Go.Ground.phase }, { on := 22, ground := Go.Ground.phase }, { on := 23, ground := Go.Ground.phase }, { on := 24, ground := Go.Ground.phase }, { on := 25, ground := Go.Ground.phase }, { on := 26, ground := Go.Ground.phase }, { on := 27, ground := Go.Ground.phase }, { on := 28, ground := Go.Ground.phase }, { on := 29, ground := Go.Ground.phase }, { on := 30, ground := Go.Ground.phase }, { on := 31, ground := Go.Ground.phase }, { on := 32, ground := Go.Ground.phase }, { on := 33, ground := Go.Ground.phase }, { on := 34, ground := Go.Ground.phase }, { on := 35, ground := Go.Ground.phase }, { on := 36, ground := Go.Ground.phase }, { on := 37, ground := Go.Ground.phase }, { on := 38, ground := Go.Ground.phase }, { on := 39, ground := Go.Ground.phase }, { on := 40, ground := Go.Ground.phase }, { on := 41, ground := Go.Ground.phase }, { on := 42, ground := Go.Ground.phase }, { on := 43, ground := Go.Ground.phase }, { on := 44, ground := Go.Ground.phase }, { on := 45, ground := Go.Ground.phase }, { on := 46, ground := Go.Ground.phase }, { on := 47, ground := Go.Ground.phase }, { on := 48, ground := Go.Ground.phase }, { on := 49, ground := Go.Ground.phase }, { on := 50, ground := Go.Ground.phase }], guard := none }) (v := ?_) rfl (by kernel_rfl) (by kernel_rfl) (by kernel_rfl) (fun _ _ _ h => h) (Or.inl ⟨by rfl, ?_⟩) (by assumption) ?_
    rotate_left 1
    · (intro w hSw; (try dsimp only at hSw); go_simp; try with_reducible rfl)
    (try simp only [Act.put, List.setIfInBounds_toArray, List.set_cons_zero, List.set_cons_succ])
    refine wpAnyH_done (by kernel_rfl) ?_ _
    clear hHeld
    have BB : Below w.heap.size w o10 := btrans (btrans (btrans (btrans (btrans (btrans (btrans (btrans (btrans (btrans (qd B0) b1) b2) b3) b4) b5) b6) b7) b8) b9) b10
    go_wp2
    go_ret
    exact ⟨by rw [hJ.out, ← cat11]; rfl, BB⟩
  · have hx0' : (⟨#[119, 97, 110]⟩ : ByteArray) = x0 := hx0.out
    clear hx0 r0 r1
    go_enter Tryd.func11, Tryd.ntmps11
    go_upto_region 2 with fail
    have b0 := balloc (.cells #[.int .i64 2, .int .i64 k, .int .i64 f, .int .i64 t, .int .i64 s, .int .i64 q, .int .i64 x, .int .i64 y, .int .i64 z, .int .i64 e, (.slice a len cap)] 32) (Below.refl w.heap.size w)
    have p0 : (w.alloc (.cells #[.int .i64 2, .int .i64 k, .int .i64 f, .int .i64 t, .int .i64 s, .int .i64 q, .int .i64 x, .int .i64 y, .int .i64 z, .int .i64 e, (.slice a len cap)] 32)).heap[w.heap.size]? = some (.cells #[.int .i64 2, .int .i64 k, .int .i64 f, .int .i64 t, .int .i64 s, .int .i64 q, .int .i64 x, .int .i64 y, .int .i64 z, .int .i64 e, (.slice a len cap)] 32 (0, 0)) := heap_alloc_new _ _
    have gA := h.below b0
    have c0 := cell_block (o := 0) (v := .int .i64 2) p0 rfl
    have c1 := cell_block (o := 1) (v := .int .i64 k) p0 rfl
    have c2 := cell_block (o := 2) (v := .int .i64 f) p0 rfl
    have c3 := cell_block (o := 3) (v := .int .i64 t) p0 rfl
    have c4 := cell_block (o := 4) (v := .int .i64 s) p0 rfl
    have c5 := cell_block (o := 5) (v := .int .i64 q) p0 rfl
    have c6 := cell_block (o := 6) (v := .int .i64 x) p0 rfl
    have c7 := cell_block (o := 7) (v := .int .i64 y) p0 rfl
    have c8 := cell_block (o := 8) (v := .int .i64 z) p0 rfl
    have c9 := cell_block (o := 9) (v := .int .i64 e) p0 rfl
    have c10 := cell_block (o := 10) (v := .slice a len cap) p0 rfl
    generalize w.alloc (.cells #[.int .i64 2, .int .i64 k, .int .i64 f, .int .i64 t, .int .i64 s, .int .i64 q, .int .i64 x, .int .i64 y, .int .i64 z, .int .i64 e, (.slice a len cap)] 32) = V at *
    clear p0
    have sA : w.heap.size < V.heap.size := World.block_lt_of_cell? V _ c0
    go_upto_region 5 with fail
    have b1 := balloc (.cells #[.int .i64 x, .int .i64 y, .int .i64 z, .int .i64 e] 29) (Below.refl V.heap.size V)
    have q0 : (V.alloc (.cells #[.int .i64 x, .int .i64 y, .int .i64 z, .int .i64 e] 29)).heap[V.heap.size]? = some (.cells #[.int .i64 x, .int .i64 y, .int .i64 z, .int .i64 e] 29 (0, 0)) := heap_alloc_new _ _
    have gB := gA.below b1
    have B0 : Below w.heap.size w (V.alloc (.cells #[.int .i64 x, .int .i64 y, .int .i64 z, .int .i64 e] 29)) := btrans b0 b1
    have e1 := keep_below b1 c1
    have e2 := keep_below b1 c2
    have e3 := keep_below b1 c3
    have e4 := keep_below b1 c4
    have e5 := keep_below b1 c5
    have e10 := keep_below b1 c10
    have d0 := cell_block (o := 0) (v := .int .i64 x) q0 rfl
    have d1 := cell_block (o := 1) (v := .int .i64 y) q0 rfl
    have d2 := cell_block (o := 2) (v := .int .i64 z) q0 rfl
    have d3 := cell_block (o := 3) (v := .int .i64 e) q0 rfl
    clear b1 q0 gA b0 sA c0 c1 c2 c3 c4 c5 c6 c7 c8 c9 c10
    generalize hvs : V.heap.size = vs at *
    generalize V.alloc (.cells #[.int .i64 x, .int .i64 y, .int .i64 z, .int .i64 e] 29) = U at *
    clear hvs
    rw [hx0']
    clear hx0'
    have g0 : FSl U.drew a len F := gB.below (qd (Below.refl _ _))
    refine wp_region_held_drew (S := fun w' => w'.cell? ⟨w.heap.size, 1, none⟩ = some (.int .i64 k) ∧ w'.cell? ⟨w.heap.size, 2, none⟩ = some (.int .i64 f) ∧ w'.cell? ⟨w.heap.size, 3, none⟩ = some (.int .i64 t) ∧ w'.cell? ⟨w.heap.size, 4, none⟩ = some (.int .i64 s) ∧ w'.cell? ⟨w.heap.size, 5, none⟩ = some (.int .i64 q) ∧ w'.cell? ⟨w.heap.size, 10, none⟩ = some (.slice a len cap) ∧ w'.cell? ⟨vs, 0, none⟩ = some (.int .i64 x) ∧ w'.cell? ⟨vs, 1, none⟩ = some (.int .i64 y) ∧ w'.cell? ⟨vs, 2, none⟩ = some (.int .i64 z) ∧ w'.cell? ⟨vs, 3, none⟩ = some (.int .i64 e)) (by kernel_rfl) ?_ (fun hHeld => ?_)
    · (try dsimp only); (refine ⟨?_, ?_, ?_, ?_, ?_, ?_, ?_, ?_, ?_, ?_⟩ <;> (repeat (first | with_reducible assumption | with_reducible refine keep_drew ?_ | with_reducible refine keep_alloc _ ?_ | with_reducible refine keep_below (by assumption) ?_)))
    refine wpAnyH_take (i := 0) (oi := { dst := some 10, op := Go.Op.move (Go.Operand.tmp 3), type := 9, pos := "l4_word.go:92", after := #[], guard := none }) (v := ?_) rfl (by kernel_rfl) (by kernel_rfl) (by kernel_rfl) (fun _ _ _ h => h) (Or.inl ⟨by rfl, ?_⟩) (by assumption) ?_
    rotate_left 1
    · (intro w hSw; (try dsimp only at hSw); go_simp; try with_reducible rfl)
    (try simp only [Act.put, List.setIfInBounds_toArray, List.set_cons_zero, List.set_cons_succ])
    refine wpAnyH_take (i := 1) (oi := { dst := some 11, op := Go.Op.binOp Go.BinOp.add 9 (Go.Operand.tmp 10) (Go.Operand.const (Go.Value.string { data := #[32] })) 9, type := 9, pos := "l4_word.go:92", after := #[{ on := 0, ground := Go.Ground.data }], guard := none }) (v := ?_) rfl (by kernel_rfl) (by kernel_rfl) (by kernel_rfl) (fun _ _ _ h => h) (Or.inl ⟨by rfl, ?_⟩) (by assumption) ?_
    rotate_left 1
    · (intro w hSw; (try dsimp only at hSw); go_simp; try with_reducible rfl)
    (try simp only [Act.put, List.setIfInBounds_toArray, List.set_cons_zero, List.set_cons_succ])
    refine wpAnyH_take (i := 2) (oi := { dst := some 12, op := Go.Op.fieldAddr 32 (Go.Operand.tmp 1) 1, type := 0, pos := "l4_word.go:92", after := #[], guard := none }) (v := ?_) rfl (by kernel_rfl) (by kernel_rfl) (by kernel_rfl) (fun _ _ _ h => h) (Or.inl ⟨by rfl, ?_⟩) (by assumption) ?_
    rotate_left 1
    · (intro w hSw; (try dsimp only at hSw); go_simp; try with_reducible rfl)
    (try simp only [Act.put, List.setIfInBounds_toArray, List.set_cons_zero, List.set_cons_succ])
    refine wpAnyH_take (i := 3) (oi := { dst := some 13, op := Go.Op.load 3 (Go.Operand.tmp 12), type := 3, pos := "l4_word.go:92", after := #[{ on := 2, ground := Go.Ground.data }], guard := none }) (v := ?_) rfl (by kernel_rfl) (by kernel_rfl) (by kernel_rfl) (fun _ _ _ h => h) (Or.inl ⟨by rfl, ?_⟩) (by assumption) ?_
    rotate_left 1
    · (intro w hSw; (try dsimp only at hSw); go_simp; try with_reducible rfl)
    (try simp only [Act.put, List.setIfInBounds_toArray, List.set_cons_zero, List.set_cons_succ])
    refine wpAnyH_take (i := 7) (oi := { dst := some 17, op := Go.Op.fieldAddr 32 (Go.Operand.tmp 1) 2, type := 0, pos := "l4_word.go:92", after := #[], guard := none }) (v := ?_) rfl (by kernel_rfl) (by kernel_rfl) (by kernel_rfl) (fun _ _ _ h => h) (Or.inl ⟨by rfl, ?_⟩) (by assumption) ?_
    rotate_left 1
    · (intro w hSw; (try dsimp only at hSw); go_simp; try with_reducible rfl)
    (try simp only [Act.put, List.setIfInBounds_toArray, List.set_cons_zero, List.set_cons_succ])
    refine wpAnyH_take (i := 8) (oi := { dst := some 18, op := Go.Op.load 3 (Go.Operand.tmp 17), type := 3, pos := "l4_word.go:92", after := #[{ on := 7, ground := Go.Ground.data }], guard := none }) (v := ?_) rfl (by kernel_rfl) (by kernel_rfl) (by kernel_rfl) (fun _ _ _ h => h) (Or.inl ⟨by rfl, ?_⟩) (by assumption) ?_
    rotate_left 1
    · (intro w hSw; (try dsimp only at hSw); go_simp; try with_reducible rfl)
    (try simp only [Act.put, List.setIfInBounds_toArray, List.set_cons_zero, List.set_cons_succ])
    refine wpAnyH_take (i := 12) (oi := { dst := some 22, op := Go.Op.fieldAddr 32 (Go.Operand.tmp 1) 3, type := 0, pos := "l4_word.go:92", after := #[], guard := none }) (v := ?_) rfl (by kernel_rfl) (by kernel_rfl) (by kernel_rfl) (fun _ _ _ h => h) (Or.inl ⟨by rfl, ?_⟩) (by assumption) ?_
    rotate_left 1
    · (intro w hSw; (try dsimp only at hSw); go_simp; try with_reducible rfl)
    (try simp only [Act.put, List.setIfInBounds_toArray, List.set_cons_zero, List.set_cons_succ])
    refine wpAnyH_take (i := 13) (oi := { dst := some 23, op := Go.Op.load 3 (Go.Operand.tmp 22), type := 3, pos := "l4_word.go:92", after := #[{ on := 12, ground := Go.Ground.data }], guard := none }) (v := ?_) rfl (by kernel_rfl) (by kernel_rfl) (by kernel_rfl) (fun _ _ _ h => h) (Or.inl ⟨by rfl, ?_⟩) (by assumption) ?_
    rotate_left 1
    · (intro w hSw; (try dsimp only at hSw); go_simp; try with_reducible rfl)
    (try simp only [Act.put, List.setIfInBounds_toArray, List.set_cons_zero, List.set_cons_succ])
    refine wpAnyH_take (i := 17) (oi := { dst := some 27, op := Go.Op.fieldAddr 32 (Go.Operand.tmp 1) 4, type := 0, pos := "l4_word.go:92", after := #[], guard := none }) (v := ?_) rfl (by kernel_rfl) (by kernel_rfl) (by kernel_rfl) (fun _ _ _ h => h) (Or.inl ⟨by rfl, ?_⟩) (by assumption) ?_
    rotate_left 1
    · (intro w hSw; (try dsimp only at hSw); go_simp; try with_reducible rfl)
    (try simp only [Act.put, List.setIfInBounds_toArray, List.set_cons_zero, List.set_cons_succ])
    refine wpAnyH_take (i := 18) (oi := { dst := some 28, op := Go.Op.load 3 (Go.Operand.tmp 27), type := 3, pos := "l4_word.go:92", after := #[{ on := 17, ground := Go.Ground.data }], guard := none }) (v := ?_) rfl (by kernel_rfl) (by kernel_rfl) (by kernel_rfl) (fun _ _ _ h => h) (Or.inl ⟨by rfl, ?_⟩) (by assumption) ?_
    rotate_left 1
    · (intro w hSw; (try dsimp only at hSw); go_simp; try with_reducible rfl)
    (try simp only [Act.put, List.setIfInBounds_toArray, List.set_cons_zero, List.set_cons_succ])
    refine wpAnyH_take (i := 22) (oi := { dst := some 32, op := Go.Op.fieldAddr 32 (Go.Operand.tmp 1) 5, type := 0, pos := "l4_word.go:92", after := #[], guard := none }) (v := ?_) rfl (by kernel_rfl) (by kernel_rfl) (by kernel_rfl) (fun _ _ _ h => h) (Or.inl ⟨by rfl, ?_⟩) (by assumption) ?_
    rotate_left 1
    · (intro w hSw; (try dsimp only at hSw); go_simp; try with_reducible rfl)
    (try simp only [Act.put, List.setIfInBounds_toArray, List.set_cons_zero, List.set_cons_succ])
    refine wpAnyH_take (i := 23) (oi := { dst := some 33, op := Go.Op.load 3 (Go.Operand.tmp 32), type := 3, pos := "l4_word.go:92", after := #[{ on := 22, ground := Go.Ground.data }], guard := none }) (v := ?_) rfl (by kernel_rfl) (by kernel_rfl) (by kernel_rfl) (fun _ _ _ h => h) (Or.inl ⟨by rfl, ?_⟩) (by assumption) ?_
    rotate_left 1
    · (intro w hSw; (try dsimp only at hSw); go_simp; try with_reducible rfl)
    (try simp only [Act.put, List.setIfInBounds_toArray, List.set_cons_zero, List.set_cons_succ])
    refine wpAnyH_take (i := 27) (oi := { dst := some 37, op := Go.Op.fieldAddr 29 (Go.Operand.tmp 4) 0, type := 0, pos := "l4_word.go:92", after := #[], guard := none }) (v := ?_) rfl (by kernel_rfl) (by kernel_rfl) (by kernel_rfl) (fun _ _ _ h => h) (Or.inl ⟨by rfl, ?_⟩) (by assumption) ?_
    rotate_left 1
    · (intro w hSw; (try dsimp only at hSw); go_simp; try with_reducible rfl)
    (try simp only [Act.put, List.setIfInBounds_toArray, List.set_cons_zero, List.set_cons_succ])
    refine wpAnyH_take (i := 28) (oi := { dst := some 38, op := Go.Op.load 3 (Go.Operand.tmp 37), type := 3, pos := "l4_word.go:92", after := #[{ on := 27, ground := Go.Ground.data }], guard := none }) (v := ?_) rfl (by kernel_rfl) (by kernel_rfl) (by kernel_rfl) (fun _ _ _ h => h) (Or.inl ⟨by rfl, ?_⟩) (by assumption) ?_
    rotate_left 1
    · (intro w hSw; (try dsimp only at hSw); go_simp; try with_reducible rfl)
    (try simp only [Act.put, List.setIfInBounds_toArray, List.set_cons_zero, List.set_cons_succ])
    refine wpAnyH_take (i := 32) (oi := { dst := some 42, op := Go.Op.fieldAddr 29 (Go.Operand.tmp 4) 1, type := 0, pos := "l4_word.go:92", after := #[], guard := none }) (v := ?_) rfl (by kernel_rfl) (by kernel_rfl) (by kernel_rfl) (fun _ _ _ h => h) (Or.inl ⟨by rfl, ?_⟩) (by assumption) ?_
    rotate_left 1
    · (intro w hSw; (try dsimp only at hSw); go_simp; try with_reducible rfl)
    (try simp only [Act.put, List.setIfInBounds_toArray, List.set_cons_zero, List.set_cons_succ])
    refine wpAnyH_take (i := 33) (oi := { dst := some 43, op := Go.Op.load 3 (Go.Operand.tmp 42), type := 3, pos := "l4_word.go:92", after := #[{ on := 32, ground := Go.Ground.data }], guard := none }) (v := ?_) rfl (by kernel_rfl) (by kernel_rfl) (by kernel_rfl) (fun _ _ _ h => h) (Or.inl ⟨by rfl, ?_⟩) (by assumption) ?_
    rotate_left 1
    · (intro w hSw; (try dsimp only at hSw); go_simp; try with_reducible rfl)
    (try simp only [Act.put, List.setIfInBounds_toArray, List.set_cons_zero, List.set_cons_succ])
    refine wpAnyH_take (i := 37) (oi := { dst := some 47, op := Go.Op.fieldAddr 29 (Go.Operand.tmp 4) 2, type := 0, pos := "l4_word.go:92", after := #[], guard := none }) (v := ?_) rfl (by kernel_rfl) (by kernel_rfl) (by kernel_rfl) (fun _ _ _ h => h) (Or.inl ⟨by rfl, ?_⟩) (by assumption) ?_
    rotate_left 1
    · (intro w hSw; (try dsimp only at hSw); go_simp; try with_reducible rfl)
    (try simp only [Act.put, List.setIfInBounds_toArray, List.set_cons_zero, List.set_cons_succ])
    refine wpAnyH_take (i := 38) (oi := { dst := some 48, op := Go.Op.load 3 (Go.Operand.tmp 47), type := 3, pos := "l4_word.go:92", after := #[{ on := 37, ground := Go.Ground.data }], guard := none }) (v := ?_) rfl (by kernel_rfl) (by kernel_rfl) (by kernel_rfl) (fun _ _ _ h => h) (Or.inl ⟨by rfl, ?_⟩) (by assumption) ?_
    rotate_left 1
    · (intro w hSw; (try dsimp only at hSw); go_simp; try with_reducible rfl)
    (try simp only [Act.put, List.setIfInBounds_toArray, List.set_cons_zero, List.set_cons_succ])
    refine wpAnyH_take (i := 42) (oi := { dst := some 52, op := Go.Op.fieldAddr 29 (Go.Operand.tmp 4) 3, type := 0, pos := "l4_word.go:92", after := #[], guard := none }) (v := ?_) rfl (by kernel_rfl) (by kernel_rfl) (by kernel_rfl) (fun _ _ _ h => h) (Or.inl ⟨by rfl, ?_⟩) (by assumption) ?_
    rotate_left 1
    · (intro w hSw; (try dsimp only at hSw); go_simp; try with_reducible rfl)
    (try simp only [Act.put, List.setIfInBounds_toArray, List.set_cons_zero, List.set_cons_succ])
    refine wpAnyH_take (i := 43) (oi := { dst := some 53, op := Go.Op.load 3 (Go.Operand.tmp 52), type := 3, pos := "l4_word.go:92", after := #[{ on := 42, ground := Go.Ground.data }], guard := none }) (v := ?_) rfl (by kernel_rfl) (by kernel_rfl) (by kernel_rfl) (fun _ _ _ h => h) (Or.inl ⟨by rfl, ?_⟩) (by assumption) ?_
    rotate_left 1
    · (intro w hSw; (try dsimp only at hSw); go_simp; try with_reducible rfl)
    (try simp only [Act.put, List.setIfInBounds_toArray, List.set_cons_zero, List.set_cons_succ])
    refine wpAnyH_take (i := 47) (oi := { dst := some 57, op := Go.Op.fieldAddr 32 (Go.Operand.tmp 1) 7, type := 0, pos := "l4_word.go:92", after := #[], guard := none }) (v := ?_) rfl (by kernel_rfl) (by kernel_rfl) (by kernel_rfl) (fun _ _ _ h => h) (Or.inl ⟨by rfl, ?_⟩) (by assumption) ?_
    rotate_left 1
    · (intro w hSw; (try dsimp only at hSw); go_simp; try with_reducible rfl)
    (try simp only [Act.put, List.setIfInBounds_toArray, List.set_cons_zero, List.set_cons_succ])
    refine wpAnyH_take (i := 48) (oi := { dst := some 58, op := Go.Op.load 30 (Go.Operand.tmp 57), type := 30, pos := "l4_word.go:92", after := #[{ on := 47, ground := Go.Ground.data }], guard := none }) (v := ?_) rfl (by kernel_rfl) (by kernel_rfl) (by kernel_rfl) (fun _ _ _ h => h) (Or.inl ⟨by rfl, ?_⟩) (by assumption) ?_
    rotate_left 1
    · (intro w hSw; (try dsimp only at hSw); go_simp; try with_reducible rfl)
    (try simp only [Act.put, List.setIfInBounds_toArray, List.set_cons_zero, List.set_cons_succ])
    refine wpAnyH_ready (rs := [4]) (by kernel_rfl) (by simp) ?_
    refine AllReadyH.cons (o := { dst := some 14, op := Go.Op.call { callee := Go.Callee.value (Go.Operand.func 30), args := #[Go.Operand.tmp 13], argTypes := #[3] }, type := 9, pos := "l4_word.go:92", after := #[{ on := 3, ground := Go.Ground.data }], guard := none }) rfl (fun K hK => ?_) AllReadyH.nil
    go_simp
    refine (lkind_lit k _ (by omega) (by omega) hx1.out _).mono ?_; rintro r o1 ⟨rfl, b1⟩; have g1 := g0.below b1
    go_wp2_with fail
    refine hK.out _ _ ?_ (fun hHeld => ?_)
    · (try dsimp only); (refine ⟨?_, ?_, ?_, ?_, ?_, ?_, ?_, ?_, ?_, ?_⟩ <;> (repeat (first | with_reducible assumption | with_reducible refine keep_drew ?_ | with_reducible refine keep_alloc _ ?_ | with_reducible refine keep_below (by assumption) ?_)))
    clear hK K
    (try simp only [Act.put, List.setIfInBounds_toArray, List.set_cons_zero, List.set_cons_succ])
    refine wpAnyH_take (i := 5) (oi := { dst := some 15, op := Go.Op.binOp Go.BinOp.add 9 (Go.Operand.tmp 11) (Go.Operand.tmp 14) 9, type := 9, pos := "l4_word.go:92", after := #[{ on := 1, ground := Go.Ground.data }, { on := 4, ground := Go.Ground.data }], guard := none }) (v := ?_) rfl (by kernel_rfl) (by kernel_rfl) (by kernel_rfl) (fun _ _ _ h => h) (Or.inl ⟨by rfl, ?_⟩) (by assumption) ?_
    rotate_left 1
    · (intro w hSw; (try dsimp only at hSw); go_simp; try with_reducible rfl)
    (try simp only [Act.put, List.setIfInBounds_toArray, List.set_cons_zero, List.set_cons_succ])
    refine wpAnyH_take (i := 6) (oi := { dst := some 16, op := Go.Op.binOp Go.BinOp.add 9 (Go.Operand.tmp 15) (Go.Operand.const (Go.Value.string { data := #[32] })) 9, type := 9, pos := "l4_word.go:92", after := #[{ on := 5, ground := Go.Ground.data }], guard := none }) (v := ?_) rfl (by kernel_rfl) (by kernel_rfl) (by kernel_rfl) (fun _ _ _ h => h) (Or.inl ⟨by rfl, ?_⟩) (by assumption) ?_
    rotate_left 1
    · (intro w hSw; (try dsimp only at hSw); go_simp; try with_reducible rfl)
    (try simp only [Act.put, List.setIfInBounds_toArray, List.set_cons_zero, List.set_cons_succ])
    refine wpAnyH_ready (rs := [9]) (by kernel_rfl) (by simp) ?_
    refine AllReadyH.cons (o := { dst := some 19, op := Go.Op.call { callee := Go.Callee.value (Go.Operand.func 31), args := #[Go.Operand.tmp 18], argTypes := #[3] }, type := 9, pos := "l4_word.go:92", after := #[{ on := 8, ground := Go.Ground.data }, { on := 4, ground := Go.Ground.chain }], guard := none }) rfl (fun K hK => ?_) AllReadyH.nil
    go_simp
    refine (ldec_lit f _ (by omega) (by omega) hx2.out _).mono ?_; rintro r o2 ⟨rfl, b2⟩; have g2 := g1.below b2
    go_wp2_with fail
    refine hK.out _ _ ?_ (fun hHeld => ?_)
    · (try dsimp only); (refine ⟨?_, ?_, ?_, ?_, ?_, ?_, ?_, ?_, ?_, ?_⟩ <;> (repeat (first | with_reducible assumption | with_reducible refine keep_drew ?_ | with_reducible refine keep_alloc _ ?_ | with_reducible refine keep_below (by assumption) ?_)))
    clear hK K
    (try simp only [Act.put, List.setIfInBounds_toArray, List.set_cons_zero, List.set_cons_succ])
    refine wpAnyH_take (i := 10) (oi := { dst := some 20, op := Go.Op.binOp Go.BinOp.add 9 (Go.Operand.tmp 16) (Go.Operand.tmp 19) 9, type := 9, pos := "l4_word.go:92", after := #[{ on := 6, ground := Go.Ground.data }, { on := 9, ground := Go.Ground.data }], guard := none }) (v := ?_) rfl (by kernel_rfl) (by kernel_rfl) (by kernel_rfl) (fun _ _ _ h => h) (Or.inl ⟨by rfl, ?_⟩) (by assumption) ?_
    rotate_left 1
    · (intro w hSw; (try dsimp only at hSw); go_simp; try with_reducible rfl)
    (try simp only [Act.put, List.setIfInBounds_toArray, List.set_cons_zero, List.set_cons_succ])
    refine wpAnyH_take (i := 11) (oi := { dst := some 21, op := Go.Op.binOp Go.BinOp.add 9 (Go.Operand.tmp 20) (Go.Operand.const (Go.Value.string { data := #[32] })) 9, type := 9, pos := "l4_word.go:92", after := #[{ on := 10, ground := Go.Ground.data }], guard := none }) (v := ?_) rfl (by kernel_rfl) (by kernel_rfl) (by kernel_rfl) (fun _ _ _ h => h) (Or.inl ⟨by rfl, ?_⟩) (by assumption) ?_
    rotate_left 1
    · (intro w hSw; (try dsimp only at hSw); go_simp; try with_reducible rfl)
    (try simp only [Act.put, List.setIfInBounds_toArray, List.set_cons_zero, List.set_cons_succ])
    refine wpAnyH_ready (rs := [14]) (by kernel_rfl) (by simp) ?_
    refine AllReadyH.cons (o := { dst := some 24, op := Go.Op.call { callee := Go.Callee.value (Go.Operand.func 31), args := #[Go.Operand.tmp 23], argTypes := #[3] }, type := 9, pos := "l4_word.go:92", after := #[{ on := 13, ground := Go.Ground.data }, { on := 9, ground := Go.Ground.chain }], guard := none }) rfl (fun K hK => ?_) AllReadyH.nil
    go_simp
    refine (ldec_lit t _ (by omega) (by omega) hx3.out _).mono ?_; rintro r o3 ⟨rfl, b3⟩; have g3 := g2.below b3
    go_wp2_with fail
    refine hK.out _ _ ?_ (fun hHeld => ?_)
    · (try dsimp only); (refine ⟨?_, ?_, ?_, ?_, ?_, ?_, ?_, ?_, ?_, ?_⟩ <;> (repeat (first | with_reducible assumption | with_reducible refine keep_drew ?_ | with_reducible refine keep_alloc _ ?_ | with_reducible refine keep_below (by assumption) ?_)))
    clear hK K
    (try simp only [Act.put, List.setIfInBounds_toArray, List.set_cons_zero, List.set_cons_succ])
    refine wpAnyH_take (i := 15) (oi := { dst := some 25, op := Go.Op.binOp Go.BinOp.add 9 (Go.Operand.tmp 21) (Go.Operand.tmp 24) 9, type := 9, pos := "l4_word.go:92", after := #[{ on := 11, ground := Go.Ground.data }, { on := 14, ground := Go.Ground.data }], guard := none }) (v := ?_) rfl (by kernel_rfl) (by kernel_rfl) (by kernel_rfl) (fun _ _ _ h => h) (Or.inl ⟨by rfl, ?_⟩) (by assumption) ?_
    rotate_left 1
    · (intro w hSw; (try dsimp only at hSw); go_simp; try with_reducible rfl)
    (try simp only [Act.put, List.setIfInBounds_toArray, List.set_cons_zero, List.set_cons_succ])
    refine wpAnyH_take (i := 16) (oi := { dst := some 26, op := Go.Op.binOp Go.BinOp.add 9 (Go.Operand.tmp 25) (Go.Operand.const (Go.Value.string { data := #[32] })) 9, type := 9, pos := "l4_word.go:92", after := #[{ on := 15, ground := Go.Ground.data }], guard := none }) (v := ?_) rfl (by kernel_rfl) (by kernel_rfl) (by kernel_rfl) (fun _ _ _ h => h) (Or.inl ⟨by rfl, ?_⟩) (by assumption) ?_
    rotate_left 1
    · (intro w hSw; (try dsimp only at hSw); go_simp; try with_reducible rfl)
    (try simp only [Act.put, List.setIfInBounds_toArray, List.set_cons_zero, List.set_cons_succ])
    refine wpAnyH_ready (rs := [19]) (by kernel_rfl) (by simp) ?_
    refine AllReadyH.cons (o := { dst := some 29, op := Go.Op.call { callee := Go.Callee.value (Go.Operand.func 31), args := #[Go.Operand.tmp 28], argTypes := #[3] }, type := 9, pos := "l4_word.go:92", after := #[{ on := 18, ground := Go.Ground.data }, { on := 14, ground := Go.Ground.chain }], guard := none }) rfl (fun K hK => ?_) AllReadyH.nil
    go_simp
    refine (ldec_lit s _ (by omega) (by omega) hx4.out _).mono ?_; rintro r o4 ⟨rfl, b4⟩; have g4 := g3.below b4
    go_wp2_with fail
    refine hK.out _ _ ?_ (fun hHeld => ?_)
    · (try dsimp only); (refine ⟨?_, ?_, ?_, ?_, ?_, ?_, ?_, ?_, ?_, ?_⟩ <;> (repeat (first | with_reducible assumption | with_reducible refine keep_drew ?_ | with_reducible refine keep_alloc _ ?_ | with_reducible refine keep_below (by assumption) ?_)))
    clear hK K
    (try simp only [Act.put, List.setIfInBounds_toArray, List.set_cons_zero, List.set_cons_succ])
    refine wpAnyH_take (i := 20) (oi := { dst := some 30, op := Go.Op.binOp Go.BinOp.add 9 (Go.Operand.tmp 26) (Go.Operand.tmp 29) 9, type := 9, pos := "l4_word.go:92", after := #[{ on := 16, ground := Go.Ground.data }, { on := 19, ground := Go.Ground.data }], guard := none }) (v := ?_) rfl (by kernel_rfl) (by kernel_rfl) (by kernel_rfl) (fun _ _ _ h => h) (Or.inl ⟨by rfl, ?_⟩) (by assumption) ?_
    rotate_left 1
    · (intro w hSw; (try dsimp only at hSw); go_simp; try with_reducible rfl)
    (try simp only [Act.put, List.setIfInBounds_toArray, List.set_cons_zero, List.set_cons_succ])
    refine wpAnyH_take (i := 21) (oi := { dst := some 31, op := Go.Op.binOp Go.BinOp.add 9 (Go.Operand.tmp 30) (Go.Operand.const (Go.Value.string { data := #[32] })) 9, type := 9, pos := "l4_word.go:92", after := #[{ on := 20, ground := Go.Ground.data }], guard := none }) (v := ?_) rfl (by kernel_rfl) (by kernel_rfl) (by kernel_rfl) (fun _ _ _ h => h) (Or.inl ⟨by rfl, ?_⟩) (by assumption) ?_
    rotate_left 1
    · (intro w hSw; (try dsimp only at hSw); go_simp; try with_reducible rfl)
    (try simp only [Act.put, List.setIfInBounds_toArray, List.set_cons_zero, List.set_cons_succ])
    refine wpAnyH_ready (rs := [24]) (by kernel_rfl) (by simp) ?_
    refine AllReadyH.cons (o := { dst := some 34, op := Go.Op.call { callee := Go.Callee.value (Go.Operand.func 31), args := #[Go.Operand.tmp 33], argTypes := #[3] }, type := 9, pos := "l4_word.go:92", after := #[{ on := 23, ground := Go.Ground.data }, { on := 19, ground := Go.Ground.chain }], guard := none }) rfl (fun K hK => ?_) AllReadyH.nil
    go_simp
    refine (ldec_lit q _ (by omega) (by omega) hx5.out _).mono ?_; rintro r o5 ⟨rfl, b5⟩; have g5 := g4.below b5
    go_wp2_with fail
    refine hK.out _ _ ?_ (fun hHeld => ?_)
    · (try dsimp only); (refine ⟨?_, ?_, ?_, ?_, ?_, ?_, ?_, ?_, ?_, ?_⟩ <;> (repeat (first | with_reducible assumption | with_reducible refine keep_drew ?_ | with_reducible refine keep_alloc _ ?_ | with_reducible refine keep_below (by assumption) ?_)))
    clear hK K
    (try simp only [Act.put, List.setIfInBounds_toArray, List.set_cons_zero, List.set_cons_succ])
    refine wpAnyH_take (i := 25) (oi := { dst := some 35, op := Go.Op.binOp Go.BinOp.add 9 (Go.Operand.tmp 31) (Go.Operand.tmp 34) 9, type := 9, pos := "l4_word.go:92", after := #[{ on := 21, ground := Go.Ground.data }, { on := 24, ground := Go.Ground.data }], guard := none }) (v := ?_) rfl (by kernel_rfl) (by kernel_rfl) (by kernel_rfl) (fun _ _ _ h => h) (Or.inl ⟨by rfl, ?_⟩) (by assumption) ?_
    rotate_left 1
    · (intro w hSw; (try dsimp only at hSw); go_simp; try with_reducible rfl)
    (try simp only [Act.put, List.setIfInBounds_toArray, List.set_cons_zero, List.set_cons_succ])
    refine wpAnyH_take (i := 26) (oi := { dst := some 36, op := Go.Op.binOp Go.BinOp.add 9 (Go.Operand.tmp 35) (Go.Operand.const (Go.Value.string { data := #[32] })) 9, type := 9, pos := "l4_word.go:92", after := #[{ on := 25, ground := Go.Ground.data }], guard := none }) (v := ?_) rfl (by kernel_rfl) (by kernel_rfl) (by kernel_rfl) (fun _ _ _ h => h) (Or.inl ⟨by rfl, ?_⟩) (by assumption) ?_
    rotate_left 1
    · (intro w hSw; (try dsimp only at hSw); go_simp; try with_reducible rfl)
    (try simp only [Act.put, List.setIfInBounds_toArray, List.set_cons_zero, List.set_cons_succ])
    refine wpAnyH_ready (rs := [29]) (by kernel_rfl) (by simp) ?_
    refine AllReadyH.cons (o := { dst := some 39, op := Go.Op.call { callee := Go.Callee.value (Go.Operand.func 32), args := #[Go.Operand.tmp 38], argTypes := #[3] }, type := 9, pos := "l4_word.go:92", after := #[{ on := 28, ground := Go.Ground.data }, { on := 24, ground := Go.Ground.chain }], guard := none }) rfl (fun K hK => ?_) AllReadyH.nil
    go_simp
    refine (lsgn_lit x _ (by omega) (by omega) hx6.out _).mono ?_; rintro r o6 ⟨rfl, b6⟩; have g6 := g5.below b6
    go_wp2_with fail
    refine hK.out _ _ ?_ (fun hHeld => ?_)
    · (try dsimp only); (refine ⟨?_, ?_, ?_, ?_, ?_, ?_, ?_, ?_, ?_, ?_⟩ <;> (repeat (first | with_reducible assumption | with_reducible refine keep_drew ?_ | with_reducible refine keep_alloc _ ?_ | with_reducible refine keep_below (by assumption) ?_)))
    clear hK K
    (try simp only [Act.put, List.setIfInBounds_toArray, List.set_cons_zero, List.set_cons_succ])
    refine wpAnyH_take (i := 30) (oi := { dst := some 40, op := Go.Op.binOp Go.BinOp.add 9 (Go.Operand.tmp 36) (Go.Operand.tmp 39) 9, type := 9, pos := "l4_word.go:92", after := #[{ on := 26, ground := Go.Ground.data }, { on := 29, ground := Go.Ground.data }], guard := none }) (v := ?_) rfl (by kernel_rfl) (by kernel_rfl) (by kernel_rfl) (fun _ _ _ h => h) (Or.inl ⟨by rfl, ?_⟩) (by assumption) ?_
    rotate_left 1
    · (intro w hSw; (try dsimp only at hSw); go_simp; try with_reducible rfl)
    (try simp only [Act.put, List.setIfInBounds_toArray, List.set_cons_zero, List.set_cons_succ])
    refine wpAnyH_take (i := 31) (oi := { dst := some 41, op := Go.Op.binOp Go.BinOp.add 9 (Go.Operand.tmp 40) (Go.Operand.const (Go.Value.string { data := #[32] })) 9, type := 9, pos := "l4_word.go:92", after := #[{ on := 30, ground := Go.Ground.data }], guard := none }) (v := ?_) rfl (by kernel_rfl) (by kernel_rfl) (by kernel_rfl) (fun _ _ _ h => h) (Or.inl ⟨by rfl, ?_⟩) (by assumption) ?_
    rotate_left 1
    · (intro w hSw; (try dsimp only at hSw); go_simp; try with_reducible rfl)
    (try simp only [Act.put, List.setIfInBounds_toArray, List.set_cons_zero, List.set_cons_succ])
    refine wpAnyH_ready (rs := [34]) (by kernel_rfl) (by simp) ?_
    refine AllReadyH.cons (o := { dst := some 44, op := Go.Op.call { callee := Go.Callee.value (Go.Operand.func 32), args := #[Go.Operand.tmp 43], argTypes := #[3] }, type := 9, pos := "l4_word.go:92", after := #[{ on := 33, ground := Go.Ground.data }, { on := 29, ground := Go.Ground.chain }], guard := none }) rfl (fun K hK => ?_) AllReadyH.nil
    go_simp
    refine (lsgn_lit y _ (by omega) (by omega) hx7.out _).mono ?_; rintro r o7 ⟨rfl, b7⟩; have g7 := g6.below b7
    go_wp2_with fail
    refine hK.out _ _ ?_ (fun hHeld => ?_)
    · (try dsimp only); (refine ⟨?_, ?_, ?_, ?_, ?_, ?_, ?_, ?_, ?_, ?_⟩ <;> (repeat (first | with_reducible assumption | with_reducible refine keep_drew ?_ | with_reducible refine keep_alloc _ ?_ | with_reducible refine keep_below (by assumption) ?_)))
    clear hK K
    (try simp only [Act.put, List.setIfInBounds_toArray, List.set_cons_zero, List.set_cons_succ])
    refine wpAnyH_take (i := 35) (oi := { dst := some 45, op := Go.Op.binOp Go.BinOp.add 9 (Go.Operand.tmp 41) (Go.Operand.tmp 44) 9, type := 9, pos := "l4_word.go:92", after := #[{ on := 31, ground := Go.Ground.data }, { on := 34, ground := Go.Ground.data }], guard := none }) (v := ?_) rfl (by kernel_rfl) (by kernel_rfl) (by kernel_rfl) (fun _ _ _ h => h) (Or.inl ⟨by rfl, ?_⟩) (by assumption) ?_
    rotate_left 1
    · (intro w hSw; (try dsimp only at hSw); go_simp; try with_reducible rfl)
    (try simp only [Act.put, List.setIfInBounds_toArray, List.set_cons_zero, List.set_cons_succ])
    refine wpAnyH_take (i := 36) (oi := { dst := some 46, op := Go.Op.binOp Go.BinOp.add 9 (Go.Operand.tmp 45) (Go.Operand.const (Go.Value.string { data := #[32] })) 9, type := 9, pos := "l4_word.go:92", after := #[{ on := 35, ground := Go.Ground.data }], guard := none }) (v := ?_) rfl (by kernel_rfl) (by kernel_rfl) (by kernel_rfl) (fun _ _ _ h => h) (Or.inl ⟨by rfl, ?_⟩) (by assumption) ?_
    rotate_left 1
    · (intro w hSw; (try dsimp only at hSw); go_simp; try with_reducible rfl)
    (try simp only [Act.put, List.setIfInBounds_toArray, List.set_cons_zero, List.set_cons_succ])
    refine wpAnyH_ready (rs := [39]) (by kernel_rfl) (by simp) ?_
    refine AllReadyH.cons (o := { dst := some 49, op := Go.Op.call { callee := Go.Callee.value (Go.Operand.func 31), args := #[Go.Operand.tmp 48], argTypes := #[3] }, type := 9, pos := "l4_word.go:92", after := #[{ on := 38, ground := Go.Ground.data }, { on := 34, ground := Go.Ground.chain }], guard := none }) rfl (fun K hK => ?_) AllReadyH.nil
    go_simp
    refine (ldec_lit z _ (by omega) (by omega) hx8.out _).mono ?_; rintro r o8 ⟨rfl, b8⟩; have g8 := g7.below b8
    go_wp2_with fail
    refine hK.out _ _ ?_ (fun hHeld => ?_)
    · (try dsimp only); (refine ⟨?_, ?_, ?_, ?_, ?_, ?_, ?_, ?_, ?_, ?_⟩ <;> (repeat (first | with_reducible assumption | with_reducible refine keep_drew ?_ | with_reducible refine keep_alloc _ ?_ | with_reducible refine keep_below (by assumption) ?_)))
    clear hK K
    (try simp only [Act.put, List.setIfInBounds_toArray, List.set_cons_zero, List.set_cons_succ])
    refine wpAnyH_take (i := 40) (oi := { dst := some 50, op := Go.Op.binOp Go.BinOp.add 9 (Go.Operand.tmp 46) (Go.Operand.tmp 49) 9, type := 9, pos := "l4_word.go:92", after := #[{ on := 36, ground := Go.Ground.data }, { on := 39, ground := Go.Ground.data }], guard := none }) (v := ?_) rfl (by kernel_rfl) (by kernel_rfl) (by kernel_rfl) (fun _ _ _ h => h) (Or.inl ⟨by rfl, ?_⟩) (by assumption) ?_
    rotate_left 1
    · (intro w hSw; (try dsimp only at hSw); go_simp; try with_reducible rfl)
    (try simp only [Act.put, List.setIfInBounds_toArray, List.set_cons_zero, List.set_cons_succ])
    refine wpAnyH_take (i := 41) (oi := { dst := some 51, op := Go.Op.binOp Go.BinOp.add 9 (Go.Operand.tmp 50) (Go.Operand.const (Go.Value.string { data := #[32] })) 9, type := 9, pos := "l4_word.go:92", after := #[{ on := 40, ground := Go.Ground.data }], guard := none }) (v := ?_) rfl (by kernel_rfl) (by kernel_rfl) (by kernel_rfl) (fun _ _ _ h => h) (Or.inl ⟨by rfl, ?_⟩) (by assumption) ?_
    rotate_left 1
    · (intro w hSw; (try dsimp only at hSw); go_simp; try with_reducible rfl)
    (try simp only [Act.put, List.setIfInBounds_toArray, List.set_cons_zero, List.set_cons_succ])
    refine wpAnyH_ready (rs := [44]) (by kernel_rfl) (by simp) ?_
    refine AllReadyH.cons (o := { dst := some 54, op := Go.Op.call { callee := Go.Callee.value (Go.Operand.func 31), args := #[Go.Operand.tmp 53], argTypes := #[3] }, type := 9, pos := "l4_word.go:92", after := #[{ on := 43, ground := Go.Ground.data }, { on := 39, ground := Go.Ground.chain }], guard := none }) rfl (fun K hK => ?_) AllReadyH.nil
    go_simp
    refine (ldec_lit e _ (by omega) (by omega) hx9.out _).mono ?_; rintro r o9 ⟨rfl, b9⟩; have g9 := g8.below b9
    go_wp2_with fail
    refine hK.out _ _ ?_ (fun hHeld => ?_)
    · (try dsimp only); (refine ⟨?_, ?_, ?_, ?_, ?_, ?_, ?_, ?_, ?_, ?_⟩ <;> (repeat (first | with_reducible assumption | with_reducible refine keep_drew ?_ | with_reducible refine keep_alloc _ ?_ | with_reducible refine keep_below (by assumption) ?_)))
    clear hK K
    (try simp only [Act.put, List.setIfInBounds_toArray, List.set_cons_zero, List.set_cons_succ])
    refine wpAnyH_take (i := 45) (oi := { dst := some 55, op := Go.Op.binOp Go.BinOp.add 9 (Go.Operand.tmp 51) (Go.Operand.tmp 54) 9, type := 9, pos := "l4_word.go:92", after := #[{ on := 41, ground := Go.Ground.data }, { on := 44, ground := Go.Ground.data }], guard := none }) (v := ?_) rfl (by kernel_rfl) (by kernel_rfl) (by kernel_rfl) (fun _ _ _ h => h) (Or.inl ⟨by rfl, ?_⟩) (by assumption) ?_
    rotate_left 1
    · (intro w hSw; (try dsimp only at hSw); go_simp; try with_reducible rfl)
    (try simp only [Act.put, List.setIfInBounds_toArray, List.set_cons_zero, List.set_cons_succ])
    refine wpAnyH_take (i := 46) (oi := { dst := some 56, op := Go.Op.binOp Go.BinOp.add 9 (Go.Operand.tmp 55) (Go.Operand.const (Go.Value.string { data := #[32] })) 9, type := 9, pos := "l4_word.go:92", after := #[{ on := 45, ground := Go.Ground.data }], guard := none }) (v := ?_) rfl (by kernel_rfl) (by kernel_rfl) (by kernel_rfl) (fun _ _ _ h => h) (Or.inl ⟨by rfl, ?_⟩) (by assumption) ?_
    rotate_left 1
    · (intro w hSw; (try dsimp only at hSw); go_simp; try with_reducible rfl)
    (try simp only [Act.put, List.setIfInBounds_toArray, List.set_cons_zero, List.set_cons_succ])
    refine wpAnyH_ready (rs := [49]) (by kernel_rfl) (by simp) ?_
    refine AllReadyH.cons (o := { dst := some 59, op := Go.Op.call { callee := Go.Callee.value (Go.Operand.func 33), args := #[Go.Operand.tmp 58], argTypes := #[30] }, type := 9, pos := "l4_word.go:92", after := #[{ on := 48, ground := Go.Ground.data }, { on := 44, ground := Go.Ground.chain }], guard := none }) rfl (fun K hK => ?_) AllReadyH.nil
    go_simp
    refine (stext_lit a len cap F _ hx10.out _ g9 (by omega)).mono ?_; rintro r o10 ⟨rfl, b10⟩; have g10 := g9.below b10
    go_wp2_with fail
    refine hK.out _ _ ?_ (fun hHeld => ?_)
    · (try dsimp only); (refine ⟨?_, ?_, ?_, ?_, ?_, ?_, ?_, ?_, ?_, ?_⟩ <;> (repeat (first | with_reducible assumption | with_reducible refine keep_drew ?_ | with_reducible refine keep_alloc _ ?_ | with_reducible refine keep_below (by assumption) ?_)))
    clear hK K
    (try simp only [Act.put, List.setIfInBounds_toArray, List.set_cons_zero, List.set_cons_succ])
    refine wpAnyH_take (i := 50) (oi := { dst := some 60, op := Go.Op.binOp Go.BinOp.add 9 (Go.Operand.tmp 56) (Go.Operand.tmp 59) 9, type := 9, pos := "l4_word.go:92", after := #[{ on := 46, ground := Go.Ground.data }, { on := 49, ground := Go.Ground.data }], guard := none }) (v := ?_) rfl (by kernel_rfl) (by kernel_rfl) (by kernel_rfl) (fun _ _ _ h => h) (Or.inl ⟨by rfl, ?_⟩) (by assumption) ?_
    rotate_left 1
    · (intro w hSw; (try dsimp only at hSw); go_simp; try with_reducible rfl)
    (try simp only [Act.put, List.setIfInBounds_toArray, List.set_cons_zero, List.set_cons_succ])
    refine wpAnyH_take (i := 51) (oi := { dst := some 2, op := Go.Op.assign (Go.Operand.tmp 60), type := 9, pos := "l4_word.go:92", after := #[{ on := 50, ground := Go.Ground.data }, { on := 49, ground := Go.Ground.chain }, { on := 0, ground := Go.Ground.phase }, { on := 1, ground := Go.Ground.phase }, { on := 2, ground := Go.Ground.phase }, { on := 3, ground := Go.Ground.phase }, { on := 4, ground := Go.Ground.phase }, { on := 5, ground := Go.Ground.phase }, { on := 6, ground := Go.Ground.phase }, { on := 7, ground := Go.Ground.phase }, { on := 8, ground := Go.Ground.phase }, { on := 9, ground := Go.Ground.phase }, { on := 10, ground := Go.Ground.phase }, { on := 11, ground := Go.Ground.phase }, { on := 12, ground := Go.Ground.phase }, { on := 13, ground := Go.Ground.phase }, { on := 14, ground := Go.Ground.phase }, { on := 15, ground := Go.Ground.phase }, { on := 16, ground := Go.Ground.phase }, { on := 17, ground := Go.Ground.phase }, { on := 18, ground := Go.Ground.phase }, { on := 19, ground := Go.Ground.phase }, { on := 20, ground := Go.Ground.phase }, { on := 21, ground := Go.Ground.phase }, { on := 22, ground := Go.Ground.phase }, { on := 23, ground := Go.Ground.phase }, { on := 24, ground := Go.Ground.phase }, { on := 25, ground := Go.Ground.phase }, { on := 26, ground := Go.Ground.phase }, { on := 27, ground := Go.Ground.phase }, { on := 28, ground := Go.Ground.phase }, { on := 29, ground := Go.Ground.phase }, { on := 30, ground := Go.Ground.phase }, { on := 31, ground := Go.Ground.phase }, { on := 32, ground := Go.Ground.phase }, { on := 33, ground := Go.Ground.phase }, { on := 34, ground := Go.Ground.phase }, { on := 35, ground := Go.Ground.phase }, { on := 36, ground := Go.Ground.phase }, { on := 37, ground := Go.Ground.phase }, { on := 38, ground := Go.Ground.phase }, { on := 39, ground := Go.Ground.phase }, { on := 40, ground := Go.Ground.phase }, { on := 41, ground := Go.Ground.phase }, { on := 42, ground := Go.Ground.phase }, { on := 43, ground := Go.Ground.phase }, { on := 44, ground := Go.Ground.phase }, { on := 45, ground := Go.Ground.phase }, { on := 46, ground := Go.Ground.phase }, { on := 47, ground := Go.Ground.phase }, { on := 48, ground := Go.Ground.phase }, { on := 49, ground := Go.Ground.phase }, { on := 50, ground := Go.Ground.phase }], guard := none }) (v := ?_) rfl (by kernel_rfl) (by kernel_rfl) (by kernel_rfl) (fun _ _ _ h => h) (Or.inl ⟨by rfl, ?_⟩) (by assumption) ?_
    rotate_left 1
    · (intro w hSw; (try dsimp only at hSw); go_simp; try with_reducible rfl)
    (try simp only [Act.put, List.setIfInBounds_toArray, List.set_cons_zero, List.set_cons_succ])
    refine wpAnyH_done (by kernel_rfl) ?_ _
    clear hHeld
    have BB : Below w.heap.size w o10 := btrans (btrans (btrans (btrans (btrans (btrans (btrans (btrans (btrans (btrans (qd B0) b1) b2) b3) b4) b5) b6) b7) b8) b9) b10
    go_wp2
    go_ret
    exact ⟨by rw [hJ.out, ← cat11]; rfl, BB⟩
set_option maxRecDepth 20000 in
set_option maxHeartbeats 8000000 in
theorem lwrite_any (p k f t s q x y z e : Int) (a : Option Addr) (len cap : Nat) (F : Nat → Fc) (w : World) (h : FSl w a len F) (hl : len ≤ 1048576) :
    Calls Tryd.prog 5 #[.agg #[.int .i64 p, .int .i64 k, .int .i64 f, .int .i64 t, .int .i64 s, .int .i64 q, .int .i64 x, .int .i64 y, .int .i64 z, .int .i64 e, (.slice a len cap)]] w fun r w' => r = .returned (.string (wtx p k f t s q x y z e len F)) ∧ Below w.heap.size w w' := by
  have b0 := balloc (.cells #[.int .i64 p, .int .i64 k, .int .i64 f, .int .i64 t, .int .i64 s, .int .i64 q, .int .i64 x, .int .i64 y, .int .i64 z, .int .i64 e, (.slice a len cap)] 32) (Below.refl w.heap.size w)
  have p0 : (w.alloc (.cells #[.int .i64 p, .int .i64 k, .int .i64 f, .int .i64 t, .int .i64 s, .int .i64 q, .int .i64 x, .int .i64 y, .int .i64 z, .int .i64 e, (.slice a len cap)] 32)).heap[w.heap.size]? = some (.cells #[.int .i64 p, .int .i64 k, .int .i64 f, .int .i64 t, .int .i64 s, .int .i64 q, .int .i64 x, .int .i64 y, .int .i64 z, .int .i64 e, (.slice a len cap)] 32 (0, 0)) := heap_alloc_new _ _
  have gA := h.below b0
  cases hok : wokB p k f t s q x y z e len F
  · have e1 : wtx p k f t s q x y z e len F = bs [] := by unfold wtx; rw [hok]; rfl
    rw [e1]
    have hokH : Hid (wokB p k f t s q x y z e len F = false) := hok
    clear e1 hok
    go_enter Tryd.func5, Tryd.ntmps5
    go_wp2_with fail
    refine (swok_lit p k f t s q x y z e a len cap F _ hokH.out _ gA hl).mono ?_
    rintro r w1 ⟨rfl, b1⟩
    have B1 := btrans b0 b1
    go_wp2
    go_ret
    exact ⟨rfl, B1⟩
  · have hokH : Hid (wokB p k f t s q x y z e len F = true) := hok
    have e1 : Hid (wtx p k f t s q x y z e len F = bs (bodyL p k f t s q x y z e (txt len F)) ++ bs [32] ++ bs (S.hex8 (S.sumN (bs (bodyL p k f t s q x y z e (txt len F)))))) := by unfold Hid wtx; rw [hok]; rfl
    have hbl : (bs (bodyL p k f t s q x y z e (txt len F))).size ≤ 300 := body_len hok
    have hB := lbody_any p k f t s q x y z e a len cap F hok
    clear hok
    obtain ⟨J, hJ⟩ : ∃ J, Hid (bs (bodyL p k f t s q x y z e (txt len F)) = J) := ⟨_, rfl⟩
    rw [hJ.out] at hB hbl
    rw [hJ.out] at e1
    have hsm := sumN_lt J
    clear hJ
    go_enter Tryd.func5, Tryd.ntmps5
    go_wp2_with fail
    refine (swok_lit p k f t s q x y z e a len cap F _ hokH.out _ gA hl).mono ?_
    rintro r u1 ⟨rfl, b1⟩
    have B1 := btrans b0 b1
    have gB := gA.below b1
    have c0 := keep_below b1 (cell_block (o := 0) (v := .int .i64 p) p0 rfl)
    have c1 := keep_below b1 (cell_block (o := 1) (v := .int .i64 k) p0 rfl)
    have c2 := keep_below b1 (cell_block (o := 2) (v := .int .i64 f) p0 rfl)
    have c3 := keep_below b1 (cell_block (o := 3) (v := .int .i64 t) p0 rfl)
    have c4 := keep_below b1 (cell_block (o := 4) (v := .int .i64 s) p0 rfl)
    have c5 := keep_below b1 (cell_block (o := 5) (v := .int .i64 q) p0 rfl)
    have c6 := keep_below b1 (cell_block (o := 6) (v := .int .i64 x) p0 rfl)
    have c7 := keep_below b1 (cell_block (o := 7) (v := .int .i64 y) p0 rfl)
    have c8 := keep_below b1 (cell_block (o := 8) (v := .int .i64 z) p0 rfl)
    have c9 := keep_below b1 (cell_block (o := 9) (v := .int .i64 e) p0 rfl)
    have c10 := keep_below b1 (cell_block (o := 10) (v := .slice a len cap) p0 rfl)
    clear p0 gA b0 b1 hokH
    go_wp2_with fail
    refine (hB _ gB).mono ?_
    rintro r u2 ⟨rfl, b2⟩
    have B2 := btrans B1 b2
    clear hB
    have k1 : ¬ 9223372036854775807 < J.size + 1 := by omega
    go_wp2_with fail
    refine (S.ssum_any J (by omega) _).mono ?_
    rintro r u3 ⟨rfl, hu3⟩
    obtain rfl := hu3.symm
    clear hu3
    generalize hsn : S.sumN J = sn at *
    go_wp2_with fail
    refine (S.l4hex_any sn hsm _).mono ?_
    rintro r u4 ⟨rfl, b4⟩
    have B4 := btrans B2 b4
    have hH : (bs (S.hex8 sn)).size = 8 := S.hexP_len 8 sn
    clear hsn
    generalize bs (S.hex8 sn) = H at *
    have k2 : ¬ 9223372036854775807 < J.size + 1 + H.size := by omega
    go_wp2
    go_ret
    exact ⟨by rw [e1.out]; rfl, B4⟩
end Go.Proofs.YtibnojbhoepcdaaDoor
