/- How a word is written, the program's way. -/
import Derived.Test.YtibnojbhoepcdaaDoorWordOk
import Derived.Test.YtibnojbhoepcdaaDoorWSum
import Derived.Test.YtibnojbhoepcdaaDoorWSt
import Derived.Test.YtibnojbhoepcdaaDoorWDec
import Derived.Test.YtibnojbhoepcdaaDoorWNm
import Derived.Test.YtibnojbhoepcdaaDoorTxs
namespace Go.Proofs.YtibnojbhoepcdaaDoor
open Go.ChangeShapes Go.WideShapes Go.ChangeAt Go.RowKit
attribute [local go_sem ↓] Go.wp_at_zero Go.wp_at_succ
/-- a word's text without its sum -/
def bodyL (p k f t s q x y z e : Int) (T : ByteArray) : List UInt8 := Lib.join [poolL p, kindL k, Lib.itoa f, Lib.itoa t, Lib.itoa s, Lib.itoa q, sgn x, sgn y, Lib.itoa z, Lib.itoa e, T.data.toList] [32]
/-- a word's text -/
def wtx (p k f t s q x y z e : Int) (len : Nat) (F : Nat → Fc) : ByteArray := if wokB p k f t s q x y z e len F = true then bs (bodyL p k f t s q x y z e (txt len F)) ++ bs [32] ++ bs (S.hex8 (S.sumN (bs (bodyL p k f t s q x y z e (txt len F))))) else bs []
theorem sumN_lt (s : ByteArray) : S.sumN s < 4294967296 := Nat.xor_lt_two_pow (n := 32) (S.crcN_lt (S.byt s) (S.byt_lt s) s.size) (by omega)
theorem join11 (x0 x1 x2 x3 x4 x5 x6 x7 x8 x9 x10 J : ByteArray) (hJ : ByteArray.mk (Lib.join ([x0, x1, x2, x3, x4, x5, x6, x7, x8, x9, x10].map (·.data.toList)) [32]).toArray = J) (hs : J.size ≤ 1000) (w : World) :
    Calls Tryd.prog 17 #[.slice (some ⟨w.heap.size, 0, none⟩) 11 11, .string ⟨#[32]⟩] (w.alloc (.cells #[.string x0, .string x1, .string x2, .string x3, .string x4, .string x5, .string x6, .string x7, .string x8, .string x9, .string x10] 9)) fun e w' => e = .returned (.string J) ∧ Below (w.alloc (.cells #[.string x0, .string x1, .string x2, .string x3, .string x4, .string x5, .string x6, .string x7, .string x8, .string x9, .string x10] 9)).heap.size (w.alloc (.cells #[.string x0, .string x1, .string x2, .string x3, .string x4, .string x5, .string x6, .string x7, .string x8, .string x9, .string x10] 9)) w' := by
  have hl : (Lib.join ([x0, x1, x2, x3, x4, x5, x6, x7, x8, x9, x10].map (·.data.toList)) [32]).length ≤ 1000 := by
    rw [← hJ] at hs
    exact hs
  have h := Tryd.strings_Join w.heap.size 0 11 [x0, x1, x2, x3, x4, x5, x6, x7, x8, x9, x10] ⟨#[32]⟩ (w.alloc (.cells #[.string x0, .string x1, .string x2, .string x3, .string x4, .string x5, .string x6, .string x7, .string x8, .string x9, .string x10] 9)) (fun j x hx => by
    rw [World.cell?_alloc_new, Nat.zero_add, show (#[.string x0, .string x1, .string x2, .string x3, .string x4, .string x5, .string x6, .string x7, .string x8, .string x9, .string x10] : Array Value) = ([x0, x1, x2, x3, x4, x5, x6, x7, x8, x9, x10].map Value.string).toArray from rfl, List.getElem?_toArray, List.getElem?_map, hx]; rfl) (by simp) (by simp) (by simp) (Nat.le_trans hl (by omega))
  rw [← hJ]
  exact h
theorem wok_lit (p k f t s q x y z e : Int) (a : Option Addr) (len cap : Nat) (F : Nat → Fc) (b : Bool) (hb : wokB p k f t s q x y z e len F = b) (w : World) (h : FSl w a len F) (hl : len ≤ 1048576) :
    Calls Tryd.prog 16 #[.agg #[.int .i64 p, .int .i64 k, .int .i64 f, .int .i64 t, .int .i64 s, .int .i64 q, .int .i64 x, .int .i64 y, .int .i64 z, .int .i64 e, (.slice a len cap)]] w fun r w' => r = .returned (.bool b) ∧ Below w.heap.size w w' := hb ▸ wok_any p k f t s q x y z e a len cap F w h hl
theorem pool_lit (s : Int) (x : ByteArray) (h1 : 1 ≤ s) (h4 : s ≤ 2) (hx : bs (poolL s) = x) (w : World) (ht : Tabs w) :
    Calls Tryd.prog 18 #[.string (bs [108, 97, 110, 32, 119, 97, 110]), .int .i64 s] w fun e w' => e = .returned (.string x) ∧ Below w.heap.size w w' := hx ▸ pool_of s h1 h4 w ht
theorem kind_lit (s : Int) (x : ByteArray) (h1 : 1 ≤ s) (h4 : s ≤ 6) (hx : bs (kindL s) = x) (w : World) (ht : Tabs w) :
    Calls Tryd.prog 18 #[.string (bs [112, 105, 110, 103, 32, 97, 99, 107, 32, 97, 115, 107, 32, 115, 121, 110, 99, 32, 98, 97, 99, 107, 32, 115, 117, 109]), .int .i64 s] w fun e w' => e = .returned (.string x) ∧ Below w.heap.size w w' := hx ▸ kind_of s h1 h4 w ht
theorem itoa6_lit (n : Int) (x : ByteArray) (h0 : -999999 ≤ n) (h1 : n ≤ 999999) (hx : bs (Lib.itoa n) = x) (w : World) (ht : Tabs w) :
    Calls Tryd.prog 19 #[.int .i64 n] w fun e w' => e = .returned (.string x) ∧ Below w.heap.size w w' := hx ▸ itoa6_any n h0 h1 w ht
theorem sgn_lit (n : Int) (x : ByteArray) (h0 : -999999 ≤ n) (h1 : n ≤ 999999) (hx : bs (sgn n) = x) (w : World) (ht : Tabs w) :
    Calls Tryd.prog 20 #[.int .i64 n] w fun e w' => e = .returned (.string x) ∧ Below w.heap.size w w' := hx ▸ sgn_any n h0 h1 w ht
theorem text_lit (a : Option Addr) (len cap : Nat) (F : Nat → Fc) (x : ByteArray) (hx : txt len F = x) (w : World) (h : FSl w a len F) (hl : len ≤ 1048576) (ht : Tabs w) :
    Calls Tryd.prog 21 #[.slice a len cap] w fun e w' => e = .returned (.string x) ∧ Below w.heap.size w w' := hx ▸ text_any a len cap F w h hl ht
theorem wok_facts {p k f t s q x y z e : Int} {len : Nat} {F : Nat → Fc} (h : wokB p k f t s q x y z e len F = true) : 1 ≤ p ∧ p ≤ 2 ∧ 1 ≤ k ∧ k ≤ 6 ∧ 0 ≤ f ∧ f ≤ 7 ∧ 0 ≤ t ∧ t ≤ 7 ∧ 0 ≤ s ∧ s ≤ 999999 ∧ 0 ≤ q ∧ q ≤ 7 ∧ -100000 ≤ x ∧ x ≤ 100000 ∧ -100000 ≤ y ∧ y ≤ 100000 ∧ 0 ≤ z ∧ z ≤ 100000 ∧ 1 ≤ e ∧ e ≤ 1500 ∧ tokB len F = true := by
  simp only [wokB, preB, cok, inb, Bool.and_eq_true, decide_eq_true_eq] at h
  have htok : tokB len F = true := h.1.2
  refine ⟨by omega, by omega, by omega, by omega, by omega, by omega, by omega, by omega, by omega, by omega, by omega, by omega, by omega, by omega, by omega, by omega, by omega, by omega, by omega, by omega, htok⟩
theorem dec_len6 (n : Int) (h0 : 0 ≤ n) (h1 : n ≤ 999999) : (Lib.itoa n).length ≤ 6 := by
  obtain ⟨u, rfl⟩ : ∃ u : Nat, n = u := ⟨n.toNat, by omega⟩
  rw [Lib.itoa_nonneg]
  exact dd6_len u (by omega)
theorem poolL_len (s : Int) : (poolL s).length ≤ 3 := by unfold poolL; split <;> decide
theorem kindL_len (s : Int) : (kindL s).length ≤ 4 := by
  unfold kindL
  split
  · decide
  · split
    · decide
    · split
      · decide
      · split
        · decide
        · split <;> decide
theorem body_len {p k f t s q x y z e : Int} {len : Nat} {F : Nat → Fc} (h : wokB p k f t s q x y z e len F = true) : (bodyL p k f t s q x y z e (txt len F)).length ≤ 300 := by
  obtain ⟨r0, r1, r2, r3, r4, r5, r6, r7, r8, r9, r10, r11, r12, r13, r14, r15, r16, r17, r18, r19, r20⟩ := wok_facts h
  have m8 := tok_len r20
  have l0 := poolL_len p
  have l1 := kindL_len k
  have l2 := dec_len6 f (by omega) (by omega)
  have l3 := dec_len6 t (by omega) (by omega)
  have l4 := dec_len6 s (by omega) (by omega)
  have l5 := dec_len6 q (by omega) (by omega)
  have l6 := sgn_len x (by omega) (by omega)
  have l7 := sgn_len y (by omega) (by omega)
  have l8 := dec_len6 z (by omega) (by omega)
  have l9 := dec_len6 e (by omega) (by omega)
  have l10 : (txt len F).data.toList.length ≤ 200 := txt_size len F m8
  unfold bodyL
  rw [Lib.join_cons]
  simp only [Lib.joinTail, List.map_cons, List.map_nil, List.flatten_cons, List.flatten_nil, List.length_append, List.length_cons, List.length_nil]
  omega
set_option maxRecDepth 20000 in
set_option maxHeartbeats 8000000 in
theorem write_any (p k f t s q x y z e : Int) (a : Option Addr) (len cap : Nat) (F : Nat → Fc) (w : World) (h : FSl w a len F) (hl : len ≤ 1048576) (ht : Tabs w) (hc : w.cell? ⟨5, 15, none⟩ = some (.int .u8 4)) :
    Calls Tryd.prog 7 #[.agg #[.int .i64 p, .int .i64 k, .int .i64 f, .int .i64 t, .int .i64 s, .int .i64 q, .int .i64 x, .int .i64 y, .int .i64 z, .int .i64 e, (.slice a len cap)]] w fun r w' => r = .returned (.string (wtx p k f t s q x y z e len F)) ∧ Below w.heap.size w w' := by
  have b0 := balloc (.cells #[.int .i64 p, .int .i64 k, .int .i64 f, .int .i64 t, .int .i64 s, .int .i64 q, .int .i64 x, .int .i64 y, .int .i64 z, .int .i64 e, (.slice a len cap)] 32) (Below.refl w.heap.size w)
  have p0 : (w.alloc (.cells #[.int .i64 p, .int .i64 k, .int .i64 f, .int .i64 t, .int .i64 s, .int .i64 q, .int .i64 x, .int .i64 y, .int .i64 z, .int .i64 e, (.slice a len cap)] 32)).heap[w.heap.size]? = some (.cells #[.int .i64 p, .int .i64 k, .int .i64 f, .int .i64 t, .int .i64 s, .int .i64 q, .int .i64 x, .int .i64 y, .int .i64 z, .int .i64 e, (.slice a len cap)] 32 (0, 0)) := heap_alloc_new _ _
  have tA := ht.below b0
  have gA := h.below b0
  cases hok : wokB p k f t s q x y z e len F
  · have e1 : wtx p k f t s q x y z e len F = bs [] := by unfold wtx; rw [hok]; rfl
    rw [e1]
    have hokH : Hid (wokB p k f t s q x y z e len F = false) := hok
    clear e1 hok
    go_enter Tryd.func7, Tryd.ntmps7
    go_wp2_with fail
    refine (wok_lit p k f t s q x y z e a len cap F _ hokH.out _ gA hl).mono ?_
    rintro r w1 ⟨rfl, b1⟩
    have B1 := btrans b0 b1
    go_wp2
    go_ret
    exact ⟨rfl, B1⟩
  · have hokH : Hid (wokB p k f t s q x y z e len F = true) := hok
    obtain ⟨r0, r1, r2, r3, r4, r5, r6, r7, r8, r9, r10, r11, r12, r13, r14, r15, r16, r17, r18, r19, r20⟩ := wok_facts hok
    have m8 := tok_len r20
    have e1 : Hid (wtx p k f t s q x y z e len F = bs (bodyL p k f t s q x y z e (txt len F)) ++ bs [32] ++ bs (S.hex8 (S.sumN (bs (bodyL p k f t s q x y z e (txt len F)))))) := by unfold Hid wtx; rw [hok]; rfl
    have hbl : (bs (bodyL p k f t s q x y z e (txt len F))).size ≤ 300 := body_len hok
    clear hok r20
    go_enter Tryd.func7, Tryd.ntmps7
    go_wp2_with fail
    refine (wok_lit p k f t s q x y z e a len cap F _ hokH.out _ gA hl).mono ?_
    rintro r u1 ⟨rfl, b1⟩
    have B1 := btrans b0 b1
    have tB := tA.below b1
    have gB := gA.below b1
    have c0 := keep_below b1 (cell_block (o := 0) (v := .int .i64 p) p0 rfl)
    have c1 := keep_below b1 (cell_block (o := 1) (v := .int .i64 k) p0 rfl)
    have c2 := keep_below b1 (cell_block (o := 2) (v := .int .i64 f) p0 rfl)
    have c3 := keep_below b1 (cell_block (o := 3) (v := .int .i64 t) p0 rfl)
    have c4 := keep_below b1 (cell_block (o := 4) (v := .int .i64 s) p0 rfl)
    have c5 := keep_below b1 (cell_block (o := 5) (v := .int .i64 q) p0 rfl)
    have c6 := keep_below b1 (cell_block (o := 6) (v := .int .i64 x) p0 rfl)
    have c7 := keep_below b1 (cell_block (o := 7) (v := .int .i64 y) p0 rfl)
    have c8 := keep_below b1 (cell_block (o := 8) (v := .int .i64 z) p0 rfl)
    have c9 := keep_below b1 (cell_block (o := 9) (v := .int .i64 e) p0 rfl)
    have c10 := keep_below b1 (cell_block (o := 10) (v := .slice a len cap) p0 rfl)
    clear p0 tA gA b0 b1 hokH
    obtain ⟨x0, hx0⟩ : ∃ xx, Hid (bs (poolL p) = xx) := ⟨_, rfl⟩
    obtain ⟨x1, hx1⟩ : ∃ xx, Hid (bs (kindL k) = xx) := ⟨_, rfl⟩
    obtain ⟨x2, hx2⟩ : ∃ xx, Hid (bs (Lib.itoa f) = xx) := ⟨_, rfl⟩
    obtain ⟨x3, hx3⟩ : ∃ xx, Hid (bs (Lib.itoa t) = xx) := ⟨_, rfl⟩
    obtain ⟨x4, hx4⟩ : ∃ xx, Hid (bs (Lib.itoa s) = xx) := ⟨_, rfl⟩
    obtain ⟨x5, hx5⟩ : ∃ xx, Hid (bs (Lib.itoa q) = xx) := ⟨_, rfl⟩
    obtain ⟨x6, hx6⟩ : ∃ xx, Hid (bs (sgn x) = xx) := ⟨_, rfl⟩
    obtain ⟨x7, hx7⟩ : ∃ xx, Hid (bs (sgn y) = xx) := ⟨_, rfl⟩
    obtain ⟨x8, hx8⟩ : ∃ xx, Hid (bs (Lib.itoa z) = xx) := ⟨_, rfl⟩
    obtain ⟨x9, hx9⟩ : ∃ xx, Hid (bs (Lib.itoa e) = xx) := ⟨_, rfl⟩
    obtain ⟨x10, hx10⟩ : ∃ xx, Hid (txt len F = xx) := ⟨_, rfl⟩
    have hJ0 : bs (bodyL p k f t s q x y z e (txt len F)) = ByteArray.mk (Lib.join ([x0, x1, x2, x3, x4, x5, x6, x7, x8, x9, x10].map (·.data.toList)) [32]).toArray := by
      rw [← hx0.out, ← hx1.out, ← hx2.out, ← hx3.out, ← hx4.out, ← hx5.out, ← hx6.out, ← hx7.out, ← hx8.out, ← hx9.out, ← hx10.out]
      rfl
    obtain ⟨J, hJ⟩ : ∃ J, Hid (ByteArray.mk (Lib.join ([x0, x1, x2, x3, x4, x5, x6, x7, x8, x9, x10].map (·.data.toList)) [32]).toArray = J) := ⟨_, rfl⟩
    have hJs : J.size ≤ 1000 := by
      rw [← hJ.out, ← hJ0]
      exact Nat.le_trans hbl (by omega)
    rw [hJ0, hJ.out] at e1
    have hsm := sumN_lt J
    clear hbl hJ0
    go_upto_region 3 with fail
    have t0 : Tabs u1.drew := tB.below (qd (Below.refl _ _))
    have g0 : FSl u1.drew a len F := gB.below (qd (Below.refl _ _))
    · refine wp_region_held_drew (S := fun w' => w'.cell? ⟨w.heap.size, 0, none⟩ = some (.int .i64 p) ∧ w'.cell? ⟨w.heap.size, 1, none⟩ = some (.int .i64 k) ∧ w'.cell? ⟨w.heap.size, 2, none⟩ = some (.int .i64 f) ∧ w'.cell? ⟨w.heap.size, 3, none⟩ = some (.int .i64 t) ∧ w'.cell? ⟨w.heap.size, 4, none⟩ = some (.int .i64 s) ∧ w'.cell? ⟨w.heap.size, 5, none⟩ = some (.int .i64 q) ∧ w'.cell? ⟨w.heap.size, 6, none⟩ = some (.int .i64 x) ∧ w'.cell? ⟨w.heap.size, 7, none⟩ = some (.int .i64 y) ∧ w'.cell? ⟨w.heap.size, 8, none⟩ = some (.int .i64 z) ∧ w'.cell? ⟨w.heap.size, 9, none⟩ = some (.int .i64 e) ∧ w'.cell? ⟨w.heap.size, 10, none⟩ = some (.slice a len cap)) (by kernel_rfl) ?_ (fun hHeld => ?_)
      · (try dsimp only); (refine ⟨?_, ?_, ?_, ?_, ?_, ?_, ?_, ?_, ?_, ?_, ?_⟩ <;> (repeat (first | with_reducible assumption | with_reducible refine keep_drew ?_ | with_reducible refine keep_alloc _ ?_ | with_reducible refine keep_below (by assumption) ?_)))
      refine wpAnyH_take (i := 0) (oi := { dst := some 7, op := Go.Op.fieldAddr 32 (Go.Operand.tmp 1) 0, type := 0, pos := "l4_word.go:231", after := #[], guard := none }) (v := ?_) rfl (by kernel_rfl) (by kernel_rfl) (by kernel_rfl) (fun _ _ _ h => h) (Or.inl ⟨by rfl, ?_⟩) (by assumption) ?_
      rotate_left 1
      · (intro w hSw; (try dsimp only at hSw); go_simp; try with_reducible rfl)
      (try simp only [Act.put, List.setIfInBounds_toArray, List.set_cons_zero, List.set_cons_succ])
      refine wpAnyH_take (i := 1) (oi := { dst := some 8, op := Go.Op.load 3 (Go.Operand.tmp 7), type := 3, pos := "l4_word.go:231", after := #[{ on := 0, ground := Go.Ground.data }], guard := none }) (v := ?_) rfl (by kernel_rfl) (by kernel_rfl) (by kernel_rfl) (fun _ _ _ h => h) (Or.inl ⟨by rfl, ?_⟩) (by assumption) ?_
      rotate_left 1
      · (intro w hSw; (try dsimp only at hSw); go_simp; try with_reducible rfl)
      (try simp only [Act.put, List.setIfInBounds_toArray, List.set_cons_zero, List.set_cons_succ])
      refine wpAnyH_take (i := 3) (oi := { dst := some 10, op := Go.Op.fieldAddr 32 (Go.Operand.tmp 1) 1, type := 0, pos := "l4_word.go:231", after := #[], guard := none }) (v := ?_) rfl (by kernel_rfl) (by kernel_rfl) (by kernel_rfl) (fun _ _ _ h => h) (Or.inl ⟨by rfl, ?_⟩) (by assumption) ?_
      rotate_left 1
      · (intro w hSw; (try dsimp only at hSw); go_simp; try with_reducible rfl)
      (try simp only [Act.put, List.setIfInBounds_toArray, List.set_cons_zero, List.set_cons_succ])
      refine wpAnyH_take (i := 4) (oi := { dst := some 11, op := Go.Op.load 3 (Go.Operand.tmp 10), type := 3, pos := "l4_word.go:231", after := #[{ on := 3, ground := Go.Ground.data }], guard := none }) (v := ?_) rfl (by kernel_rfl) (by kernel_rfl) (by kernel_rfl) (fun _ _ _ h => h) (Or.inl ⟨by rfl, ?_⟩) (by assumption) ?_
      rotate_left 1
      · (intro w hSw; (try dsimp only at hSw); go_simp; try with_reducible rfl)
      (try simp only [Act.put, List.setIfInBounds_toArray, List.set_cons_zero, List.set_cons_succ])
      refine wpAnyH_take (i := 6) (oi := { dst := some 13, op := Go.Op.fieldAddr 32 (Go.Operand.tmp 1) 2, type := 0, pos := "l4_word.go:231", after := #[], guard := none }) (v := ?_) rfl (by kernel_rfl) (by kernel_rfl) (by kernel_rfl) (fun _ _ _ h => h) (Or.inl ⟨by rfl, ?_⟩) (by assumption) ?_
      rotate_left 1
      · (intro w hSw; (try dsimp only at hSw); go_simp; try with_reducible rfl)
      (try simp only [Act.put, List.setIfInBounds_toArray, List.set_cons_zero, List.set_cons_succ])
      refine wpAnyH_take (i := 7) (oi := { dst := some 14, op := Go.Op.load 3 (Go.Operand.tmp 13), type := 3, pos := "l4_word.go:231", after := #[{ on := 6, ground := Go.Ground.data }], guard := none }) (v := ?_) rfl (by kernel_rfl) (by kernel_rfl) (by kernel_rfl) (fun _ _ _ h => h) (Or.inl ⟨by rfl, ?_⟩) (by assumption) ?_
      rotate_left 1
      · (intro w hSw; (try dsimp only at hSw); go_simp; try with_reducible rfl)
      (try simp only [Act.put, List.setIfInBounds_toArray, List.set_cons_zero, List.set_cons_succ])
      refine wpAnyH_take (i := 9) (oi := { dst := some 16, op := Go.Op.fieldAddr 32 (Go.Operand.tmp 1) 3, type := 0, pos := "l4_word.go:231", after := #[], guard := none }) (v := ?_) rfl (by kernel_rfl) (by kernel_rfl) (by kernel_rfl) (fun _ _ _ h => h) (Or.inl ⟨by rfl, ?_⟩) (by assumption) ?_
      rotate_left 1
      · (intro w hSw; (try dsimp only at hSw); go_simp; try with_reducible rfl)
      (try simp only [Act.put, List.setIfInBounds_toArray, List.set_cons_zero, List.set_cons_succ])
      refine wpAnyH_take (i := 10) (oi := { dst := some 17, op := Go.Op.load 3 (Go.Operand.tmp 16), type := 3, pos := "l4_word.go:231", after := #[{ on := 9, ground := Go.Ground.data }], guard := none }) (v := ?_) rfl (by kernel_rfl) (by kernel_rfl) (by kernel_rfl) (fun _ _ _ h => h) (Or.inl ⟨by rfl, ?_⟩) (by assumption) ?_
      rotate_left 1
      · (intro w hSw; (try dsimp only at hSw); go_simp; try with_reducible rfl)
      (try simp only [Act.put, List.setIfInBounds_toArray, List.set_cons_zero, List.set_cons_succ])
      refine wpAnyH_take (i := 12) (oi := { dst := some 19, op := Go.Op.fieldAddr 32 (Go.Operand.tmp 1) 4, type := 0, pos := "l4_word.go:231", after := #[], guard := none }) (v := ?_) rfl (by kernel_rfl) (by kernel_rfl) (by kernel_rfl) (fun _ _ _ h => h) (Or.inl ⟨by rfl, ?_⟩) (by assumption) ?_
      rotate_left 1
      · (intro w hSw; (try dsimp only at hSw); go_simp; try with_reducible rfl)
      (try simp only [Act.put, List.setIfInBounds_toArray, List.set_cons_zero, List.set_cons_succ])
      refine wpAnyH_take (i := 13) (oi := { dst := some 20, op := Go.Op.load 3 (Go.Operand.tmp 19), type := 3, pos := "l4_word.go:231", after := #[{ on := 12, ground := Go.Ground.data }], guard := none }) (v := ?_) rfl (by kernel_rfl) (by kernel_rfl) (by kernel_rfl) (fun _ _ _ h => h) (Or.inl ⟨by rfl, ?_⟩) (by assumption) ?_
      rotate_left 1
      · (intro w hSw; (try dsimp only at hSw); go_simp; try with_reducible rfl)
      (try simp only [Act.put, List.setIfInBounds_toArray, List.set_cons_zero, List.set_cons_succ])
      refine wpAnyH_take (i := 15) (oi := { dst := some 22, op := Go.Op.fieldAddr 32 (Go.Operand.tmp 1) 5, type := 0, pos := "l4_word.go:231", after := #[], guard := none }) (v := ?_) rfl (by kernel_rfl) (by kernel_rfl) (by kernel_rfl) (fun _ _ _ h => h) (Or.inl ⟨by rfl, ?_⟩) (by assumption) ?_
      rotate_left 1
      · (intro w hSw; (try dsimp only at hSw); go_simp; try with_reducible rfl)
      (try simp only [Act.put, List.setIfInBounds_toArray, List.set_cons_zero, List.set_cons_succ])
      refine wpAnyH_take (i := 16) (oi := { dst := some 23, op := Go.Op.load 3 (Go.Operand.tmp 22), type := 3, pos := "l4_word.go:231", after := #[{ on := 15, ground := Go.Ground.data }], guard := none }) (v := ?_) rfl (by kernel_rfl) (by kernel_rfl) (by kernel_rfl) (fun _ _ _ h => h) (Or.inl ⟨by rfl, ?_⟩) (by assumption) ?_
      rotate_left 1
      · (intro w hSw; (try dsimp only at hSw); go_simp; try with_reducible rfl)
      (try simp only [Act.put, List.setIfInBounds_toArray, List.set_cons_zero, List.set_cons_succ])
      refine wpAnyH_take (i := 18) (oi := { dst := some 25, op := Go.Op.fieldAddr 32 (Go.Operand.tmp 1) 6, type := 0, pos := "l4_word.go:231", after := #[], guard := none }) (v := ?_) rfl (by kernel_rfl) (by kernel_rfl) (by kernel_rfl) (fun _ _ _ h => h) (Or.inl ⟨by rfl, ?_⟩) (by assumption) ?_
      rotate_left 1
      · (intro w hSw; (try dsimp only at hSw); go_simp; try with_reducible rfl)
      (try simp only [Act.put, List.setIfInBounds_toArray, List.set_cons_zero, List.set_cons_succ])
      refine wpAnyH_take (i := 19) (oi := { dst := some 26, op := Go.Op.fieldAddr 29 (Go.Operand.tmp 25) 0, type := 0, pos := "l4_word.go:231", after := #[{ on := 18, ground := Go.Ground.data }], guard := none }) (v := ?_) rfl (by kernel_rfl) (by kernel_rfl) (by kernel_rfl) (fun _ _ _ h => h) (Or.inl ⟨by rfl, ?_⟩) (by assumption) ?_
      rotate_left 1
      · (intro w hSw; (try dsimp only at hSw); go_simp; try with_reducible rfl)
      (try simp only [Act.put, List.setIfInBounds_toArray, List.set_cons_zero, List.set_cons_succ])
      refine wpAnyH_take (i := 20) (oi := { dst := some 27, op := Go.Op.load 3 (Go.Operand.tmp 26), type := 3, pos := "l4_word.go:231", after := #[{ on := 19, ground := Go.Ground.data }], guard := none }) (v := ?_) rfl (by kernel_rfl) (by kernel_rfl) (by kernel_rfl) (fun _ _ _ h => h) (Or.inl ⟨by rfl, ?_⟩) (by assumption) ?_
      rotate_left 1
      · (intro w hSw; (try dsimp only at hSw); go_simp; try with_reducible rfl)
      (try simp only [Act.put, List.setIfInBounds_toArray, List.set_cons_zero, List.set_cons_succ])
      refine wpAnyH_take (i := 22) (oi := { dst := some 29, op := Go.Op.fieldAddr 32 (Go.Operand.tmp 1) 6, type := 0, pos := "l4_word.go:231", after := #[], guard := none }) (v := ?_) rfl (by kernel_rfl) (by kernel_rfl) (by kernel_rfl) (fun _ _ _ h => h) (Or.inl ⟨by rfl, ?_⟩) (by assumption) ?_
      rotate_left 1
      · (intro w hSw; (try dsimp only at hSw); go_simp; try with_reducible rfl)
      (try simp only [Act.put, List.setIfInBounds_toArray, List.set_cons_zero, List.set_cons_succ])
      refine wpAnyH_take (i := 23) (oi := { dst := some 30, op := Go.Op.fieldAddr 29 (Go.Operand.tmp 29) 1, type := 0, pos := "l4_word.go:231", after := #[{ on := 22, ground := Go.Ground.data }], guard := none }) (v := ?_) rfl (by kernel_rfl) (by kernel_rfl) (by kernel_rfl) (fun _ _ _ h => h) (Or.inl ⟨by rfl, ?_⟩) (by assumption) ?_
      rotate_left 1
      · (intro w hSw; (try dsimp only at hSw); go_simp; try with_reducible rfl)
      (try simp only [Act.put, List.setIfInBounds_toArray, List.set_cons_zero, List.set_cons_succ])
      refine wpAnyH_take (i := 24) (oi := { dst := some 31, op := Go.Op.load 3 (Go.Operand.tmp 30), type := 3, pos := "l4_word.go:231", after := #[{ on := 23, ground := Go.Ground.data }], guard := none }) (v := ?_) rfl (by kernel_rfl) (by kernel_rfl) (by kernel_rfl) (fun _ _ _ h => h) (Or.inl ⟨by rfl, ?_⟩) (by assumption) ?_
      rotate_left 1
      · (intro w hSw; (try dsimp only at hSw); go_simp; try with_reducible rfl)
      (try simp only [Act.put, List.setIfInBounds_toArray, List.set_cons_zero, List.set_cons_succ])
      refine wpAnyH_take (i := 26) (oi := { dst := some 33, op := Go.Op.fieldAddr 32 (Go.Operand.tmp 1) 6, type := 0, pos := "l4_word.go:231", after := #[], guard := none }) (v := ?_) rfl (by kernel_rfl) (by kernel_rfl) (by kernel_rfl) (fun _ _ _ h => h) (Or.inl ⟨by rfl, ?_⟩) (by assumption) ?_
      rotate_left 1
      · (intro w hSw; (try dsimp only at hSw); go_simp; try with_reducible rfl)
      (try simp only [Act.put, List.setIfInBounds_toArray, List.set_cons_zero, List.set_cons_succ])
      refine wpAnyH_take (i := 27) (oi := { dst := some 34, op := Go.Op.fieldAddr 29 (Go.Operand.tmp 33) 2, type := 0, pos := "l4_word.go:231", after := #[{ on := 26, ground := Go.Ground.data }], guard := none }) (v := ?_) rfl (by kernel_rfl) (by kernel_rfl) (by kernel_rfl) (fun _ _ _ h => h) (Or.inl ⟨by rfl, ?_⟩) (by assumption) ?_
      rotate_left 1
      · (intro w hSw; (try dsimp only at hSw); go_simp; try with_reducible rfl)
      (try simp only [Act.put, List.setIfInBounds_toArray, List.set_cons_zero, List.set_cons_succ])
      refine wpAnyH_take (i := 28) (oi := { dst := some 35, op := Go.Op.load 3 (Go.Operand.tmp 34), type := 3, pos := "l4_word.go:231", after := #[{ on := 27, ground := Go.Ground.data }], guard := none }) (v := ?_) rfl (by kernel_rfl) (by kernel_rfl) (by kernel_rfl) (fun _ _ _ h => h) (Or.inl ⟨by rfl, ?_⟩) (by assumption) ?_
      rotate_left 1
      · (intro w hSw; (try dsimp only at hSw); go_simp; try with_reducible rfl)
      (try simp only [Act.put, List.setIfInBounds_toArray, List.set_cons_zero, List.set_cons_succ])
      refine wpAnyH_take (i := 30) (oi := { dst := some 37, op := Go.Op.fieldAddr 32 (Go.Operand.tmp 1) 6, type := 0, pos := "l4_word.go:231", after := #[], guard := none }) (v := ?_) rfl (by kernel_rfl) (by kernel_rfl) (by kernel_rfl) (fun _ _ _ h => h) (Or.inl ⟨by rfl, ?_⟩) (by assumption) ?_
      rotate_left 1
      · (intro w hSw; (try dsimp only at hSw); go_simp; try with_reducible rfl)
      (try simp only [Act.put, List.setIfInBounds_toArray, List.set_cons_zero, List.set_cons_succ])
      refine wpAnyH_take (i := 31) (oi := { dst := some 38, op := Go.Op.fieldAddr 29 (Go.Operand.tmp 37) 3, type := 0, pos := "l4_word.go:231", after := #[{ on := 30, ground := Go.Ground.data }], guard := none }) (v := ?_) rfl (by kernel_rfl) (by kernel_rfl) (by kernel_rfl) (fun _ _ _ h => h) (Or.inl ⟨by rfl, ?_⟩) (by assumption) ?_
      rotate_left 1
      · (intro w hSw; (try dsimp only at hSw); go_simp; try with_reducible rfl)
      (try simp only [Act.put, List.setIfInBounds_toArray, List.set_cons_zero, List.set_cons_succ])
      refine wpAnyH_take (i := 32) (oi := { dst := some 39, op := Go.Op.load 3 (Go.Operand.tmp 38), type := 3, pos := "l4_word.go:231", after := #[{ on := 31, ground := Go.Ground.data }], guard := none }) (v := ?_) rfl (by kernel_rfl) (by kernel_rfl) (by kernel_rfl) (fun _ _ _ h => h) (Or.inl ⟨by rfl, ?_⟩) (by assumption) ?_
      rotate_left 1
      · (intro w hSw; (try dsimp only at hSw); go_simp; try with_reducible rfl)
      (try simp only [Act.put, List.setIfInBounds_toArray, List.set_cons_zero, List.set_cons_succ])
      refine wpAnyH_take (i := 34) (oi := { dst := some 41, op := Go.Op.fieldAddr 32 (Go.Operand.tmp 1) 7, type := 0, pos := "l4_word.go:231", after := #[], guard := none }) (v := ?_) rfl (by kernel_rfl) (by kernel_rfl) (by kernel_rfl) (fun _ _ _ h => h) (Or.inl ⟨by rfl, ?_⟩) (by assumption) ?_
      rotate_left 1
      · (intro w hSw; (try dsimp only at hSw); go_simp; try with_reducible rfl)
      (try simp only [Act.put, List.setIfInBounds_toArray, List.set_cons_zero, List.set_cons_succ])
      refine wpAnyH_take (i := 35) (oi := { dst := some 42, op := Go.Op.load 30 (Go.Operand.tmp 41), type := 30, pos := "l4_word.go:231", after := #[{ on := 34, ground := Go.Ground.data }], guard := none }) (v := ?_) rfl (by kernel_rfl) (by kernel_rfl) (by kernel_rfl) (fun _ _ _ h => h) (Or.inl ⟨by rfl, ?_⟩) (by assumption) ?_
      rotate_left 1
      · (intro w hSw; (try dsimp only at hSw); go_simp; try with_reducible rfl)
      (try simp only [Act.put, List.setIfInBounds_toArray, List.set_cons_zero, List.set_cons_succ])
      refine wpAnyH_ready (rs := [2]) (by kernel_rfl) (by simp) ?_
      refine AllReadyH.cons (o := { dst := some 9, op := Go.Op.call { callee := Go.Callee.value (Go.Operand.func 18), args := #[Go.Operand.const (Go.Value.string { data := #[108, 97, 110, 32, 119, 97, 110] }), Go.Operand.tmp 8], argTypes := #[43, 3] }, type := 9, pos := "l4_word.go:232", after := #[{ on := 1, ground := Go.Ground.data }], guard := none }) rfl (fun K hK => ?_) AllReadyH.nil
      go_simp
      refine (pool_lit p _ (by omega) (by omega) hx0.out _ t0).mono ?_; rintro r o1 ⟨rfl, b1⟩; have t1 := t0.below b1; have g1 := g0.below b1
      go_wp2_with fail
      refine hK.out _ _ ?_ (fun hHeld => ?_)
      · (try dsimp only); (refine ⟨?_, ?_, ?_, ?_, ?_, ?_, ?_, ?_, ?_, ?_, ?_⟩ <;> (repeat (first | with_reducible assumption | with_reducible refine keep_drew ?_ | with_reducible refine keep_alloc _ ?_ | with_reducible refine keep_below (by assumption) ?_)))
      clear hK K
      (try simp only [Act.put, List.setIfInBounds_toArray, List.set_cons_zero, List.set_cons_succ])
      refine wpAnyH_ready (rs := [5]) (by kernel_rfl) (by simp) ?_
      refine AllReadyH.cons (o := { dst := some 12, op := Go.Op.call { callee := Go.Callee.value (Go.Operand.func 18), args := #[Go.Operand.const (Go.Value.string { data := #[112, 105, 110, 103, 32, 97, 99, 107, 32, 97, 115, 107, 32, 115, 121, 110, 99, 32, 98, 97, 99, 107, 32, 115, 117, 109] }), Go.Operand.tmp 11], argTypes := #[43, 3] }, type := 9, pos := "l4_word.go:232", after := #[{ on := 4, ground := Go.Ground.data }, { on := 2, ground := Go.Ground.chain }], guard := none }) rfl (fun K hK => ?_) AllReadyH.nil
      go_simp
      refine (kind_lit k _ (by omega) (by omega) hx1.out _ t1).mono ?_; rintro r o2 ⟨rfl, b2⟩; have t2 := t1.below b2; have g2 := g1.below b2
      go_wp2_with fail
      refine hK.out _ _ ?_ (fun hHeld => ?_)
      · (try dsimp only); (refine ⟨?_, ?_, ?_, ?_, ?_, ?_, ?_, ?_, ?_, ?_, ?_⟩ <;> (repeat (first | with_reducible assumption | with_reducible refine keep_drew ?_ | with_reducible refine keep_alloc _ ?_ | with_reducible refine keep_below (by assumption) ?_)))
      clear hK K
      (try simp only [Act.put, List.setIfInBounds_toArray, List.set_cons_zero, List.set_cons_succ])
      refine wpAnyH_ready (rs := [8]) (by kernel_rfl) (by simp) ?_
      refine AllReadyH.cons (o := { dst := some 15, op := Go.Op.call { callee := Go.Callee.value (Go.Operand.func 19), args := #[Go.Operand.tmp 14], argTypes := #[3] }, type := 9, pos := "l4_word.go:233", after := #[{ on := 7, ground := Go.Ground.data }, { on := 5, ground := Go.Ground.chain }], guard := none }) rfl (fun K hK => ?_) AllReadyH.nil
      go_simp
      refine (itoa6_lit f _ (by omega) (by omega) hx2.out _ t2).mono ?_; rintro r o3 ⟨rfl, b3⟩; have t3 := t2.below b3; have g3 := g2.below b3
      go_wp2_with fail
      refine hK.out _ _ ?_ (fun hHeld => ?_)
      · (try dsimp only); (refine ⟨?_, ?_, ?_, ?_, ?_, ?_, ?_, ?_, ?_, ?_, ?_⟩ <;> (repeat (first | with_reducible assumption | with_reducible refine keep_drew ?_ | with_reducible refine keep_alloc _ ?_ | with_reducible refine keep_below (by assumption) ?_)))
      clear hK K
      (try simp only [Act.put, List.setIfInBounds_toArray, List.set_cons_zero, List.set_cons_succ])
      refine wpAnyH_ready (rs := [11]) (by kernel_rfl) (by simp) ?_
      refine AllReadyH.cons (o := { dst := some 18, op := Go.Op.call { callee := Go.Callee.value (Go.Operand.func 19), args := #[Go.Operand.tmp 17], argTypes := #[3] }, type := 9, pos := "l4_word.go:233", after := #[{ on := 10, ground := Go.Ground.data }, { on := 8, ground := Go.Ground.chain }], guard := none }) rfl (fun K hK => ?_) AllReadyH.nil
      go_simp
      refine (itoa6_lit t _ (by omega) (by omega) hx3.out _ t3).mono ?_; rintro r o4 ⟨rfl, b4⟩; have t4 := t3.below b4; have g4 := g3.below b4
      go_wp2_with fail
      refine hK.out _ _ ?_ (fun hHeld => ?_)
      · (try dsimp only); (refine ⟨?_, ?_, ?_, ?_, ?_, ?_, ?_, ?_, ?_, ?_, ?_⟩ <;> (repeat (first | with_reducible assumption | with_reducible refine keep_drew ?_ | with_reducible refine keep_alloc _ ?_ | with_reducible refine keep_below (by assumption) ?_)))
      clear hK K
      (try simp only [Act.put, List.setIfInBounds_toArray, List.set_cons_zero, List.set_cons_succ])
      refine wpAnyH_ready (rs := [14]) (by kernel_rfl) (by simp) ?_
      refine AllReadyH.cons (o := { dst := some 21, op := Go.Op.call { callee := Go.Callee.value (Go.Operand.func 19), args := #[Go.Operand.tmp 20], argTypes := #[3] }, type := 9, pos := "l4_word.go:233", after := #[{ on := 13, ground := Go.Ground.data }, { on := 11, ground := Go.Ground.chain }], guard := none }) rfl (fun K hK => ?_) AllReadyH.nil
      go_simp
      refine (itoa6_lit s _ (by omega) (by omega) hx4.out _ t4).mono ?_; rintro r o5 ⟨rfl, b5⟩; have t5 := t4.below b5; have g5 := g4.below b5
      go_wp2_with fail
      refine hK.out _ _ ?_ (fun hHeld => ?_)
      · (try dsimp only); (refine ⟨?_, ?_, ?_, ?_, ?_, ?_, ?_, ?_, ?_, ?_, ?_⟩ <;> (repeat (first | with_reducible assumption | with_reducible refine keep_drew ?_ | with_reducible refine keep_alloc _ ?_ | with_reducible refine keep_below (by assumption) ?_)))
      clear hK K
      (try simp only [Act.put, List.setIfInBounds_toArray, List.set_cons_zero, List.set_cons_succ])
      refine wpAnyH_ready (rs := [17]) (by kernel_rfl) (by simp) ?_
      refine AllReadyH.cons (o := { dst := some 24, op := Go.Op.call { callee := Go.Callee.value (Go.Operand.func 19), args := #[Go.Operand.tmp 23], argTypes := #[3] }, type := 9, pos := "l4_word.go:233", after := #[{ on := 16, ground := Go.Ground.data }, { on := 14, ground := Go.Ground.chain }], guard := none }) rfl (fun K hK => ?_) AllReadyH.nil
      go_simp
      refine (itoa6_lit q _ (by omega) (by omega) hx5.out _ t5).mono ?_; rintro r o6 ⟨rfl, b6⟩; have t6 := t5.below b6; have g6 := g5.below b6
      go_wp2_with fail
      refine hK.out _ _ ?_ (fun hHeld => ?_)
      · (try dsimp only); (refine ⟨?_, ?_, ?_, ?_, ?_, ?_, ?_, ?_, ?_, ?_, ?_⟩ <;> (repeat (first | with_reducible assumption | with_reducible refine keep_drew ?_ | with_reducible refine keep_alloc _ ?_ | with_reducible refine keep_below (by assumption) ?_)))
      clear hK K
      (try simp only [Act.put, List.setIfInBounds_toArray, List.set_cons_zero, List.set_cons_succ])
      refine wpAnyH_ready (rs := [21]) (by kernel_rfl) (by simp) ?_
      refine AllReadyH.cons (o := { dst := some 28, op := Go.Op.call { callee := Go.Callee.value (Go.Operand.func 20), args := #[Go.Operand.tmp 27], argTypes := #[3] }, type := 9, pos := "l4_word.go:234", after := #[{ on := 20, ground := Go.Ground.data }, { on := 17, ground := Go.Ground.chain }], guard := none }) rfl (fun K hK => ?_) AllReadyH.nil
      go_simp
      refine (sgn_lit x _ (by omega) (by omega) hx6.out _ t6).mono ?_; rintro r o7 ⟨rfl, b7⟩; have t7 := t6.below b7; have g7 := g6.below b7
      go_wp2_with fail
      refine hK.out _ _ ?_ (fun hHeld => ?_)
      · (try dsimp only); (refine ⟨?_, ?_, ?_, ?_, ?_, ?_, ?_, ?_, ?_, ?_, ?_⟩ <;> (repeat (first | with_reducible assumption | with_reducible refine keep_drew ?_ | with_reducible refine keep_alloc _ ?_ | with_reducible refine keep_below (by assumption) ?_)))
      clear hK K
      (try simp only [Act.put, List.setIfInBounds_toArray, List.set_cons_zero, List.set_cons_succ])
      refine wpAnyH_ready (rs := [25]) (by kernel_rfl) (by simp) ?_
      refine AllReadyH.cons (o := { dst := some 32, op := Go.Op.call { callee := Go.Callee.value (Go.Operand.func 20), args := #[Go.Operand.tmp 31], argTypes := #[3] }, type := 9, pos := "l4_word.go:234", after := #[{ on := 24, ground := Go.Ground.data }, { on := 21, ground := Go.Ground.chain }], guard := none }) rfl (fun K hK => ?_) AllReadyH.nil
      go_simp
      refine (sgn_lit y _ (by omega) (by omega) hx7.out _ t7).mono ?_; rintro r o8 ⟨rfl, b8⟩; have t8 := t7.below b8; have g8 := g7.below b8
      go_wp2_with fail
      refine hK.out _ _ ?_ (fun hHeld => ?_)
      · (try dsimp only); (refine ⟨?_, ?_, ?_, ?_, ?_, ?_, ?_, ?_, ?_, ?_, ?_⟩ <;> (repeat (first | with_reducible assumption | with_reducible refine keep_drew ?_ | with_reducible refine keep_alloc _ ?_ | with_reducible refine keep_below (by assumption) ?_)))
      clear hK K
      (try simp only [Act.put, List.setIfInBounds_toArray, List.set_cons_zero, List.set_cons_succ])
      refine wpAnyH_ready (rs := [29]) (by kernel_rfl) (by simp) ?_
      refine AllReadyH.cons (o := { dst := some 36, op := Go.Op.call { callee := Go.Callee.value (Go.Operand.func 19), args := #[Go.Operand.tmp 35], argTypes := #[3] }, type := 9, pos := "l4_word.go:234", after := #[{ on := 28, ground := Go.Ground.data }, { on := 25, ground := Go.Ground.chain }], guard := none }) rfl (fun K hK => ?_) AllReadyH.nil
      go_simp
      refine (itoa6_lit z _ (by omega) (by omega) hx8.out _ t8).mono ?_; rintro r o9 ⟨rfl, b9⟩; have t9 := t8.below b9; have g9 := g8.below b9
      go_wp2_with fail
      refine hK.out _ _ ?_ (fun hHeld => ?_)
      · (try dsimp only); (refine ⟨?_, ?_, ?_, ?_, ?_, ?_, ?_, ?_, ?_, ?_, ?_⟩ <;> (repeat (first | with_reducible assumption | with_reducible refine keep_drew ?_ | with_reducible refine keep_alloc _ ?_ | with_reducible refine keep_below (by assumption) ?_)))
      clear hK K
      (try simp only [Act.put, List.setIfInBounds_toArray, List.set_cons_zero, List.set_cons_succ])
      refine wpAnyH_ready (rs := [33]) (by kernel_rfl) (by simp) ?_
      refine AllReadyH.cons (o := { dst := some 40, op := Go.Op.call { callee := Go.Callee.value (Go.Operand.func 19), args := #[Go.Operand.tmp 39], argTypes := #[3] }, type := 9, pos := "l4_word.go:234", after := #[{ on := 32, ground := Go.Ground.data }, { on := 29, ground := Go.Ground.chain }], guard := none }) rfl (fun K hK => ?_) AllReadyH.nil
      go_simp
      refine (itoa6_lit e _ (by omega) (by omega) hx9.out _ t9).mono ?_; rintro r o10 ⟨rfl, b10⟩; have t10 := t9.below b10; have g10 := g9.below b10
      go_wp2_with fail
      refine hK.out _ _ ?_ (fun hHeld => ?_)
      · (try dsimp only); (refine ⟨?_, ?_, ?_, ?_, ?_, ?_, ?_, ?_, ?_, ?_, ?_⟩ <;> (repeat (first | with_reducible assumption | with_reducible refine keep_drew ?_ | with_reducible refine keep_alloc _ ?_ | with_reducible refine keep_below (by assumption) ?_)))
      clear hK K
      (try simp only [Act.put, List.setIfInBounds_toArray, List.set_cons_zero, List.set_cons_succ])
      refine wpAnyH_ready (rs := [36]) (by kernel_rfl) (by simp) ?_
      refine AllReadyH.cons (o := { dst := some 43, op := Go.Op.call { callee := Go.Callee.value (Go.Operand.func 21), args := #[Go.Operand.tmp 42], argTypes := #[30] }, type := 9, pos := "l4_word.go:235", after := #[{ on := 35, ground := Go.Ground.data }, { on := 33, ground := Go.Ground.chain }], guard := none }) rfl (fun K hK => ?_) AllReadyH.nil
      go_simp
      refine (text_lit a len cap F _ hx10.out _ g10 (by omega) t10).mono ?_; rintro r o11 ⟨rfl, b11⟩; have t11 := t10.below b11; have g11 := g10.below b11
      go_wp2_with fail
      refine hK.out _ _ ?_ (fun hHeld => ?_)
      · (try dsimp only); (refine ⟨?_, ?_, ?_, ?_, ?_, ?_, ?_, ?_, ?_, ?_, ?_⟩ <;> (repeat (first | with_reducible assumption | with_reducible refine keep_drew ?_ | with_reducible refine keep_alloc _ ?_ | with_reducible refine keep_below (by assumption) ?_)))
      clear hK K
      (try simp only [Act.put, List.setIfInBounds_toArray, List.set_cons_zero, List.set_cons_succ])
      refine wpAnyH_ready (rs := [37]) (by kernel_rfl) (by simp) ?_
      refine AllReadyH.cons (o := { dst := some 44, op := Go.Op.buildSlice 45 11 #[(0, Go.Operand.tmp 9), (1, Go.Operand.tmp 12), (2, Go.Operand.tmp 15), (3, Go.Operand.tmp 18), (4, Go.Operand.tmp 21), (5, Go.Operand.tmp 24), (6, Go.Operand.tmp 28), (7, Go.Operand.tmp 32), (8, Go.Operand.tmp 36), (9, Go.Operand.tmp 40), (10, Go.Operand.tmp 43)], type := 45, pos := "l4_word.go:231", after := #[{ on := 2, ground := Go.Ground.data }, { on := 5, ground := Go.Ground.data }, { on := 8, ground := Go.Ground.data }, { on := 11, ground := Go.Ground.data }, { on := 14, ground := Go.Ground.data }, { on := 17, ground := Go.Ground.data }, { on := 21, ground := Go.Ground.data }, { on := 25, ground := Go.Ground.data }, { on := 29, ground := Go.Ground.data }, { on := 33, ground := Go.Ground.data }, { on := 36, ground := Go.Ground.data }], guard := none }) rfl (fun K hK => ?_) AllReadyH.nil
      go_simp
      refine hK.out _ _ ?_ (fun hHeld => ?_)
      · (try dsimp only); (refine ⟨?_, ?_, ?_, ?_, ?_, ?_, ?_, ?_, ?_, ?_, ?_⟩ <;> (repeat (first | with_reducible assumption | with_reducible refine keep_drew ?_ | with_reducible refine keep_alloc _ ?_ | with_reducible refine keep_below (by assumption) ?_)))
      clear hK K
      (try simp only [Act.put, List.setIfInBounds_toArray, List.set_cons_zero, List.set_cons_succ])
      refine wpAnyH_ready (rs := [38]) (by kernel_rfl) (by simp) ?_
      refine AllReadyH.cons (o := { dst := some 45, op := Go.Op.call { callee := Go.Callee.value (Go.Operand.func 17), args := #[Go.Operand.tmp 44, Go.Operand.const (Go.Value.string { data := #[32] })], argTypes := #[45, 9] }, type := 9, pos := "l4_word.go:231", after := #[{ on := 37, ground := Go.Ground.data }, { on := 36, ground := Go.Ground.chain }], guard := none }) rfl (fun K hK => ?_) AllReadyH.nil
      go_simp
      refine (join11 x0 x1 x2 x3 x4 x5 x6 x7 x8 x9 x10 J hJ.out hJs _).mono ?_; rintro r o12 ⟨rfl, b12⟩
      go_wp2_with fail
      refine hK.out _ _ ?_ (fun hHeld => ?_)
      · (try dsimp only); (refine ⟨?_, ?_, ?_, ?_, ?_, ?_, ?_, ?_, ?_, ?_, ?_⟩ <;> (repeat (first | with_reducible assumption | with_reducible refine keep_drew ?_ | with_reducible refine keep_alloc _ ?_ | with_reducible refine keep_below (by assumption) ?_)))
      clear hK K
      (try simp only [Act.put, List.setIfInBounds_toArray, List.set_cons_zero, List.set_cons_succ])
      refine wpAnyH_take (i := 39) (oi := { dst := some 3, op := Go.Op.assign (Go.Operand.tmp 45), type := 9, pos := "l4_word.go:231", after := #[{ on := 38, ground := Go.Ground.data }, { on := 38, ground := Go.Ground.chain }, { on := 0, ground := Go.Ground.phase }, { on := 1, ground := Go.Ground.phase }, { on := 2, ground := Go.Ground.phase }, { on := 3, ground := Go.Ground.phase }, { on := 4, ground := Go.Ground.phase }, { on := 5, ground := Go.Ground.phase }, { on := 6, ground := Go.Ground.phase }, { on := 7, ground := Go.Ground.phase }, { on := 8, ground := Go.Ground.phase }, { on := 9, ground := Go.Ground.phase }, { on := 10, ground := Go.Ground.phase }, { on := 11, ground := Go.Ground.phase }, { on := 12, ground := Go.Ground.phase }, { on := 13, ground := Go.Ground.phase }, { on := 14, ground := Go.Ground.phase }, { on := 15, ground := Go.Ground.phase }, { on := 16, ground := Go.Ground.phase }, { on := 17, ground := Go.Ground.phase }, { on := 18, ground := Go.Ground.phase }, { on := 19, ground := Go.Ground.phase }, { on := 20, ground := Go.Ground.phase }, { on := 21, ground := Go.Ground.phase }, { on := 22, ground := Go.Ground.phase }, { on := 23, ground := Go.Ground.phase }, { on := 24, ground := Go.Ground.phase }, { on := 25, ground := Go.Ground.phase }, { on := 26, ground := Go.Ground.phase }, { on := 27, ground := Go.Ground.phase }, { on := 28, ground := Go.Ground.phase }, { on := 29, ground := Go.Ground.phase }, { on := 30, ground := Go.Ground.phase }, { on := 31, ground := Go.Ground.phase }, { on := 32, ground := Go.Ground.phase }, { on := 33, ground := Go.Ground.phase }, { on := 34, ground := Go.Ground.phase }, { on := 35, ground := Go.Ground.phase }, { on := 36, ground := Go.Ground.phase }, { on := 37, ground := Go.Ground.phase }, { on := 38, ground := Go.Ground.phase }], guard := none }) (v := ?_) rfl (by kernel_rfl) (by kernel_rfl) (by kernel_rfl) (fun _ _ _ h => h) (Or.inl ⟨by rfl, ?_⟩) (by assumption) ?_
      rotate_left 1
      · (intro w hSw; (try dsimp only at hSw); go_simp; try with_reducible rfl)
      (try simp only [Act.put, List.setIfInBounds_toArray, List.set_cons_zero, List.set_cons_succ])
      refine wpAnyH_done (by kernel_rfl) ?_ _
      have BJ : Below w.heap.size w o12 := btrans (balloc _ (btrans (btrans (btrans (btrans (btrans (btrans (btrans (btrans (btrans (btrans (btrans (qd B1) b1) b2) b3) b4) b5) b6) b7) b8) b9) b10) b11)) b12
      clear hHeld
      have k1 : ¬ 9223372036854775807 < J.size + 1 := by omega
      go_wp2_with fail
      refine (S.sum_any J (by omega) _).mono ?_
      rintro r o13 ⟨rfl, b13⟩
      have B13 := btrans BJ b13
      generalize hsn : S.sumN J = sn at *
      go_wp2_with fail
      refine (S.sumText_any sn hsm _ ((B13.cell (p := ⟨5, 15, none⟩) (S.cell_lt hc)).trans hc)).mono ?_
      rintro r o14 ⟨rfl, b14⟩
      have B14 := btrans B13 b14
      have hH : (bs (S.hex8 sn)).size = 8 := S.hexP_len 8 sn
      clear hsn
      generalize bs (S.hex8 sn) = H at *
      have k2 : ¬ 9223372036854775807 < J.size + 1 + H.size := by omega
      go_wp2
      go_ret
      exact ⟨by rw [e1.out]; rfl, B14⟩

end Go.Proofs.YtibnojbhoepcdaaDoor
