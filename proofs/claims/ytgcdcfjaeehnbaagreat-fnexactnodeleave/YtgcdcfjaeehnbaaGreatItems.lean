/- Lists of items in memory: what is read of them; the copy that the laws make; whether they are the same; whether they rise. -/
import Derived.Test.YtgcdcfjaeehnbaaGreatGatesF
namespace Go.Proofs.YtgcdcfjaeehnbaaGreat
open Go.ChangeShapes Go.WideShapes Go.ChangeAt Go.RowKit
set_option maxRecDepth 10000
set_option maxHeartbeats 1000000
attribute [local go_sem ↓] Go.wp_at_zero Go.wp_at_succ
structure It where
 n : Int
 i : Int
 s : Int
 g : Bool
 l : Int
def ItemsIn (w : World) (b off len : Nat) (F : Nat → It) : Prop :=
 ∀ k, k < len → w.cell? ⟨b, off + k * 5, none⟩ = some (.int .i64 (F k).n) ∧ w.cell? ⟨b, off + k * 5 + 1, none⟩ = some (.int .i64 (F k).i) ∧ w.cell? ⟨b, off + k * 5 + 2, none⟩ = some (.int .i64 (F k).s) ∧ w.cell? ⟨b, off + k * 5 + 3, none⟩ = some (.bool (F k).g) ∧ w.cell? ⟨b, off + k * 5 + 4, none⟩ = some (.int .i64 (F k).l)
def TSl (w : World) (a : Option Addr) (len : Nat) (F : Nat → It) : Prop :=
 0 < len → ∃ b off, a = some ⟨b, off, none⟩ ∧ b < w.heap.size ∧ ItemsIn w b off len F
theorem ItemsIn.below {B : Nat} {w w' : World} {b off len : Nat} {F : Nat → It} (h : ItemsIn w b off len F) (hb : Below B w w') (hl : b < B) : ItemsIn w' b off len F := fun k hk => by
 obtain ⟨h0, h1, h2, h3, h4⟩ := h k hk
 exact ⟨(hb.cell (p := ⟨b, _, none⟩) hl).trans h0, (hb.cell (p := ⟨b, _, none⟩) hl).trans h1, (hb.cell (p := ⟨b, _, none⟩) hl).trans h2, (hb.cell (p := ⟨b, _, none⟩) hl).trans h3, (hb.cell (p := ⟨b, _, none⟩) hl).trans h4⟩
theorem TSl.below {w w' : World} {a : Option Addr} {len : Nat} {F : Nat → It} (h : TSl w a len F) (hb : Below w.heap.size w w') : TSl w' a len F := fun hl => by
 obtain ⟨b, off, e, hlt, hf⟩ := h hl
 exact ⟨b, off, e, by have := hb.size; omega, hf.below hb hlt⟩
def tv (F : Nat → It) (k : Nat) : Value := if k % 5 = 0 then .int .i64 (F (k / 5)).n else if k % 5 = 1 then .int .i64 (F (k / 5)).i else if k % 5 = 2 then .int .i64 (F (k / 5)).s else if k % 5 = 3 then .bool (F (k / 5)).g else .int .i64 (F (k / 5)).l
theorem trow_in {w : World} {b t n : Nat} {F : Nat → It} (h : w.rowIs b t (n * 5) (tv F)) : ItemsIn w b 0 n F := fun k hk => by
 have e0 := h.cell (i := k * 5) (by omega)
 have e1 := h.cell (i := k * 5 + 1) (by omega)
 have e2 := h.cell (i := k * 5 + 2) (by omega)
 have e3 := h.cell (i := k * 5 + 3) (by omega)
 have e4 := h.cell (i := k * 5 + 4) (by omega)
 have m1 : (k * 5 + 1) % 5 = 1 ∧ (k * 5 + 1) / 5 = k := by omega
 have m2 : (k * 5 + 2) % 5 = 2 ∧ (k * 5 + 2) / 5 = k := by omega
 have m3 : (k * 5 + 3) % 5 = 3 ∧ (k * 5 + 3) / 5 = k := by omega
 have m4 : (k * 5 + 4) % 5 = 4 ∧ (k * 5 + 4) / 5 = k := by omega
 simp only [Nat.zero_add]
 simp [tv] at e0
 simp [tv, m1.1, m1.2] at e1
 simp [tv, m2.1, m2.2] at e2
 simp [tv, m3.1, m3.2] at e3
 simp [tv, m4.1, m4.2] at e4
 exact ⟨e0, e1, e2, e3, e4⟩
def It.zero : It := ⟨0, 0, 0, false, 0⟩
theorem info78 : (Tryz.prog.info? 127).map (fun i => (i.zero, i.size, i.bytes)) = some (some (.agg #[.int .i64 0, .int .i64 0, .int .i64 0, .bool false, .int .i64 0]), 5, 40) := by kernel_rfl
theorem run_make_items (n : Nat) (hn : n ≤ 1048576) (w : World) :
  (Instr.makeSlice 35 (.int .i64 (n : Int)) (.int .i64 (n : Int))).run Tryz.prog w = .ok (.slice (some ⟨w.heap.size, 0, none⟩) n n) (w.alloc (.cells (madeCells #[.int .i64 0, .int .i64 0, .int .i64 0, .bool false, .int .i64 0] (n * 5)) 127)) := by
 obtain ⟨i, hi, hzz⟩ := Option.map_eq_some_iff.1 info78
 simp only [Prod.mk.injEq] at hzz
 obtain ⟨hz, hs, hb⟩ := hzz
 have hr := run_make (P := Tryz.prog) w 35 127 i _ Tryz.underlying35 hi hz .i64 .i64 n n (by omega) (Int.le_refl _) (by rw [hb]; omega) (by omega)
 rw [hr, hs, Int.toNat_natCast]
 rfl
theorem trow_made (n : Nat) (w : World) : (w.alloc (.cells (madeCells #[.int .i64 0, .int .i64 0, .int .i64 0, .bool false, .int .i64 0] (n * 5)) 127)).rowIs w.heap.size 127 (n * 5) (tv fun _ => It.zero) :=
 ⟨_, heap_alloc_new _ _, size_madeCells _ _, fun i hi => by
  have : i % 5 = 0 ∨ i % 5 = 1 ∨ i % 5 = 2 ∨ i % 5 = 3 ∨ i % 5 = 4 := by omega
  rcases this with h | h | h | h | h <;> simp [madeCells, hi, tv, h, It.zero]⟩
theorem trow_put {w : World} {b n k : Nat} {F : Nat → It} (h : w.rowIs b 127 (n * 5) (tv F)) (x : It) :
  (((((w.setCell ⟨b, k * 5, none⟩ (.int .i64 x.n)).setCell ⟨b, k * 5 + 1, none⟩ (.int .i64 x.i)).setCell ⟨b, k * 5 + 2, none⟩ (.int .i64 x.s)).setCell ⟨b, k * 5 + 3, none⟩ (.bool x.g)).setCell ⟨b, k * 5 + 4, none⟩ (.int .i64 x.l)).rowIs b 127 (n * 5) (tv fun j => if j = k then x else F j) :=
 (((((h.set (k * 5) _).set (k * 5 + 1) _).set (k * 5 + 2) _).set (k * 5 + 3) _).set (k * 5 + 4) _).congr fun j hj => by
  by_cases e : j / 5 = k
  ·have : j % 5 = 0 ∨ j % 5 = 1 ∨ j % 5 = 2 ∨ j % 5 = 3 ∨ j % 5 = 4 := by omega
   rcases this with h | h | h | h | h
   ·have : j = k * 5 := by omega
    subst this; simp [tv]
   ·have : j = k * 5 + 1 := by omega
    subst this; simp [tv, h, e]
   ·have : j = k * 5 + 2 := by omega
    subst this; simp [tv, h, e]
   ·have : j = k * 5 + 3 := by omega
    subst this; simp [tv, h, e]
   ·have : j = k * 5 + 4 := by omega
    subst this; simp [tv, h, e]
  ·have h0 : ¬ j = k * 5 := by omega
   have h1 : ¬ j = k * 5 + 1 := by omega
   have h2 : ¬ j = k * 5 + 2 := by omega
   have h3 : ¬ j = k * 5 + 3 := by omega
   have h4 : ¬ j = k * 5 + 4 := by omega
   simp [tv, e, h0, h1, h2, h3, h4]
theorem szItemS_any (a : Option Addr) (len cap : Nat) (left : Int) (w : World) (h0 : 0 ≤ left) (h1 : left ≤ 1048576) (hl : len ≤ maxLen) :
  Calls Tryz.prog 24 #[.slice a len cap, .int .i64 left] w fun e w' => e = .returned (.int .i64 (if left < (len : Int) then -1 else left - len)) ∧ w' = w := by
 unfold maxLen at hl
 go_enter Tryz.func24, Tryz.ntmps24
 go_wp2
 all_goals (go_ret; exact ⟨ret_int (by first | rfl | (split <;> omega)), rfl⟩)
theorem toItem_below (n i s : Int) (g : Bool) (l : Int) (w : World) :
  Calls Tryz.prog 94 #[.agg #[.int .i64 n, .int .i64 i, .int .i64 s, .bool g, .int .i64 l]] w fun r w' => r = .returned (.agg #[.int .i64 n, .int .i64 i, .int .i64 s, .bool g, .int .i64 l]) ∧ Below w.heap.size w w' := by
 go_enter Tryz.func94, Tryz.ntmps94
 go_wp2_with (go_at_call 93; refine (toFact_any _ _ _ _ _).mono ?_; rintro e w' ⟨rfl, o1, o2, o3, rfl⟩)
 refine bodyPost_ret (v := .agg #[.int .i64 n, .int .i64 i, .int .i64 s, .bool g, .int .i64 l]) (by simp [results, Tryz.results94, go_sem]) rfl ⟨rfl, ?_⟩
 repeat (first | exact Below.refl _ _ | refine balloc _ ?_ | refine Below.setCell ?_ (by simp; try omega) _)
theorem below_set5 {w w' : World} {b o : Nat} (x y z e f : Value) (h : Below w.heap.size w w') (hb : w.heap.size ≤ b) :
  Below w.heap.size w (((((w'.setCell ⟨b, o, none⟩ x).setCell ⟨b, o + 1, none⟩ y).setCell ⟨b, o + 2, none⟩ z).setCell ⟨b, o + 3, none⟩ e).setCell ⟨b, o + 4, none⟩ f) :=
 ((((h.setCell (p := ⟨b, o, none⟩) hb x).setCell (p := ⟨b, o + 1, none⟩) hb y).setCell (p := ⟨b, o + 2, none⟩) hb z).setCell (p := ⟨b, o + 3, none⟩) hb e).setCell (p := ⟨b, o + 4, none⟩) hb f
theorem toItemS_any (a : Option Addr) (len cap : Nat) (F : Nat → It) (w : World) (h : TSl w a len F) (hl : len ≤ 1048576) (hc : len ≤ cap) :
  Calls Tryz.prog 32 #[.slice a len cap] w fun e w' => ∃ b, e = .returned (.slice (some ⟨b, 0, none⟩) len len) ∧ w'.rowIs b 127 (len * 5) (tv F) ∧ w.heap.size ≤ b ∧ Below w.heap.size w w' := by
 have hmk := run_make_items len hl
 go_enter Tryz.func32, Tryz.ntmps32
 go_wp2
 go_loopw [4] (fun i wr => ∃ k : Nat, k ≤ len ∧ i = .int .i64 k ∧ Below w.heap.size w wr ∧ wr.rowIs w.heap.size 127 (len * 5) (tv fun j => if j < k then F j else It.zero)) (fun i _ => len - (intOf i).toNat)
 case atStart => exact ⟨0, Nat.zero_le _, rfl, balloc _ (Below.refl _ _), by simpa using trow_made len w⟩
 case round =>
  obtain ⟨k, hk, rfl, hb, hr⟩ := hrel
  clear hmk
  by_cases hlt : k < len
  ·obtain ⟨b, off, rfl, hbl, hf⟩ := h (by omega)
   obtain ⟨c0, c1, c2, c3, c4⟩ := (hf.below hb hbl) k hlt
   go_wp2_with fail
   refine (toItem_below _ _ _ _ _ _).mono ?_
   rintro e w1 ⟨rfl, b1⟩
   have hr1 := row_below hr b1
   have hb1 := btrans hb b1
   have d0 := hr1.cell (i := k * 5) (by omega)
   have d1 := hr1.cell (i := k * 5 + 1) (by omega)
   have d2 := hr1.cell (i := k * 5 + 2) (by omega)
   have d3 := hr1.cell (i := k * 5 + 3) (by omega)
   have d4 := hr1.cell (i := k * 5 + 4) (by omega)
   have f0 := hr1.frozen (k * 5)
   have f1 := hr1.frozen (k * 5 + 1)
   have f2 := hr1.frozen (k * 5 + 2)
   have f3 := hr1.frozen (k * 5 + 3)
   have f4 := hr1.frozen (k * 5 + 4)
   clear hr b1 c0 c1 c2 c3 c4 hb
   go_wp2
   go_roundw
   case rel =>
    refine ⟨k + 1, by omega, by go_num, below_set5 _ _ _ _ _ hb1 (Nat.le_refl _), (trow_put hr1 (F k)).congr fun j _ => ?_⟩
    congr 1
    funext j
    by_cases e : j = k
    ·subst e; simp
    ·have : j < k + 1 ↔ j < k := by omega
     simp [e, this]
   case measure => simp [intOf]; omega
  ·go_wp2
   go_ret
   have e : k = len := by omega
   subst e
   refine ⟨w.heap.size, rfl, hr.congr fun j hj => ?_, Nat.le_refl _, hb⟩
   have : j / 5 < k := by omega
   simp [tv, this]
theorem tkey_any (n i s : Int) (g : Bool) (l : Int) (w : World) :
  Calls Tryz.prog 232 #[.agg #[.int .i64 n, .int .i64 i, .int .i64 s, .bool g, .int .i64 l]] w fun r w' => r = .returned (.int .i64 n) ∧ Below w.heap.size w w' := by
 go_enter Tryz.func232, Tryz.ntmps232
 go_wp2
 go_ret
 exact ⟨rfl, balloc _ (Below.refl _ _)⟩
def tascB (len : Nat) (F : Nat → It) : Bool := risB len fun k => (F k).n
theorem tasc_any (a : Option Addr) (len cap : Nat) (F : Nat → It) (w : World) (h : TSl w a len F) (hl : len ≤ 1048576) :
  Calls Tryz.prog 219 #[.slice a len cap] w fun e w' => e = .returned (.bool (tascB len F)) ∧ Below w.heap.size w w' := by
 have hm : ∀ (n i s : Int) (g : Bool) (l : Int) (w : World), (method 402 127 (.agg #[.int .i64 n, .int .i64 i, .int .i64 s, .bool g, .int .i64 l]) "loop.example/lightship/impl.key").run Tryz.prog w = .ok (232, .agg #[.int .i64 n, .int .i64 i, .int .i64 s, .bool g, .int .i64 l]) w := fun _ _ _ _ _ _ => by kernel_rfl
 obtain ⟨ti, hi, hz0, hz1, hz2⟩ := info_parts info3
 go_enter Tryz.func219, Tryz.ntmps219
 go_wp2
 go_loopw [3, 5, 8] (fun v _ i wr => ∃ k : Nat, k ≤ len ∧ i = .int .i64 k ∧ wr.ownsRow w.heap.size 3 1 v k (iv (fun j => (F j).n) k) ∧ Below w.heap.size w wr) (fun _ _ i _ => len - (intOf i).toNat)
 case atStart => exact ⟨0, Nat.zero_le _, rfl, World.ownsRow_nil _ _ _ _, Below.refl _ _⟩
 case round =>
  obtain ⟨k, hk, rfl, hown, hb⟩ := hrel
  by_cases hlt : k < len
  ·obtain ⟨b, off, rfl, hbl, hf⟩ := h (by omega)
   obtain ⟨c0, c1, c2, c3, c4⟩ := (hf.below hb hbl) k hlt
   go_wp2_with fail
   refine (tkey_any _ _ _ _ _ _).mono ?_
   rintro e w1 ⟨rfl, b1⟩
   have B1 := btrans (balloc _ hb) b1
   have O1 := own_below (hown.alloc _) b1
   clear hown b1 hb c0 c1 c2 c3 c4
   go_wp2_with (at_builtin; refine wpList_append_own _ rfl _ _ 54 rfl w.heap.size 3 ti (.int .i64 0) 1 8 Tryz.underlying54 hi hz0 hz1 hz2 rfl (by decide) _ _ _ rfl (O1.alloc _) ⟨w1.heap.size, 0, none⟩ 1 1 [.int .i64 (F k).n] rfl rfl ?c1 ?c2 ?c3 ?c4 ?c5 ?_)
   case c1 =>
    intro j u hj
    match j, hj with
    | 0, hj => simp at hj; subst hj; simp [Addr.add]
   case c2 => intro u hu; simp at hu; subst hu; rfl
   case c3 => unfold maxLen; omega
   case c4 => omega
   case c5 => have := B1.size; simp; omega
   ·intro v' w2 hown' hgrow _
    have B2 := own_grow (balloc (.cells #[.int .i64 (F k).n] 3) B1) (by have := B1.size; simp; omega) (O1.alloc _) hgrow
    clear O1 hgrow B1
    go_wp2
    go_roundw
    case rel => exact ⟨k + 1, by omega, by go_num, by rw [iv_succ]; exact hown', B2⟩
    case measure => simp [intOf]; omega
  ·have e : k = len := by omega
   subst e
   obtain ⟨a', cap', rfl, hc', hI⟩ := own_ints hown
   clear hown
   go_wp2_with fail
   refine (rising_any _ _ _ _ _ hI hl).mono ?_
   rintro e w1 ⟨rfl, b1⟩
   go_wp2
   go_ret
   exact ⟨rfl, btrans hb b1⟩
theorem eqItem_same (n i s : Int) (g : Bool) (l : Int) (w : World) :
  Calls Tryz.prog 120 #[.agg #[.int .i64 n, .int .i64 i, .int .i64 s, .bool g, .int .i64 l], .agg #[.int .i64 n, .int .i64 i, .int .i64 s, .bool g, .int .i64 l]] w fun r w' => r = .returned (.bool true) ∧ Below w.heap.size w w' := by
 have e1 : ¬ (l ≠ l) := by simp
 go_enter Tryz.func120, Tryz.ntmps120
 go_wp2_with fail
 refine (eqFact_same _ _ _ _ _).mono ?_
 rintro e w1 ⟨rfl, b1⟩
 have B1 := btrans (balloc _ (balloc _ (Below.refl _ _))) b1
 have p0 := keep_below b1 (show ((w.alloc (.cells #[.int .i64 n, .int .i64 i, .int .i64 s, .bool g, .int .i64 l] 127)).alloc (.cells #[.int .i64 n, .int .i64 i, .int .i64 s, .bool g, .int .i64 l] 127)).cell? ⟨w.heap.size, 4, none⟩ = some (.int .i64 l) by simp [go_sem])
 have p1 := keep_below b1 (show ((w.alloc (.cells #[.int .i64 n, .int .i64 i, .int .i64 s, .bool g, .int .i64 l] 127)).alloc (.cells #[.int .i64 n, .int .i64 i, .int .i64 s, .bool g, .int .i64 l] 127)).cell? ⟨w.heap.size + 1, 4, none⟩ = some (.int .i64 l) by simp [go_sem])
 go_wp2
 go_ret
 exact ⟨rfl, B1⟩
theorem eqItemS_same (a a' : Option Addr) (len cap cap' : Nat) (F : Nat → It) (w : World) (h : TSl w a len F) (h' : TSl w a' len F) (hl : len ≤ 1048576) :
  Calls Tryz.prog 47 #[.slice a len cap, .slice a' len cap'] w fun e w' => e = .returned (.bool true) ∧ Below w.heap.size w w' := by
 go_enter Tryz.func47, Tryz.ntmps47
 go_wp2
 go_loopw [5] (fun i wr => ∃ k : Nat, k ≤ len ∧ i = .int .i64 k ∧ Below w.heap.size w wr) (fun i _ => len - (intOf i).toNat)
 case atStart => exact ⟨0, Nat.zero_le _, rfl, Below.refl _ _⟩
 case round =>
  obtain ⟨k, hk, rfl, hb⟩ := hrel
  by_cases hlt : k < len
  ·obtain ⟨b, off, rfl, hbl, hf⟩ := h (by omega)
   obtain ⟨c0, c1, c2, c3, c4⟩ := (hf.below hb hbl) k hlt
   obtain ⟨b', off', rfl, hbl', hf'⟩ := h' (by omega)
   obtain ⟨d0, d1, d2, d3, d4⟩ := (hf'.below hb hbl') k hlt
   have i0 : (0 : Int) ≤ (k : Int) := by omega
   have i1 : (k : Int) < (len : Int) := by omega
   go_wp2_with fail
   go_region_held3 (fun w' => w'.cell? ⟨b, off + k * 5, none⟩ = some (.int .i64 (F k).n) ∧ w'.cell? ⟨b, off + k * 5 + 1, none⟩ = some (.int .i64 (F k).i) ∧ w'.cell? ⟨b, off + k * 5 + 2, none⟩ = some (.int .i64 (F k).s) ∧ w'.cell? ⟨b, off + k * 5 + 3, none⟩ = some (.bool (F k).g) ∧ w'.cell? ⟨b, off + k * 5 + 4, none⟩ = some (.int .i64 (F k).l) ∧ w'.cell? ⟨b', off' + k * 5, none⟩ = some (.int .i64 (F k).n) ∧ w'.cell? ⟨b', off' + k * 5 + 1, none⟩ = some (.int .i64 (F k).i) ∧ w'.cell? ⟨b', off' + k * 5 + 2, none⟩ = some (.int .i64 (F k).s) ∧ w'.cell? ⟨b', off' + k * 5 + 3, none⟩ = some (.bool (F k).g) ∧ w'.cell? ⟨b', off' + k * 5 + 4, none⟩ = some (.int .i64 (F k).l)) (refine ⟨?_, ?_, ?_, ?_, ?_, ?_, ?_, ?_, ?_, ?_⟩ <;> (repeat (first | with_reducible assumption | with_reducible refine keep_drew ?_ | with_reducible refine keep_below (by assumption) ?_))) (first | (go_at_call 120; refine (eqItem_same _ _ _ _ _ _).mono ?_; rintro e w1 ⟨rfl, b1⟩))
   go_wp2
   go_roundw
   case rel => exact ⟨k + 1, by omega, by go_num, btrans hb.drew b1⟩
   case measure => simp [intOf]; omega
  ·go_wp2
   go_ret
   exact ⟨rfl, hb⟩
end Go.Proofs.YtgcdcfjaeehnbaaGreat
