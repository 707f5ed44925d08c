/- Nodes: doubts, places, foreigns. -/
import Derived.Test.YtgcdcfjaeehnbaaGreatNd7
namespace Go.Proofs.YtgcdcfjaeehnbaaGreat
open Go.ChangeShapes Go.WideShapes Go.ChangeAt Go.RowKit
set_option maxRecDepth 20000
set_option maxHeartbeats 1000000
attribute [local go_sem ↓] Go.wp_at_zero Go.wp_at_succ
structure Dt where
 n : Int
 i : Int
 s : Int
 ba : Option Addr
 bl : Nat
 bc : Nat
 bf : Nat → Int
def DtIn (w : World) (b off len : Nat) (F : Nat → Dt) : Prop :=
 ∀ k, k < len → w.cell? ⟨b, off + k * 4, none⟩ = some (.int .i64 (F k).n) ∧ w.cell? ⟨b, off + k * 4 + 1, none⟩ = some (.int .i64 (F k).i) ∧ w.cell? ⟨b, off + k * 4 + 2, none⟩ = some (.int .i64 (F k).s) ∧ w.cell? ⟨b, off + k * 4 + 3, none⟩ = some (.slice (F k).ba (F k).bl (F k).bc)
def DtSl (w : World) (a : Option Addr) (len : Nat) (F : Nat → Dt) : Prop :=
 0 < len → ∃ b off, a = some ⟨b, off, none⟩ ∧ b < w.heap.size ∧ DtIn w b off len F
theorem DtIn.below {B : Nat} {w w' : World} {b off len : Nat} {F : Nat → Dt} (h : DtIn w b off len F) (hb : Below B w w') (hl : b < B) : DtIn w' b off len F := fun k hk => by
 obtain ⟨h0, h1, h2, h3⟩ := h k hk
 exact ⟨(hb.cell (p := ⟨b, _, none⟩) hl).trans h0, (hb.cell (p := ⟨b, _, none⟩) hl).trans h1, (hb.cell (p := ⟨b, _, none⟩) hl).trans h2, (hb.cell (p := ⟨b, _, none⟩) hl).trans h3⟩
theorem DtSl.below {w w' : World} {a : Option Addr} {len : Nat} {F : Nat → Dt} (h : DtSl w a len F) (hb : Below w.heap.size w w') : DtSl w' a len F := fun hl => by
 obtain ⟨b, off, e, hlt, hf⟩ := h hl
 exact ⟨b, off, e, by have := hb.size; omega, hf.below hb hlt⟩
theorem Dtkey_any (n i s : Int) (ba : Option Addr) (bl bc : Nat) (w : World) :
  Calls Tryz.prog 313 #[.agg #[.int .i64 n, .int .i64 i, .int .i64 s, .slice ba bl bc]] w fun r w' => r = .returned (.int .i64 n) ∧ Below w.heap.size w w' := by
 go_enter Tryz.func313, Tryz.ntmps313
 go_wp2
 go_ret
 exact ⟨rfl, balloc _ (Below.refl _ _)⟩
def Dtasc (len : Nat) (F : Nat → Dt) : Bool := risB len fun k => (F k).n
theorem Dtasc_any (a : Option Addr) (len cap : Nat) (F : Nat → Dt) (w : World) (h : DtSl w a len F) (hl : len ≤ 1048576) :
  Calls Tryz.prog 161 #[.slice a len cap] w fun e w' => e = .returned (.bool (Dtasc len F)) ∧ Below w.heap.size w w' := by
 have hm : ∀ (n i s : Int) (ba : Option Addr) (bl bc : Nat) (w : World), (method 402 121 (.agg #[.int .i64 n, .int .i64 i, .int .i64 s, .slice ba bl bc]) "loop.example/lightship/impl.key").run Tryz.prog w = .ok (313, .agg #[.int .i64 n, .int .i64 i, .int .i64 s, .slice ba bl bc]) w := fun _ _ _ _ _ _ _ => by kernel_rfl
 obtain ⟨ti, hi, hz0, hz1, hz2⟩ := info_parts info3
 go_enter Tryz.func161, Tryz.ntmps161
 go_wp2
 go_loopw [3, 5, 8] (fun v _ i wr => ∃ k : Nat, k ≤ len ∧ i = .int .i64 k ∧ wr.ownsRow w.heap.size 3 1 v k (iv (fun j => (F j).n) k) ∧ Below w.heap.size w wr) (fun _ _ i _ => len - (intOf i).toNat)
 case atStart => exact ⟨0, Nat.zero_le _, rfl, World.ownsRow_nil _ _ _ _, Below.refl _ _⟩
 case round =>
  obtain ⟨k, hk, rfl, hown, hb⟩ := hrel
  by_cases hlt : k < len
  ·obtain ⟨b, off, rfl, hbl, hf⟩ := h (by omega)
   obtain ⟨c0, c1, c2, c3⟩ := (hf.below hb hbl) k hlt
   go_wp2_with fail
   refine (Dtkey_any _ _ _ _ _ _ _).mono ?_
   rintro e w1 ⟨rfl, b1⟩
   have B1 := btrans (balloc _ hb) b1
   have O1 := own_below (hown.alloc _) b1
   clear hown b1 hb c0 c1 c2 c3
   go_wp2_with (at_builtin; refine wpList_append_own _ rfl _ _ 54 rfl w.heap.size 3 ti (.int .i64 0) 1 8 Tryz.underlying54 hi hz0 hz1 hz2 rfl (by decide) _ _ _ rfl (O1.alloc _) ⟨w1.heap.size, 0, none⟩ 1 1 [.int .i64 (F k).n] rfl rfl ?c1 ?c2 ?c3 ?c4 ?c5 ?_)
   case c1 =>
    intro j u hj
    match j, hj with
    | 0, hj => simp at hj; subst hj; simp [Addr.add]
   case c2 => intro u hu; simp at hu; subst hu; rfl
   case c3 => unfold maxLen; omega
   case c4 => omega
   case c5 => have := B1.size; simp; omega
   ·intro v' w2 hown' hgrow _
    have B2 := own_grow (balloc (.cells #[.int .i64 (F k).n] 3) B1) (by have := B1.size; simp; omega) (O1.alloc _) hgrow
    clear O1 hgrow B1
    go_wp2
    go_roundw
    case rel => exact ⟨k + 1, by omega, by go_num, by rw [iv_succ]; exact hown', B2⟩
    case measure => simp [intOf]; omega
  ·have e : k = len := by omega
   subst e
   obtain ⟨a', cap', rfl, hc', hI⟩ := own_ints hown
   clear hown
   go_wp2_with fail
   refine (rising_any _ _ _ _ _ hI hl).mono ?_
   rintro e w1 ⟨rfl, b1⟩
   go_wp2
   go_ret
   exact ⟨rfl, btrans hb b1⟩
structure Pl where
 n : Int
 x : Int
 y : Int
 h : Int
 e : Int
 ba : Option Addr
 bl : Nat
 bc : Nat
 bf : Nat → Int
def PlIn (w : World) (b off len : Nat) (F : Nat → Pl) : Prop :=
 ∀ k, k < len → w.cell? ⟨b, off + k * 6, none⟩ = some (.int .i64 (F k).n) ∧ w.cell? ⟨b, off + k * 6 + 1, none⟩ = some (.int .i64 (F k).x) ∧ w.cell? ⟨b, off + k * 6 + 2, none⟩ = some (.int .i64 (F k).y) ∧ w.cell? ⟨b, off + k * 6 + 3, none⟩ = some (.int .i64 (F k).h) ∧ w.cell? ⟨b, off + k * 6 + 4, none⟩ = some (.int .i64 (F k).e) ∧ w.cell? ⟨b, off + k * 6 + 5, none⟩ = some (.slice (F k).ba (F k).bl (F k).bc)
def PlSl (w : World) (a : Option Addr) (len : Nat) (F : Nat → Pl) : Prop :=
 0 < len → ∃ b off, a = some ⟨b, off, none⟩ ∧ b < w.heap.size ∧ PlIn w b off len F
theorem PlIn.below {B : Nat} {w w' : World} {b off len : Nat} {F : Nat → Pl} (h : PlIn w b off len F) (hb : Below B w w') (hl : b < B) : PlIn w' b off len F := fun k hk => by
 obtain ⟨h0, h1, h2, h3, h4, h5⟩ := h k hk
 exact ⟨(hb.cell (p := ⟨b, _, none⟩) hl).trans h0, (hb.cell (p := ⟨b, _, none⟩) hl).trans h1, (hb.cell (p := ⟨b, _, none⟩) hl).trans h2, (hb.cell (p := ⟨b, _, none⟩) hl).trans h3, (hb.cell (p := ⟨b, _, none⟩) hl).trans h4, (hb.cell (p := ⟨b, _, none⟩) hl).trans h5⟩
theorem PlSl.below {w w' : World} {a : Option Addr} {len : Nat} {F : Nat → Pl} (h : PlSl w a len F) (hb : Below w.heap.size w w') : PlSl w' a len F := fun hl => by
 obtain ⟨b, off, e, hlt, hf⟩ := h hl
 exact ⟨b, off, e, by have := hb.size; omega, hf.below hb hlt⟩
theorem Plkey_any (n x y h e : Int) (ba : Option Addr) (bl bc : Nat) (w : World) :
  Calls Tryz.prog 312 #[.agg #[.int .i64 n, .int .i64 x, .int .i64 y, .int .i64 h, .int .i64 e, .slice ba bl bc]] w fun r w' => r = .returned (.int .i64 n) ∧ Below w.heap.size w w' := by
 go_enter Tryz.func312, Tryz.ntmps312
 go_wp2
 go_ret
 exact ⟨rfl, balloc _ (Below.refl _ _)⟩
def Plasc (len : Nat) (F : Nat → Pl) : Bool := risB len fun k => (F k).n
theorem Plasc_any (a : Option Addr) (len cap : Nat) (F : Nat → Pl) (w : World) (h : PlSl w a len F) (hl : len ≤ 1048576) :
  Calls Tryz.prog 168 #[.slice a len cap] w fun e w' => e = .returned (.bool (Plasc len F)) ∧ Below w.heap.size w w' := by
 have hm : ∀ (n x y h e : Int) (ba : Option Addr) (bl bc : Nat) (w : World), (method 402 103 (.agg #[.int .i64 n, .int .i64 x, .int .i64 y, .int .i64 h, .int .i64 e, .slice ba bl bc]) "loop.example/lightship/impl.key").run Tryz.prog w = .ok (312, .agg #[.int .i64 n, .int .i64 x, .int .i64 y, .int .i64 h, .int .i64 e, .slice ba bl bc]) w := fun _ _ _ _ _ _ _ _ _ => by kernel_rfl
 obtain ⟨ti, hi, hz0, hz1, hz2⟩ := info_parts info3
 go_enter Tryz.func168, Tryz.ntmps168
 go_wp2
 go_loopw [3, 5, 8] (fun v _ i wr => ∃ k : Nat, k ≤ len ∧ i = .int .i64 k ∧ wr.ownsRow w.heap.size 3 1 v k (iv (fun j => (F j).n) k) ∧ Below w.heap.size w wr) (fun _ _ i _ => len - (intOf i).toNat)
 case atStart => exact ⟨0, Nat.zero_le _, rfl, World.ownsRow_nil _ _ _ _, Below.refl _ _⟩
 case round =>
  obtain ⟨k, hk, rfl, hown, hb⟩ := hrel
  by_cases hlt : k < len
  ·obtain ⟨b, off, rfl, hbl, hf⟩ := h (by omega)
   obtain ⟨c0, c1, c2, c3, c4, c5⟩ := (hf.below hb hbl) k hlt
   go_wp2_with fail
   refine (Plkey_any _ _ _ _ _ _ _ _ _).mono ?_
   rintro e w1 ⟨rfl, b1⟩
   have B1 := btrans (balloc _ hb) b1
   have O1 := own_below (hown.alloc _) b1
   clear hown b1 hb c0 c1 c2 c3 c4 c5
   go_wp2_with (at_builtin; refine wpList_append_own _ rfl _ _ 54 rfl w.heap.size 3 ti (.int .i64 0) 1 8 Tryz.underlying54 hi hz0 hz1 hz2 rfl (by decide) _ _ _ rfl (O1.alloc _) ⟨w1.heap.size, 0, none⟩ 1 1 [.int .i64 (F k).n] rfl rfl ?c1 ?c2 ?c3 ?c4 ?c5 ?_)
   case c1 =>
    intro j u hj
    match j, hj with
    | 0, hj => simp at hj; subst hj; simp [Addr.add]
   case c2 => intro u hu; simp at hu; subst hu; rfl
   case c3 => unfold maxLen; omega
   case c4 => omega
   case c5 => have := B1.size; simp; omega
   ·intro v' w2 hown' hgrow _
    have B2 := own_grow (balloc (.cells #[.int .i64 (F k).n] 3) B1) (by have := B1.size; simp; omega) (O1.alloc _) hgrow
    clear O1 hgrow B1
    go_wp2
    go_roundw
    case rel => exact ⟨k + 1, by omega, by go_num, by rw [iv_succ]; exact hown', B2⟩
    case measure => simp [intOf]; omega
  ·have e : k = len := by omega
   subst e
   obtain ⟨a', cap', rfl, hc', hI⟩ := own_ints hown
   clear hown
   go_wp2_with fail
   refine (rising_any _ _ _ _ _ hI hl).mono ?_
   rintro e w1 ⟨rfl, b1⟩
   go_wp2
   go_ret
   exact ⟨rfl, btrans hb b1⟩
structure Fg where
 n : Int
 ba : Option Addr
 bl : Nat
 bc : Nat
 bf : Nat → Fc
def FgIn (w : World) (b off len : Nat) (F : Nat → Fg) : Prop :=
 ∀ k, k < len → w.cell? ⟨b, off + k * 2, none⟩ = some (.int .i64 (F k).n) ∧ w.cell? ⟨b, off + k * 2 + 1, none⟩ = some (.slice (F k).ba (F k).bl (F k).bc)
def FgSl (w : World) (a : Option Addr) (len : Nat) (F : Nat → Fg) : Prop :=
 0 < len → ∃ b off, a = some ⟨b, off, none⟩ ∧ b < w.heap.size ∧ FgIn w b off len F
theorem FgIn.below {B : Nat} {w w' : World} {b off len : Nat} {F : Nat → Fg} (h : FgIn w b off len F) (hb : Below B w w') (hl : b < B) : FgIn w' b off len F := fun k hk => by
 obtain ⟨h0, h1⟩ := h k hk
 exact ⟨(hb.cell (p := ⟨b, _, none⟩) hl).trans h0, (hb.cell (p := ⟨b, _, none⟩) hl).trans h1⟩
theorem FgSl.below {w w' : World} {a : Option Addr} {len : Nat} {F : Nat → Fg} (h : FgSl w a len F) (hb : Below w.heap.size w w') : FgSl w' a len F := fun hl => by
 obtain ⟨b, off, e, hlt, hf⟩ := h hl
 exact ⟨b, off, e, by have := hb.size; omega, hf.below hb hlt⟩
theorem Fgkey_any (n : Int) (ba : Option Addr) (bl bc : Nat) (w : World) :
  Calls Tryz.prog 314 #[.agg #[.int .i64 n, .slice ba bl bc]] w fun r w' => r = .returned (.int .i64 n) ∧ Below w.heap.size w w' := by
 go_enter Tryz.func314, Tryz.ntmps314
 go_wp2
 go_ret
 exact ⟨rfl, balloc _ (Below.refl _ _)⟩
def Fgasc (len : Nat) (F : Nat → Fg) : Bool := risB len fun k => (F k).n
theorem Fgasc_any (a : Option Addr) (len cap : Nat) (F : Nat → Fg) (w : World) (h : FgSl w a len F) (hl : len ≤ 1048576) :
  Calls Tryz.prog 173 #[.slice a len cap] w fun e w' => e = .returned (.bool (Fgasc len F)) ∧ Below w.heap.size w w' := by
 have hm : ∀ (n : Int) (ba : Option Addr) (bl bc : Nat) (w : World), (method 402 123 (.agg #[.int .i64 n, .slice ba bl bc]) "loop.example/lightship/impl.key").run Tryz.prog w = .ok (314, .agg #[.int .i64 n, .slice ba bl bc]) w := fun _ _ _ _ _ => by kernel_rfl
 obtain ⟨ti, hi, hz0, hz1, hz2⟩ := info_parts info3
 go_enter Tryz.func173, Tryz.ntmps173
 go_wp2
 go_loopw [3, 5, 8] (fun v _ i wr => ∃ k : Nat, k ≤ len ∧ i = .int .i64 k ∧ wr.ownsRow w.heap.size 3 1 v k (iv (fun j => (F j).n) k) ∧ Below w.heap.size w wr) (fun _ _ i _ => len - (intOf i).toNat)
 case atStart => exact ⟨0, Nat.zero_le _, rfl, World.ownsRow_nil _ _ _ _, Below.refl _ _⟩
 case round =>
  obtain ⟨k, hk, rfl, hown, hb⟩ := hrel
  by_cases hlt : k < len
  ·obtain ⟨b, off, rfl, hbl, hf⟩ := h (by omega)
   obtain ⟨c0, c1⟩ := (hf.below hb hbl) k hlt
   go_wp2_with fail
   refine (Fgkey_any _ _ _ _ _).mono ?_
   rintro e w1 ⟨rfl, b1⟩
   have B1 := btrans (balloc _ hb) b1
   have O1 := own_below (hown.alloc _) b1
   clear hown b1 hb c0 c1
   go_wp2_with (at_builtin; refine wpList_append_own _ rfl _ _ 54 rfl w.heap.size 3 ti (.int .i64 0) 1 8 Tryz.underlying54 hi hz0 hz1 hz2 rfl (by decide) _ _ _ rfl (O1.alloc _) ⟨w1.heap.size, 0, none⟩ 1 1 [.int .i64 (F k).n] rfl rfl ?c1 ?c2 ?c3 ?c4 ?c5 ?_)
   case c1 =>
    intro j u hj
    match j, hj with
    | 0, hj => simp at hj; subst hj; simp [Addr.add]
   case c2 => intro u hu; simp at hu; subst hu; rfl
   case c3 => unfold maxLen; omega
   case c4 => omega
   case c5 => have := B1.size; simp; omega
   ·intro v' w2 hown' hgrow _
    have B2 := own_grow (balloc (.cells #[.int .i64 (F k).n] 3) B1) (by have := B1.size; simp; omega) (O1.alloc _) hgrow
    clear O1 hgrow B1
    go_wp2
    go_roundw
    case rel => exact ⟨k + 1, by omega, by go_num, by rw [iv_succ]; exact hown', B2⟩
    case measure => simp [intOf]; omega
  ·have e : k = len := by omega
   subst e
   obtain ⟨a', cap', rfl, hc', hI⟩ := own_ints hown
   clear hown
   go_wp2_with fail
   refine (rising_any _ _ _ _ _ hI hl).mono ?_
   rintro e w1 ⟨rfl, b1⟩
   go_wp2
   go_ret
   exact ⟨rfl, btrans hb b1⟩
end Go.Proofs.YtgcdcfjaeehnbaaGreat
