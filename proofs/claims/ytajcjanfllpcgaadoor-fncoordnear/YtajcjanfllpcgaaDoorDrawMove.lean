/- The drawn trip: two coordinates, a trip and a turn. -/
import Derived.Test.YtajcjanfllpcgaaDoorAny
import Derived.LoopTactic
import Derived.WalkKit
import Derived.ProofKit
import Derived.WalkLawsBesides
import Derived.Outline
import Derived.Deep.QuietTactic
import Derived.BigQuiet
import Derived.Deep.RegionHeld3
import Derived.Deep.DrawnRows
namespace Go.Proofs.YtajcjanfllpcgaaDoor
open Go.ChangeShapes Go.WideShapes Go.ChangeAt Go.RowKit

attribute [local go_sem ↓] Go.wp_at_zero Go.wp_at_succ
theorem Num4.alloc {w : World} {b : Nat} {x y z e : Int} (h : Num4 w b x y z e) (o : Obj) : Num4 (w.alloc o) b x y z e :=
  h.off ((Off.refl (b + 1) w).alloc o) (by omega)
theorem Rd.drew {G : Cd} {B rb p : Nat} {w : World} (h : Rd G B rb p w) : Rd G B rb p w.drew := h.below (Below.drew (Below.refl _ _))
theorem Slot4.drew {w : World} {b : Nat} (h : Slot4 w b) : Slot4 w.drew b := h.below (Below.drew (Below.refl _ _))
theorem Slot4.set {w : World} {b : Nat} (h : Slot4 w b) (R o : Nat) (v : Value) (hb : b ≠ R) : Slot4 (w.setCell ⟨R, o, none⟩ v) b := h.aside (aside_set R w o v 0) hb
theorem keep_aside {rb : Nat} {w w' : World} {b o : Nat} {v : Value} (h : Aside1 rb w w') (hb : b ≠ rb) (hc : w.cell? ⟨b, o, none⟩ = some v) : w'.cell? ⟨b, o, none⟩ = some v := (h.cell (p := ⟨b, o, none⟩) hb).trans hc
theorem keep_setD {w : World} {b o b' o' : Nat} {v : Value} (u : Value) (hp : b ≠ b') (h : w.cell? ⟨b, o, none⟩ = some v) : (w.setCell ⟨b', o', none⟩ u).cell? ⟨b, o, none⟩ = some v := (cell_far u (show b ≠ b' from hp)).trans h
theorem pick_lit {G : Cd} (B rb p : Nat) (n k : Int) (w : World) (h : Rd G B rb p w) (hp : p < 1000000) (hk : G.pk p n = k) :
    Calls Tryd.prog 23 #[.pointer (some ⟨rb, 0, none⟩), .int .i64 n] w fun e w' => e = .returned (.int .i64 k) ∧ Rd G B rb (p + 1) w' ∧ Aside1 rb w w' :=
  (pick_any B rb p n w h hp).mono (by rintro e w' ⟨rfl, _, r, o⟩; exact ⟨by rw [hk], r, o⟩)
def CDc (w : World) (C D : Nat) (a b c d e f g h : Int) : Prop :=
  w.cell? ⟨C, 0, none⟩ = some (.int .i64 a) ∧ w.cell? ⟨C, 1, none⟩ = some (.int .i64 b) ∧ w.cell? ⟨C, 2, none⟩ = some (.int .i64 c) ∧ w.cell? ⟨C, 3, none⟩ = some (.int .i64 d) ∧
  w.cell? ⟨D, 0, none⟩ = some (.int .i64 e) ∧ w.cell? ⟨D, 1, none⟩ = some (.int .i64 f) ∧ w.cell? ⟨D, 2, none⟩ = some (.int .i64 g) ∧ w.cell? ⟨D, 3, none⟩ = some (.int .i64 h)
theorem keepc_alloc {w : World} {b o : Nat} {v : Value} (x : Obj) (h : w.cell? ⟨b, o, none⟩ = some v) : (w.alloc x).cell? ⟨b, o, none⟩ = some v :=
  (World.cell?_of_block (w := w) (Below.heap_alloc w x b (World.block_lt_of_cell? w _ h))).trans h
theorem keep_set4 {w : World} {b o : Nat} {v : Value} (R : Nat) (x y z e : Value) (hp : b ≠ R) (h : w.cell? ⟨b, o, none⟩ = some v) : ((((w.setCell ⟨R, 0, none⟩ x).setCell ⟨R, 1, none⟩ y).setCell ⟨R, 2, none⟩ z).setCell ⟨R, 3, none⟩ e).cell? ⟨b, o, none⟩ = some v :=
  keep_setD _ hp (keep_setD _ hp (keep_setD _ hp (keep_setD _ hp h)))
section
variable {w w' : World} {C D : Nat} {a b c d e f g h : Int}
theorem CDc.aside {rb : Nat} (k : CDc w C D a b c d e f g h) (o : Aside1 rb w w') (hC : C ≠ rb) (hD : D ≠ rb) : CDc w' C D a b c d e f g h :=
  ⟨keep_aside o hC k.1, keep_aside o hC k.2.1, keep_aside o hC k.2.2.1, keep_aside o hC k.2.2.2.1, keep_aside o hD k.2.2.2.2.1, keep_aside o hD k.2.2.2.2.2.1, keep_aside o hD k.2.2.2.2.2.2.1, keep_aside o hD k.2.2.2.2.2.2.2⟩
theorem CDc.alloc (k : CDc w C D a b c d e f g h) (o : Obj) : CDc (w.alloc o) C D a b c d e f g h :=
  ⟨keepc_alloc o k.1, keepc_alloc o k.2.1, keepc_alloc o k.2.2.1, keepc_alloc o k.2.2.2.1, keepc_alloc o k.2.2.2.2.1, keepc_alloc o k.2.2.2.2.2.1, keepc_alloc o k.2.2.2.2.2.2.1, keepc_alloc o k.2.2.2.2.2.2.2⟩
theorem CDc.set4 (k : CDc w C D a b c d e f g h) (R : Nat) (x y z u : Value) (hC : C ≠ R) (hD : D ≠ R) : CDc ((((w.setCell ⟨R, 0, none⟩ x).setCell ⟨R, 1, none⟩ y).setCell ⟨R, 2, none⟩ z).setCell ⟨R, 3, none⟩ u) C D a b c d e f g h :=
  ⟨keep_set4 R x y z u hC k.1, keep_set4 R x y z u hC k.2.1, keep_set4 R x y z u hC k.2.2.1, keep_set4 R x y z u hC k.2.2.2.1, keep_set4 R x y z u hD k.2.2.2.2.1, keep_set4 R x y z u hD k.2.2.2.2.2.1, keep_set4 R x y z u hD k.2.2.2.2.2.2.1, keep_set4 R x y z u hD k.2.2.2.2.2.2.2⟩
end
theorem Slot4.lt {w : World} {b : Nat} (h : Slot4 w b) : b < w.heap.size := by obtain ⟨⟨v, c⟩, _⟩ := h 0 (by omega); exact World.block_lt_of_cell? w _ c
theorem Num4.lt {w : World} {b : Nat} {x y z e : Int} (h : Num4 w b x y z e) : b < w.heap.size := World.block_lt_of_cell? w _ h.1.1
theorem Slot4.set4 {w : World} {b : Nat} (h : Slot4 w b) (R : Nat) (x y z e : Value) (hb : b ≠ R) : Slot4 ((((w.setCell ⟨R, 0, none⟩ x).setCell ⟨R, 1, none⟩ y).setCell ⟨R, 2, none⟩ z).setCell ⟨R, 3, none⟩ e) b :=
  (((h.set R 0 x hb).set R 1 y hb).set R 2 z hb).set R 3 e hb
theorem Num4.set4 {w : World} {b : Nat} {x y z e : Int} (h : Num4 w b x y z e) (R : Nat) (x' y' z' e' : Value) (hb : b ≠ R) : Num4 ((((w.setCell ⟨R, 0, none⟩ x').setCell ⟨R, 1, none⟩ y').setCell ⟨R, 2, none⟩ z').setCell ⟨R, 3, none⟩ e') b x y z e := by
  obtain ⟨⟨c0, c1, c2, c3⟩, f0, f1, f2, f3⟩ := h
  refine ⟨⟨keep_set4 R _ _ _ _ hb c0, keep_set4 R _ _ _ _ hb c1, keep_set4 R _ _ _ _ hb c2, keep_set4 R _ _ _ _ hb c3⟩, ?_, ?_, ?_, ?_⟩ <;> simp only [World.frozen?_setCell] <;> assumption
theorem num4_set {w : World} {b : Nat} (h : Slot4 w b) (x y z e : Int) : Num4 ((((w.setCell ⟨b, 0, none⟩ (.int .i64 x)).setCell ⟨b, 1, none⟩ (.int .i64 y)).setCell ⟨b, 2, none⟩ (.int .i64 z)).setCell ⟨b, 3, none⟩ (.int .i64 e)) b x y z e := by
  obtain ⟨⟨v0, c0⟩, f0⟩ := h 0 (by omega)
  obtain ⟨⟨v1, c1⟩, f1⟩ := h 1 (by omega)
  obtain ⟨⟨v2, c2⟩, f2⟩ := h 2 (by omega)
  obtain ⟨⟨v3, c3⟩, f3⟩ := h 3 (by omega)
  refine ⟨⟨?_, ?_, ?_, ?_⟩, ?_, ?_, ?_, ?_⟩ <;> simp [go_sem, c0, c1, c2, c3, f0, f1, f2, f3]
theorem below_set4' {B : Nat} {a w : World} (h : Below B a w) (R : Nat) (x y z e : Value) (hR : B ≤ R) : Below B a ((((w.setCell ⟨R, 0, none⟩ x).setCell ⟨R, 1, none⟩ y).setCell ⟨R, 2, none⟩ z).setCell ⟨R, 3, none⟩ e) :=
  (((h.setCell (p := ⟨R, 0, none⟩) hR x).setCell (p := ⟨R, 1, none⟩) hR y).setCell (p := ⟨R, 2, none⟩) hR z).setCell (p := ⟨R, 3, none⟩) hR e
def sel (m : Nat) (x y : Int) : Int := if m = 0 then x else if m = 1 then y else if m = 2 then 0 else if m = 3 then -1 else if m = 4 then 60000 else 60001
theorem sel_bd (m : Nat) (x y : Int) (hx : 0 ≤ x ∧ x < 300) (hy : 0 ≤ y ∧ y < 60000) : -1 ≤ sel m x y ∧ sel m x y ≤ 60001 := by unfold sel; repeat' split; all_goals omega
theorem lit6 (w : World) (x y : Int) (m : Nat) (hm : m < 6) : (w.alloc (.cells #[.int .i64 x, .int .i64 y, .int .i64 0, .int .i64 (-1), .int .i64 60000, .int .i64 60001] 3)).cell? ⟨w.heap.size, m, none⟩ = some (.int .i64 (sel m x y)) := by
  match m, hm with
  | 0, _ => simp [go_sem, sel]
  | 1, _ => simp [go_sem, sel]
  | 2, _ => simp [go_sem, sel]
  | 3, _ => simp [go_sem, sel]
  | 4, _ => simp [go_sem, sel]
  | 5, _ => simp [go_sem, sel]
theorem wpAnyH_mono {P : Program} {md : Region.Mode} {ops : Array Oper} {Q : Exit → Act → World → Prop} {S S' : World → Prop} (hS : ∀ w, S' w → S w) : ∀ (fuel : Nat) (listed : Array Bool) (a : Act) (w : World), wpAnyH P md ops Q S' fuel listed a w → wpAnyH P md ops Q S fuel listed a w
  | 0, _, _, _, h => h
  | fuel + 1, _, _, _, h => ⟨h.1, fun i hi => wpOp_mono (fun a' w' h' => ⟨hS w' h'.1, wpAnyH_mono hS fuel _ a' w' h'.2⟩) (h.2 i hi)⟩
set_option maxRecDepth 10000 in
set_option maxHeartbeats 8000000 in
theorem drawMove_any (a : Option Addr) (len cap : Nat) (w : World) (h : Bytes w.heap.size w a len) (hl : len ≤ cap) :
    Calls Tryd.prog 9 #[.slice a len cap] w fun r w' => ∃ ax ay ah ae bx b_y bh be trip turn : Int, r = .returned (.tuple #[.agg #[.int .i64 ax, .int .i64 ay, .int .i64 ah, .int .i64 ae], .agg #[.int .i64 bx, .int .i64 b_y, .int .i64 bh, .int .i64 be], .int .i64 trip, .int .i64 turn]) ∧ (-1 ≤ trip ∧ trip ≤ 60001) ∧ (-4 ≤ turn ∧ turn ≤ 4) ∧ Below w.heap.size w w' := by
  go_enter Tryd.func9, Tryd.ntmps9
  go_wp2_with fail
  refine (open_any w.heap.size a len cap _ (by simp; omega) (h.below (balloc _ (balloc _ (Below.refl _ _))) (Nat.le_refl _)) hl).mono ?_
  rintro r w1 ⟨rfl, r1, b1, z1⟩
  have S2 := ((Slot4.new w (.int .i64 0) (.int .i64 0) (.int .i64 0) (.int .i64 0) 24).alloc (.cells #[.int .i64 0, .int .i64 0, .int .i64 0, .int .i64 0] 24)).below b1
  have S3 := (Slot4.new (w.alloc (.cells #[.int .i64 0, .int .i64 0, .int .i64 0, .int .i64 0] 24)) (.int .i64 0) (.int .i64 0) (.int .i64 0) (.int .i64 0) 24).below b1
  have bw1 : Below w.heap.size w w1 := (balloc _ (balloc _ (Below.refl _ _))).trans (b1.mono (by simp; omega))
  simp at S3 r1 z1
  have z2 : w.heap.size + 1 + 1 < w1.heap.size := by omega
  clear b1 z1
  obtain ⟨G, r1⟩ := r1
  have nA : w.heap.size ≠ w.heap.size + 1 + 1 := by omega
  have nB : w.heap.size + 1 ≠ w.heap.size + 1 + 1 := by omega
  have hB : w.heap.size ≤ w.heap.size + 1 + 1 := by omega
  have hAB : w.heap.size ≠ w.heap.size + 1 := by omega
  generalize hrb : w.heap.size + 1 + 1 = rb at *
  generalize hRB : w.heap.size + 1 = RB at *
  go_wp2_with fail
  refine (any_any w.heap.size rb 0 _ r1 (by omega)).mono ?_
  rintro r w2 ⟨ax, ay, ah, ae, q, rfl, hq, r2, o2⟩
  replace S2 := S2.off o2 nA
  replace S3 := S3.off o2 nB
  replace bw1 := Off.belowAll bw1 o2 hB
  have z3 : rb < w2.heap.size := by have := o2.size; omega
  clear o2 r1
  have nC : w2.heap.size ≠ rb := by omega
  go_wp2_with fail
  refine (any_any w.heap.size rb q _ (r2.alloc _) (by omega)).mono ?_
  rintro r w3 ⟨bx, b_y, bh, be, q2, rfl, hq2, r3, o3⟩
  have N3 := (Num4.new w2 ax ay ah ae 24).off o3 nC
  replace S2 := (S2.alloc (.cells #[.int .i64 ax, .int .i64 ay, .int .i64 ah, .int .i64 ae] 24)).off o3 nA
  replace S3 := (S3.alloc (.cells #[.int .i64 ax, .int .i64 ay, .int .i64 ah, .int .i64 ae] 24)).off o3 nB
  replace bw1 := Off.belowAll (balloc (.cells #[.int .i64 ax, .int .i64 ay, .int .i64 ah, .int .i64 ae] 24) bw1) o3 hB
  have z4 : w2.heap.size < w3.heap.size := by have := o3.size; simp at this; omega
  generalize w2.heap.size = C at *
  clear o3 r2
  have nD : w3.heap.size ≠ rb := by omega
  go_wp2_with fail
  refine (pick_any w.heap.size rb q2 _ _ (r3.alloc _) (by omega)).mono ?_
  rintro r w4 ⟨rfl, ⟨a4, b4⟩, r4, o4⟩
  generalize G.pk _ _ = k4 at *
  have N4 := (Num4.alloc N3 (.cells #[.int .i64 bx, .int .i64 b_y, .int .i64 bh, .int .i64 be] 24)).off o4.off (by omega)
  have M4 := (Num4.new w3 bx b_y bh be 24).off o4.off nD
  replace S2 := (S2.alloc (.cells #[.int .i64 bx, .int .i64 b_y, .int .i64 bh, .int .i64 be] 24)).aside o4 nA
  replace S3 := (S3.alloc (.cells #[.int .i64 bx, .int .i64 b_y, .int .i64 bh, .int .i64 be] 24)).aside o4 nB
  replace bw1 := Off.belowAll (balloc (.cells #[.int .i64 bx, .int .i64 b_y, .int .i64 bh, .int .i64 be] 24) bw1) o4.off hB
  have z5 : w3.heap.size < w4.heap.size := by have := o4.size; simp at this; omega
  have hCD : C ≠ w3.heap.size := by omega
  generalize w3.heap.size = D at *
  clear N3 o4 r3
  obtain ⟨⟨x0, x1, x2, x3⟩, f0, f1, f2, f3⟩ := N4
  obtain ⟨⟨y0, y1, y2, y3⟩, g0, g1, g2, g3⟩ := M4
  by_cases k0 : k4 = 0
  · have e0 : (k4 == 0) = true := by simp [k0]
    go_wp2_with fail
    have hcd : CDc ((w4.setCell ⟨D, 0, none⟩ (.int .i64 ax)).setCell ⟨D, 1, none⟩ (.int .i64 ay)) C D ax ay ah ae ax ay bh be := by
      refine ⟨keep_setD _ hCD (keep_setD _ hCD x0), keep_setD _ hCD (keep_setD _ hCD x1), keep_setD _ hCD (keep_setD _ hCD x2), keep_setD _ hCD (keep_setD _ hCD x3), ?_, ?_, ?_, ?_⟩ <;> simp [go_sem, y0, y1, y2, y3]
    replace r4 := (r4.set D 0 (.int .i64 ax) (by omega) (by omega)).set D 1 (.int .i64 ay) (by omega) (by omega)
    replace S2 := (S2.set D 0 (.int .i64 ax) (by omega)).set D 1 (.int .i64 ay) (by omega)
    replace S3 := (S3.set D 0 (.int .i64 ax) (by omega)).set D 1 (.int .i64 ay) (by omega)
    replace bw1 := (bw1.setCell (p := ⟨D, 0, none⟩) (show w.heap.size ≤ D by omega) (.int .i64 ax)).setCell (p := ⟨D, 1, none⟩) (show w.heap.size ≤ D by omega) (.int .i64 ay)
    clear x0 x1 x2 x3 y0 y1 y2 y3 f0 f1 f2 f3 g0 g1 g2 g3 a4 b4
    generalize ((w4.setCell ⟨D, 0, none⟩ (.int .i64 ax)).setCell ⟨D, 1, none⟩ (.int .i64 ay)) = w5 at *
    have nCA : C ≠ w.heap.size := by omega
    have nCB : C ≠ RB := by omega
    have nDA : D ≠ w.heap.size := by omega
    have nDB : D ≠ RB := by omega
    have nC : C ≠ rb := by omega
    have nD : D ≠ rb := by omega
    have b1 := G.pk_bd (q2 + 1) 300
    have b2 := G.pk_bd (q2 + 1 + 1) 60000
    have b6 := G.pk_bd (q2 + 1 + 1 + 1) 6
    have b9 := G.pk_bd (q2 + 1 + 1 + 1 + 1) 9
    obtain ⟨k1, h1⟩ : ∃ k, G.pk (q2 + 1) 300 = k := ⟨_, rfl⟩
    obtain ⟨k2, h2⟩ : ∃ k, G.pk (q2 + 1 + 1) 60000 = k := ⟨_, rfl⟩
    obtain ⟨m6, h6⟩ : ∃ m : Nat, G.pk (q2 + 1 + 1 + 1) 6 = (m : Int) := ⟨(G.pk (q2 + 1 + 1 + 1) 6).toNat, by omega⟩
    obtain ⟨k9, h9⟩ : ∃ k, G.pk (q2 + 1 + 1 + 1 + 1) 9 = k := ⟨_, rfl⟩
    rw [h1] at b1
    rw [h2] at b2
    rw [h6] at b6
    rw [h9] at b9
    replace b1 : 0 ≤ k1 ∧ k1 < 300 := by omega
    replace b2 : 0 ≤ k2 ∧ k2 < 60000 := by omega
    replace b9 : 0 ≤ k9 ∧ k9 < 9 := by omega
    have hm6 : m6 < 6 := by omega
    have i0 : (0 : Int) ≤ (m6 : Int) := by omega
    have i6 : (m6 : Int) < 6 := by omega
    clear b6
    replace h1 : Hid (G.pk (q2 + 1) 300 = k1) := h1
    replace h2 : Hid (G.pk (q2 + 1 + 1) 60000 = k2) := h2
    replace h6 : Hid (G.pk (q2 + 1 + 1 + 1) 6 = (m6 : Int)) := h6
    replace h9 : Hid (G.pk (q2 + 1 + 1 + 1 + 1) 9 = k9) := h9
    have w9 : IntKind.i64.wrap (k9 - 4) = k9 - 4 := by rw [IntKind.wrap_i64]; omega
    have hRA : w.heap.size ≤ w.heap.size := Nat.le_refl _
    have hRB : w.heap.size ≤ RB := by omega
    have r0 := r4.drew
    have A0 := S2.drew
    have B0 := S3.drew
    have bw0 := Below.drew bw1
    clear r4 S2 S3 bw1
    refine wp_region_held_drew (S := (fun w' => CDc w' C D ax ay ah ae ax ay bh be)) (by kernel_rfl) ?_ (fun hHeld => ?_)
    · exact hcd
    refine wpAnyH_take (i := 0) (oi := { dst := some 24, op := Go.Op.load 24 (Go.Operand.tmp 7), type := 24, pos := "l61_draw.go:131", after := #[], guard := none }) (v := ?_) rfl (by kernel_rfl) (by kernel_rfl) (by kernel_rfl) (fun _ _ _ h => h) (Or.inl ⟨by rfl, ?_⟩) hHeld ?_
    rotate_left 1
    · (intro w hSw; (try dsimp only at hSw); obtain ⟨u0, u1, u2, u3, u4, u5, u6, u7⟩ := hSw; go_simp; try with_reducible rfl)
    (try simp only [Act.put, List.setIfInBounds_toArray, List.set_cons_zero, List.set_cons_succ])
    refine wpAnyH_take (i := 1) (oi := { dst := some 25, op := Go.Op.load 24 (Go.Operand.tmp 8), type := 24, pos := "l61_draw.go:131", after := #[{ on := 14, ground := Go.Ground.gcOnly Go.Departure.lateStores }], guard := none }) (v := ?_) rfl (by kernel_rfl) (by kernel_rfl) (by kernel_rfl) (fun _ _ _ h => h) (Or.inl ⟨by rfl, ?_⟩) hHeld ?_
    rotate_left 1
    · (intro w hSw; (try dsimp only at hSw); obtain ⟨u0, u1, u2, u3, u4, u5, u6, u7⟩ := hSw; go_simp; try with_reducible rfl)
    (try simp only [Act.put, List.setIfInBounds_toArray, List.set_cons_zero, List.set_cons_succ])
    refine wpAnyH_take (i := 2) (oi := { dst := some 26, op := Go.Op.move (Go.Operand.tmp 6), type := 38, pos := "l61_draw.go:131", after := #[], guard := none }) (v := ?_) rfl (by kernel_rfl) (by kernel_rfl) (by kernel_rfl) (fun _ _ _ h => h) (Or.inl ⟨by rfl, ?_⟩) hHeld ?_
    rotate_left 1
    · (intro w hSw; (try dsimp only at hSw); go_simp; try with_reducible rfl)
    (try simp only [Act.put, List.setIfInBounds_toArray, List.set_cons_zero, List.set_cons_succ])
    refine wpAnyH_take (i := 4) (oi := { dst := some 28, op := Go.Op.move (Go.Operand.tmp 6), type := 38, pos := "l61_draw.go:131", after := #[], guard := none }) (v := ?_) rfl (by kernel_rfl) (by kernel_rfl) (by kernel_rfl) (fun _ _ _ h => h) (Or.inl ⟨by rfl, ?_⟩) hHeld ?_
    rotate_left 1
    · (intro w hSw; (try dsimp only at hSw); go_simp; try with_reducible rfl)
    (try simp only [Act.put, List.setIfInBounds_toArray, List.set_cons_zero, List.set_cons_succ])
    refine wpAnyH_take (i := 7) (oi := { dst := some 31, op := Go.Op.move (Go.Operand.tmp 6), type := 38, pos := "l61_draw.go:131", after := #[], guard := none }) (v := ?_) rfl (by kernel_rfl) (by kernel_rfl) (by kernel_rfl) (fun _ _ _ h => h) (Or.inl ⟨by rfl, ?_⟩) hHeld ?_
    rotate_left 1
    · (intro w hSw; (try dsimp only at hSw); go_simp; try with_reducible rfl)
    (try simp only [Act.put, List.setIfInBounds_toArray, List.set_cons_zero, List.set_cons_succ])
    refine wpAnyH_take (i := 11) (oi := { dst := some 35, op := Go.Op.move (Go.Operand.tmp 6), type := 38, pos := "l61_draw.go:131", after := #[], guard := none }) (v := ?_) rfl (by kernel_rfl) (by kernel_rfl) (by kernel_rfl) (fun _ _ _ h => h) (Or.inl ⟨by rfl, ?_⟩) hHeld ?_
    rotate_left 1
    · (intro w hSw; (try dsimp only at hSw); go_simp; try with_reducible rfl)
    (try simp only [Act.put, List.setIfInBounds_toArray, List.set_cons_zero, List.set_cons_succ])
    refine wpAnyH_ready (rs := [3]) (by kernel_rfl) (by simp) ?_
    refine (AllReadyH.cons (o := { dst := some 27, op := Go.Op.call { callee := Go.Callee.value (Go.Operand.func 23), args := #[Go.Operand.tmp 26, Go.Operand.const (Go.Value.int Go.IntKind.i64 300)], argTypes := #[38, 3] }, type := 3, pos := "l61_draw.go:131", after := #[{ on := 2, ground := Go.Ground.data }], guard := none }) rfl (fun K hK => ?_) AllReadyH.nil)
    go_simp
    refine (pick_lit w.heap.size rb (q2 + 1) 300 k1 _ r0 (by omega) h1.out).mono ?_
    rintro e w101 ⟨rfl, r101, o101⟩
    have A101 := A0.aside o101 nA
    have B101 := B0.aside o101 nB
    have bw101 := Off.belowAll bw0 o101.off hB
    go_wp2_with fail
    refine hK.out _ _ ?_ (fun hHeld => ?_)
    · exact CDc.aside hHeld o101 nC nD
    clear hK K
    clear r0 A0 B0 bw0 o101
    (try simp only [Act.put, List.setIfInBounds_toArray, List.set_cons_zero, List.set_cons_succ])
    refine wpAnyH_ready (rs := [5]) (by kernel_rfl) (by simp) ?_
    refine (AllReadyH.cons (o := { dst := some 29, op := Go.Op.call { callee := Go.Callee.value (Go.Operand.func 23), args := #[Go.Operand.tmp 28, Go.Operand.const (Go.Value.int Go.IntKind.i64 60000)], argTypes := #[38, 3] }, type := 3, pos := "l61_draw.go:131", after := #[{ on := 4, ground := Go.Ground.data }, { on := 3, ground := Go.Ground.chain }], guard := none }) rfl (fun K hK => ?_) AllReadyH.nil)
    go_simp
    refine (pick_lit w.heap.size rb (q2 + 1 + 1) 60000 k2 _ r101 (by omega) h2.out).mono ?_
    rintro e w102 ⟨rfl, r102, o102⟩
    have A102 := A101.aside o102 nA
    have B102 := B101.aside o102 nB
    have bw102 := Off.belowAll bw101 o102.off hB
    go_wp2_with fail
    refine hK.out _ _ ?_ (fun hHeld => ?_)
    · exact CDc.aside hHeld o102 nC nD
    clear hK K
    clear r101 A101 B101 bw101 o102
    (try simp only [Act.put, List.setIfInBounds_toArray, List.set_cons_zero, List.set_cons_succ])
    refine wpAnyH_ready (rs := [6, 8]) (by kernel_rfl) (by simp) ?_
    refine (AllReadyH.cons (o := { dst := some 30, op := Go.Op.buildSlice 41 6 #[(0, Go.Operand.tmp 27), (1, Go.Operand.tmp 29), (2, Go.Operand.const (Go.Value.int Go.IntKind.i64 0)), (3, Go.Operand.const (Go.Value.int Go.IntKind.i64 (-1))), (4, Go.Operand.const (Go.Value.int Go.IntKind.i64 60000)), (5, Go.Operand.const (Go.Value.int Go.IntKind.i64 60001))], type := 41, pos := "l61_draw.go:131", after := #[{ on := 3, ground := Go.Ground.data }, { on := 5, ground := Go.Ground.data }, { on := 15, ground := Go.Ground.gcOnly Go.Departure.lateStores }], guard := none }) rfl (fun K hK => ?_) (AllReadyH.cons (o := { dst := some 32, op := Go.Op.call { callee := Go.Callee.value (Go.Operand.func 23), args := #[Go.Operand.tmp 31, Go.Operand.const (Go.Value.int Go.IntKind.i64 6)], argTypes := #[38, 3] }, type := 3, pos := "l61_draw.go:131", after := #[{ on := 7, ground := Go.Ground.data }, { on := 5, ground := Go.Ground.chain }], guard := none }) rfl (fun K hK => ?_) AllReadyH.nil))
    · skip
      go_simp
      have r103 := r102.alloc (.cells #[.int .i64 k1, .int .i64 k2, .int .i64 0, .int .i64 (-1), .int .i64 60000, .int .i64 60001] 3)
      have A103 := A102.alloc (.cells #[.int .i64 k1, .int .i64 k2, .int .i64 0, .int .i64 (-1), .int .i64 60000, .int .i64 60001] 3)
      have B103 := B102.alloc (.cells #[.int .i64 k1, .int .i64 k2, .int .i64 0, .int .i64 (-1), .int .i64 60000, .int .i64 60001] 3)
      have bw103 := balloc (.cells #[.int .i64 k1, .int .i64 k2, .int .i64 0, .int .i64 (-1), .int .i64 60000, .int .i64 60001] 3) bw102
      have l103 := lit6 w102 k1 k2 m6 hm6
      have nl103r : w102.heap.size ≠ rb := by have := r102.lt; omega
      have nl103A : w102.heap.size ≠ w.heap.size := by have := A102.lt; omega
      have nl103B : w102.heap.size ≠ RB := by have := B102.lt; omega
      refine hK.out _ _ ?_ (fun hHeld => ?_)
      · exact CDc.alloc hHeld _
      clear hK K
      clear r102 A102 B102 bw102
      (try simp only [Act.put, List.setIfInBounds_toArray, List.set_cons_zero, List.set_cons_succ])
      generalize w102.heap.size = L103 at *
      refine wpAnyH_mono (S' := (fun w' => CDc w' C D ax ay ah ae ax ay bh be ∧ w'.cell? ⟨L103, m6, none⟩ = some (.int .i64 (sel m6 k1 k2)))) (fun _ h => h.1) _ _ _ _ ?_
      replace hHeld := And.intro hHeld l103
      clear l103
      generalize (w102.alloc (.cells #[.int .i64 k1, .int .i64 k2, .int .i64 0, .int .i64 (-1), .int .i64 60000, .int .i64 60001] 3)) = w103 at *
      refine wpAnyH_ready (rs := [8]) (by kernel_rfl) (by simp) ?_
      refine (AllReadyH.cons (o := { dst := some 32, op := Go.Op.call { callee := Go.Callee.value (Go.Operand.func 23), args := #[Go.Operand.tmp 31, Go.Operand.const (Go.Value.int Go.IntKind.i64 6)], argTypes := #[38, 3] }, type := 3, pos := "l61_draw.go:131", after := #[{ on := 7, ground := Go.Ground.data }, { on := 5, ground := Go.Ground.chain }], guard := none }) rfl (fun K hK => ?_) AllReadyH.nil)
      go_simp
      refine (pick_lit w.heap.size rb (q2 + 1 + 1 + 1) 6 (m6 : Int) _ r103 (by omega) h6.out).mono ?_
      rintro e w104 ⟨rfl, r104, o104⟩
      have A104 := A103.aside o104 nA
      have B104 := B103.aside o104 nB
      have bw104 := Off.belowAll bw103 o104.off hB
      go_wp2_with fail
      refine hK.out _ _ ?_ (fun hHeld => ?_)
      · exact ⟨CDc.aside hHeld.1 o104 nC nD, keep_aside o104 nl103r hHeld.2⟩
      clear hK K
      clear r103 A103 B103 bw103 o104
      (try simp only [Act.put, List.setIfInBounds_toArray, List.set_cons_zero, List.set_cons_succ])
      refine wpAnyH_take (i := 9) (oi := { dst := some 33, op := Go.Op.indexAddr 41 (Go.Operand.tmp 30) (Go.Operand.tmp 32), type := 0, pos := "l61_draw.go:131", after := #[{ on := 6, ground := Go.Ground.data }, { on := 8, ground := Go.Ground.data }, { on := 15, ground := Go.Ground.gcOnly Go.Departure.lateStores }], guard := none }) (v := ?_) rfl (by kernel_rfl) (by kernel_rfl) (by kernel_rfl) (fun _ _ _ h => h) (Or.inl ⟨by rfl, ?_⟩) hHeld ?_
      rotate_left 1
      · (intro w hSw; (try dsimp only at hSw); go_simp; try with_reducible rfl)
      (try simp only [Act.put, List.setIfInBounds_toArray, List.set_cons_zero, List.set_cons_succ])
      refine wpAnyH_take (i := 10) (oi := { dst := some 34, op := Go.Op.load 3 (Go.Operand.tmp 33), type := 3, pos := "l61_draw.go:131", after := #[{ on := 9, ground := Go.Ground.data }, { on := 15, ground := Go.Ground.gcOnly Go.Departure.lateStores }], guard := none }) (v := ?_) rfl (by kernel_rfl) (by kernel_rfl) (by kernel_rfl) (fun _ _ _ h => h) (Or.inl ⟨by rfl, ?_⟩) hHeld ?_
      rotate_left 1
      · (intro w hSw; (try dsimp only at hSw); obtain ⟨_, u8⟩ := hSw; go_simp; try with_reducible rfl)
      (try simp only [Act.put, List.setIfInBounds_toArray, List.set_cons_zero, List.set_cons_succ])
      refine wpAnyH_ready (rs := [12]) (by kernel_rfl) (by simp) ?_
      refine (AllReadyH.cons (o := { dst := some 36, op := Go.Op.call { callee := Go.Callee.value (Go.Operand.func 23), args := #[Go.Operand.tmp 35, Go.Operand.const (Go.Value.int Go.IntKind.i64 9)], argTypes := #[38, 3] }, type := 3, pos := "l61_draw.go:131", after := #[{ on := 11, ground := Go.Ground.data }, { on := 8, ground := Go.Ground.chain }], guard := none }) rfl (fun K hK => ?_) AllReadyH.nil)
      go_simp
      refine (pick_lit w.heap.size rb (q2 + 1 + 1 + 1 + 1) 9 k9 _ r104 (by omega) h9.out).mono ?_
      rintro e w105 ⟨rfl, r105, o105⟩
      have A105 := A104.aside o105 nA
      have B105 := B104.aside o105 nB
      have bw105 := Off.belowAll bw104 o105.off hB
      go_wp2_with fail
      refine hK.out _ _ ?_ (fun hHeld => ?_)
      · exact ⟨CDc.aside hHeld.1 o105 nC nD, keep_aside o105 nl103r hHeld.2⟩
      clear hK K
      clear r104 A104 B104 bw104 o105
      (try simp only [Act.put, List.setIfInBounds_toArray, List.set_cons_zero, List.set_cons_succ])
      refine wpAnyH_take (i := 13) (oi := { dst := some 37, op := Go.Op.binOp Go.BinOp.sub 3 (Go.Operand.tmp 36) (Go.Operand.const (Go.Value.int Go.IntKind.i64 4)) 3, type := 3, pos := "l61_draw.go:131", after := #[{ on := 12, ground := Go.Ground.data }, { on := 16, ground := Go.Ground.gcOnly Go.Departure.lateStores }], guard := none }) (v := ?_) rfl (by kernel_rfl) (by kernel_rfl) (by kernel_rfl) (fun _ _ _ h => h) (Or.inl ⟨by rfl, ?_⟩) hHeld ?_
      rotate_left 1
      · (intro w hSw; (try dsimp only at hSw); go_simp; try with_reducible rfl)
      (try simp only [Act.put, List.setIfInBounds_toArray, List.set_cons_zero, List.set_cons_succ])
      refine wpAnyH_ready (rs := [14]) (by kernel_rfl) (by simp) ?_
      refine (AllReadyH.cons (o := { dst := none, op := Go.Op.store 24 (Go.Operand.tmp 2) (Go.Operand.tmp 24), type := 0, pos := "l61_draw.go:131", after := #[{ on := 0, ground := Go.Ground.data }, { on := 12, ground := Go.Ground.chain }, { on := 0, ground := Go.Ground.phase }, { on := 1, ground := Go.Ground.textOnly Go.Departure.lateStores }, { on := 2, ground := Go.Ground.textOnly Go.Departure.lateStores }, { on := 3, ground := Go.Ground.textOnly Go.Departure.lateStoresUnsure }, { on := 4, ground := Go.Ground.textOnly Go.Departure.lateStores }, { on := 5, ground := Go.Ground.textOnly Go.Departure.lateStoresUnsure }, { on := 6, ground := Go.Ground.textOnly Go.Departure.lateStores }, { on := 7, ground := Go.Ground.textOnly Go.Departure.lateStores }, { on := 8, ground := Go.Ground.textOnly Go.Departure.lateStoresUnsure }, { on := 9, ground := Go.Ground.textOnly Go.Departure.lateStores }, { on := 10, ground := Go.Ground.textOnly Go.Departure.lateStores }, { on := 11, ground := Go.Ground.textOnly Go.Departure.lateStores }, { on := 12, ground := Go.Ground.textOnly Go.Departure.lateStoresUnsure }, { on := 13, ground := Go.Ground.textOnly Go.Departure.lateStores }], guard := none }) rfl (fun K hK => ?_) AllReadyH.nil)
      obtain ⟨⟨v0, c0⟩, f0⟩ := A105 0 (by omega)
      obtain ⟨⟨v1, c1⟩, f1⟩ := A105 1 (by omega)
      obtain ⟨⟨v2, c2⟩, f2⟩ := A105 2 (by omega)
      obtain ⟨⟨v3, c3⟩, f3⟩ := A105 3 (by omega)
      go_simp
      have r106 := r105.set4 w.heap.size (.int .i64 ax) (.int .i64 ay) (.int .i64 ah) (.int .i64 ae) nA hRA
      have A106 := num4_set A105 ax ay ah ae
      have B106 := Slot4.set4 B105 w.heap.size (.int .i64 ax) (.int .i64 ay) (.int .i64 ah) (.int .i64 ae) (Ne.symm hAB)
      have bw106 := below_set4' bw105 w.heap.size (.int .i64 ax) (.int .i64 ay) (.int .i64 ah) (.int .i64 ae) hRA
      refine hK.out _ _ ?_ (fun hHeld => ?_)
      · exact ⟨CDc.set4 hHeld.1 w.heap.size _ _ _ _ nCA nDA, keep_set4 w.heap.size _ _ _ _ nl103A hHeld.2⟩
      clear hK K
      clear c0 c1 c2 c3 f0 f1 f2 f3
      clear r105 A105 B105 bw105
      (try simp only [Act.put, List.setIfInBounds_toArray, List.set_cons_zero, List.set_cons_succ])
      generalize ((((w105.setCell ⟨w.heap.size, 0, none⟩ (.int .i64 ax)).setCell ⟨w.heap.size, 1, none⟩ (.int .i64 ay)).setCell ⟨w.heap.size, 2, none⟩ (.int .i64 ah)).setCell ⟨w.heap.size, 3, none⟩ (.int .i64 ae)) = w106 at *
      refine wpAnyH_ready (rs := [15]) (by kernel_rfl) (by simp) ?_
      refine (AllReadyH.cons (o := { dst := none, op := Go.Op.store 24 (Go.Operand.tmp 3) (Go.Operand.tmp 25), type := 0, pos := "l61_draw.go:131", after := #[{ on := 1, ground := Go.Ground.data }, { on := 14, ground := Go.Ground.chain }, { on := 0, ground := Go.Ground.phase }, { on := 1, ground := Go.Ground.phase }, { on := 2, ground := Go.Ground.textOnly Go.Departure.lateStores }, { on := 3, ground := Go.Ground.textOnly Go.Departure.lateStoresUnsure }, { on := 4, ground := Go.Ground.textOnly Go.Departure.lateStores }, { on := 5, ground := Go.Ground.textOnly Go.Departure.lateStoresUnsure }, { on := 6, ground := Go.Ground.textOnly Go.Departure.lateStores }, { on := 7, ground := Go.Ground.textOnly Go.Departure.lateStores }, { on := 8, ground := Go.Ground.textOnly Go.Departure.lateStoresUnsure }, { on := 9, ground := Go.Ground.textOnly Go.Departure.lateStores }, { on := 10, ground := Go.Ground.textOnly Go.Departure.lateStores }, { on := 11, ground := Go.Ground.textOnly Go.Departure.lateStores }, { on := 12, ground := Go.Ground.textOnly Go.Departure.lateStoresUnsure }, { on := 13, ground := Go.Ground.textOnly Go.Departure.lateStores }, { on := 14, ground := Go.Ground.phase }], guard := none }) rfl (fun K hK => ?_) AllReadyH.nil)
      obtain ⟨⟨v0, c0⟩, f0⟩ := B106 0 (by omega)
      obtain ⟨⟨v1, c1⟩, f1⟩ := B106 1 (by omega)
      obtain ⟨⟨v2, c2⟩, f2⟩ := B106 2 (by omega)
      obtain ⟨⟨v3, c3⟩, f3⟩ := B106 3 (by omega)
      go_simp
      have r107 := r106.set4 RB (.int .i64 ax) (.int .i64 ay) (.int .i64 bh) (.int .i64 be) nB hRB
      have A107 := Num4.set4 A106 RB (.int .i64 ax) (.int .i64 ay) (.int .i64 bh) (.int .i64 be) hAB
      have B107 := num4_set B106 ax ay bh be
      have bw107 := below_set4' bw106 RB (.int .i64 ax) (.int .i64 ay) (.int .i64 bh) (.int .i64 be) hRB
      refine hK.out _ _ ?_ (fun hHeld => ?_)
      · exact ⟨CDc.set4 hHeld.1 RB _ _ _ _ nCB nDB, keep_set4 RB _ _ _ _ nl103B hHeld.2⟩
      clear hK K
      clear c0 c1 c2 c3 f0 f1 f2 f3
      clear r106 A106 B106 bw106
      (try simp only [Act.put, List.setIfInBounds_toArray, List.set_cons_zero, List.set_cons_succ])
      generalize ((((w106.setCell ⟨RB, 0, none⟩ (.int .i64 ax)).setCell ⟨RB, 1, none⟩ (.int .i64 ay)).setCell ⟨RB, 2, none⟩ (.int .i64 bh)).setCell ⟨RB, 3, none⟩ (.int .i64 be)) = w107 at *
      refine wpAnyH_take (i := 16) (oi := { dst := some 4, op := Go.Op.assign (Go.Operand.tmp 34), type := 3, pos := "l61_draw.go:131", after := #[{ on := 10, ground := Go.Ground.data }, { on := 15, ground := Go.Ground.chain }, { on := 0, ground := Go.Ground.phase }, { on := 1, ground := Go.Ground.phase }, { on := 2, ground := Go.Ground.phase }, { on := 3, ground := Go.Ground.phase }, { on := 4, ground := Go.Ground.phase }, { on := 5, ground := Go.Ground.phase }, { on := 6, ground := Go.Ground.phase }, { on := 7, ground := Go.Ground.phase }, { on := 8, ground := Go.Ground.phase }, { on := 9, ground := Go.Ground.phase }, { on := 10, ground := Go.Ground.phase }, { on := 11, ground := Go.Ground.textOnly Go.Departure.lateStores }, { on := 12, ground := Go.Ground.textOnly Go.Departure.lateStoresUnsure }, { on := 13, ground := Go.Ground.textOnly Go.Departure.lateStores }, { on := 14, ground := Go.Ground.phase }, { on := 15, ground := Go.Ground.phase }], guard := none }) (v := ?_) rfl (by kernel_rfl) (by kernel_rfl) (by kernel_rfl) (fun _ _ _ h => h) (Or.inl ⟨by rfl, ?_⟩) hHeld ?_
      rotate_left 1
      · (intro w hSw; (try dsimp only at hSw); go_simp; try with_reducible rfl)
      (try simp only [Act.put, List.setIfInBounds_toArray, List.set_cons_zero, List.set_cons_succ])
      refine wpAnyH_take (i := 17) (oi := { dst := some 5, op := Go.Op.assign (Go.Operand.tmp 37), type := 3, pos := "l61_draw.go:131", after := #[{ on := 13, ground := Go.Ground.data }, { on := 16, ground := Go.Ground.chain }, { on := 0, ground := Go.Ground.phase }, { on := 1, ground := Go.Ground.phase }, { on := 2, ground := Go.Ground.phase }, { on := 3, ground := Go.Ground.phase }, { on := 4, ground := Go.Ground.phase }, { on := 5, ground := Go.Ground.phase }, { on := 6, ground := Go.Ground.phase }, { on := 7, ground := Go.Ground.phase }, { on := 8, ground := Go.Ground.phase }, { on := 9, ground := Go.Ground.phase }, { on := 10, ground := Go.Ground.phase }, { on := 11, ground := Go.Ground.phase }, { on := 12, ground := Go.Ground.phase }, { on := 13, ground := Go.Ground.phase }, { on := 14, ground := Go.Ground.phase }, { on := 15, ground := Go.Ground.phase }, { on := 16, ground := Go.Ground.phase }], guard := none }) (v := ?_) rfl (by kernel_rfl) (by kernel_rfl) (by kernel_rfl) (fun _ _ _ h => h) (Or.inl ⟨by rfl, ?_⟩) hHeld ?_
      rotate_left 1
      · (intro w hSw; (try dsimp only at hSw); go_simp; try with_reducible rfl)
      (try simp only [Act.put, List.setIfInBounds_toArray, List.set_cons_zero, List.set_cons_succ])
      refine wpAnyH_done (by kernel_rfl) ?_ _
      go_wp2
      obtain ⟨⟨x0, x1, x2, x3⟩, _⟩ := A107
      obtain ⟨⟨y0, y1, y2, y3⟩, _⟩ := B107
      exact bodyPost_ret (v := .tuple #[.agg #[.int .i64 ax, .int .i64 ay, .int .i64 ah, .int .i64 ae], .agg #[.int .i64 ax, .int .i64 ay, .int .i64 bh, .int .i64 be], .int .i64 (sel m6 k1 k2), .int .i64 (k9 - 4)]) (by simp [results, Tryd.results9, go_sem, x0, x1, x2, x3, y0, y1, y2, y3]) rfl ⟨_, _, _, _, _, _, _, _, _, _, rfl, sel_bd m6 k1 k2 b1 b2, by omega, bw107⟩
    · skip
      go_simp
      refine (pick_lit w.heap.size rb (q2 + 1 + 1 + 1) 6 (m6 : Int) _ r102 (by omega) h6.out).mono ?_
      rintro e w108 ⟨rfl, r108, o108⟩
      have A108 := A102.aside o108 nA
      have B108 := B102.aside o108 nB
      have bw108 := Off.belowAll bw102 o108.off hB
      go_wp2_with fail
      refine hK.out _ _ ?_ (fun hHeld => ?_)
      · exact CDc.aside hHeld o108 nC nD
      clear hK K
      clear r102 A102 B102 bw102 o108
      (try simp only [Act.put, List.setIfInBounds_toArray, List.set_cons_zero, List.set_cons_succ])
      refine wpAnyH_ready (rs := [6, 12]) (by kernel_rfl) (by simp) ?_
      refine (AllReadyH.cons (o := { dst := some 30, op := Go.Op.buildSlice 41 6 #[(0, Go.Operand.tmp 27), (1, Go.Operand.tmp 29), (2, Go.Operand.const (Go.Value.int Go.IntKind.i64 0)), (3, Go.Operand.const (Go.Value.int Go.IntKind.i64 (-1))), (4, Go.Operand.const (Go.Value.int Go.IntKind.i64 60000)), (5, Go.Operand.const (Go.Value.int Go.IntKind.i64 60001))], type := 41, pos := "l61_draw.go:131", after := #[{ on := 3, ground := Go.Ground.data }, { on := 5, ground := Go.Ground.data }, { on := 15, ground := Go.Ground.gcOnly Go.Departure.lateStores }], guard := none }) rfl (fun K hK => ?_) (AllReadyH.cons (o := { dst := some 36, op := Go.Op.call { callee := Go.Callee.value (Go.Operand.func 23), args := #[Go.Operand.tmp 35, Go.Operand.const (Go.Value.int Go.IntKind.i64 9)], argTypes := #[38, 3] }, type := 3, pos := "l61_draw.go:131", after := #[{ on := 11, ground := Go.Ground.data }, { on := 8, ground := Go.Ground.chain }], guard := none }) rfl (fun K hK => ?_) AllReadyH.nil))
      · skip
        go_simp
        have r109 := r108.alloc (.cells #[.int .i64 k1, .int .i64 k2, .int .i64 0, .int .i64 (-1), .int .i64 60000, .int .i64 60001] 3)
        have A109 := A108.alloc (.cells #[.int .i64 k1, .int .i64 k2, .int .i64 0, .int .i64 (-1), .int .i64 60000, .int .i64 60001] 3)
        have B109 := B108.alloc (.cells #[.int .i64 k1, .int .i64 k2, .int .i64 0, .int .i64 (-1), .int .i64 60000, .int .i64 60001] 3)
        have bw109 := balloc (.cells #[.int .i64 k1, .int .i64 k2, .int .i64 0, .int .i64 (-1), .int .i64 60000, .int .i64 60001] 3) bw108
        have l109 := lit6 w108 k1 k2 m6 hm6
        have nl109r : w108.heap.size ≠ rb := by have := r108.lt; omega
        have nl109A : w108.heap.size ≠ w.heap.size := by have := A108.lt; omega
        have nl109B : w108.heap.size ≠ RB := by have := B108.lt; omega
        refine hK.out _ _ ?_ (fun hHeld => ?_)
        · exact CDc.alloc hHeld _
        clear hK K
        clear r108 A108 B108 bw108
        (try simp only [Act.put, List.setIfInBounds_toArray, List.set_cons_zero, List.set_cons_succ])
        generalize w108.heap.size = L109 at *
        refine wpAnyH_mono (S' := (fun w' => CDc w' C D ax ay ah ae ax ay bh be ∧ w'.cell? ⟨L109, m6, none⟩ = some (.int .i64 (sel m6 k1 k2)))) (fun _ h => h.1) _ _ _ _ ?_
        replace hHeld := And.intro hHeld l109
        clear l109
        generalize (w108.alloc (.cells #[.int .i64 k1, .int .i64 k2, .int .i64 0, .int .i64 (-1), .int .i64 60000, .int .i64 60001] 3)) = w109 at *
        refine wpAnyH_take (i := 9) (oi := { dst := some 33, op := Go.Op.indexAddr 41 (Go.Operand.tmp 30) (Go.Operand.tmp 32), type := 0, pos := "l61_draw.go:131", after := #[{ on := 6, ground := Go.Ground.data }, { on := 8, ground := Go.Ground.data }, { on := 15, ground := Go.Ground.gcOnly Go.Departure.lateStores }], guard := none }) (v := ?_) rfl (by kernel_rfl) (by kernel_rfl) (by kernel_rfl) (fun _ _ _ h => h) (Or.inl ⟨by rfl, ?_⟩) hHeld ?_
        rotate_left 1
        · (intro w hSw; (try dsimp only at hSw); go_simp; try with_reducible rfl)
        (try simp only [Act.put, List.setIfInBounds_toArray, List.set_cons_zero, List.set_cons_succ])
        refine wpAnyH_take (i := 10) (oi := { dst := some 34, op := Go.Op.load 3 (Go.Operand.tmp 33), type := 3, pos := "l61_draw.go:131", after := #[{ on := 9, ground := Go.Ground.data }, { on := 15, ground := Go.Ground.gcOnly Go.Departure.lateStores }], guard := none }) (v := ?_) rfl (by kernel_rfl) (by kernel_rfl) (by kernel_rfl) (fun _ _ _ h => h) (Or.inl ⟨by rfl, ?_⟩) hHeld ?_
        rotate_left 1
        · (intro w hSw; (try dsimp only at hSw); obtain ⟨_, u8⟩ := hSw; go_simp; try with_reducible rfl)
        (try simp only [Act.put, List.setIfInBounds_toArray, List.set_cons_zero, List.set_cons_succ])
        refine wpAnyH_ready (rs := [12]) (by kernel_rfl) (by simp) ?_
        refine (AllReadyH.cons (o := { dst := some 36, op := Go.Op.call { callee := Go.Callee.value (Go.Operand.func 23), args := #[Go.Operand.tmp 35, Go.Operand.const (Go.Value.int Go.IntKind.i64 9)], argTypes := #[38, 3] }, type := 3, pos := "l61_draw.go:131", after := #[{ on := 11, ground := Go.Ground.data }, { on := 8, ground := Go.Ground.chain }], guard := none }) rfl (fun K hK => ?_) AllReadyH.nil)
        go_simp
        refine (pick_lit w.heap.size rb (q2 + 1 + 1 + 1 + 1) 9 k9 _ r109 (by omega) h9.out).mono ?_
        rintro e w110 ⟨rfl, r110, o110⟩
        have A110 := A109.aside o110 nA
        have B110 := B109.aside o110 nB
        have bw110 := Off.belowAll bw109 o110.off hB
        go_wp2_with fail
        refine hK.out _ _ ?_ (fun hHeld => ?_)
        · exact ⟨CDc.aside hHeld.1 o110 nC nD, keep_aside o110 nl109r hHeld.2⟩
        clear hK K
        clear r109 A109 B109 bw109 o110
        (try simp only [Act.put, List.setIfInBounds_toArray, List.set_cons_zero, List.set_cons_succ])
        refine wpAnyH_take (i := 13) (oi := { dst := some 37, op := Go.Op.binOp Go.BinOp.sub 3 (Go.Operand.tmp 36) (Go.Operand.const (Go.Value.int Go.IntKind.i64 4)) 3, type := 3, pos := "l61_draw.go:131", after := #[{ on := 12, ground := Go.Ground.data }, { on := 16, ground := Go.Ground.gcOnly Go.Departure.lateStores }], guard := none }) (v := ?_) rfl (by kernel_rfl) (by kernel_rfl) (by kernel_rfl) (fun _ _ _ h => h) (Or.inl ⟨by rfl, ?_⟩) hHeld ?_
        rotate_left 1
        · (intro w hSw; (try dsimp only at hSw); go_simp; try with_reducible rfl)
        (try simp only [Act.put, List.setIfInBounds_toArray, List.set_cons_zero, List.set_cons_succ])
        refine wpAnyH_ready (rs := [14]) (by kernel_rfl) (by simp) ?_
        refine (AllReadyH.cons (o := { dst := none, op := Go.Op.store 24 (Go.Operand.tmp 2) (Go.Operand.tmp 24), type := 0, pos := "l61_draw.go:131", after := #[{ on := 0, ground := Go.Ground.data }, { on := 12, ground := Go.Ground.chain }, { on := 0, ground := Go.Ground.phase }, { on := 1, ground := Go.Ground.textOnly Go.Departure.lateStores }, { on := 2, ground := Go.Ground.textOnly Go.Departure.lateStores }, { on := 3, ground := Go.Ground.textOnly Go.Departure.lateStoresUnsure }, { on := 4, ground := Go.Ground.textOnly Go.Departure.lateStores }, { on := 5, ground := Go.Ground.textOnly Go.Departure.lateStoresUnsure }, { on := 6, ground := Go.Ground.textOnly Go.Departure.lateStores }, { on := 7, ground := Go.Ground.textOnly Go.Departure.lateStores }, { on := 8, ground := Go.Ground.textOnly Go.Departure.lateStoresUnsure }, { on := 9, ground := Go.Ground.textOnly Go.Departure.lateStores }, { on := 10, ground := Go.Ground.textOnly Go.Departure.lateStores }, { on := 11, ground := Go.Ground.textOnly Go.Departure.lateStores }, { on := 12, ground := Go.Ground.textOnly Go.Departure.lateStoresUnsure }, { on := 13, ground := Go.Ground.textOnly Go.Departure.lateStores }], guard := none }) rfl (fun K hK => ?_) AllReadyH.nil)
        obtain ⟨⟨v0, c0⟩, f0⟩ := A110 0 (by omega)
        obtain ⟨⟨v1, c1⟩, f1⟩ := A110 1 (by omega)
        obtain ⟨⟨v2, c2⟩, f2⟩ := A110 2 (by omega)
        obtain ⟨⟨v3, c3⟩, f3⟩ := A110 3 (by omega)
        go_simp
        have r111 := r110.set4 w.heap.size (.int .i64 ax) (.int .i64 ay) (.int .i64 ah) (.int .i64 ae) nA hRA
        have A111 := num4_set A110 ax ay ah ae
        have B111 := Slot4.set4 B110 w.heap.size (.int .i64 ax) (.int .i64 ay) (.int .i64 ah) (.int .i64 ae) (Ne.symm hAB)
        have bw111 := below_set4' bw110 w.heap.size (.int .i64 ax) (.int .i64 ay) (.int .i64 ah) (.int .i64 ae) hRA
        refine hK.out _ _ ?_ (fun hHeld => ?_)
        · exact ⟨CDc.set4 hHeld.1 w.heap.size _ _ _ _ nCA nDA, keep_set4 w.heap.size _ _ _ _ nl109A hHeld.2⟩
        clear hK K
        clear c0 c1 c2 c3 f0 f1 f2 f3
        clear r110 A110 B110 bw110
        (try simp only [Act.put, List.setIfInBounds_toArray, List.set_cons_zero, List.set_cons_succ])
        generalize ((((w110.setCell ⟨w.heap.size, 0, none⟩ (.int .i64 ax)).setCell ⟨w.heap.size, 1, none⟩ (.int .i64 ay)).setCell ⟨w.heap.size, 2, none⟩ (.int .i64 ah)).setCell ⟨w.heap.size, 3, none⟩ (.int .i64 ae)) = w111 at *
        refine wpAnyH_ready (rs := [15]) (by kernel_rfl) (by simp) ?_
        refine (AllReadyH.cons (o := { dst := none, op := Go.Op.store 24 (Go.Operand.tmp 3) (Go.Operand.tmp 25), type := 0, pos := "l61_draw.go:131", after := #[{ on := 1, ground := Go.Ground.data }, { on := 14, ground := Go.Ground.chain }, { on := 0, ground := Go.Ground.phase }, { on := 1, ground := Go.Ground.phase }, { on := 2, ground := Go.Ground.textOnly Go.Departure.lateStores }, { on := 3, ground := Go.Ground.textOnly Go.Departure.lateStoresUnsure }, { on := 4, ground := Go.Ground.textOnly Go.Departure.lateStores }, { on := 5, ground := Go.Ground.textOnly Go.Departure.lateStoresUnsure }, { on := 6, ground := Go.Ground.textOnly Go.Departure.lateStores }, { on := 7, ground := Go.Ground.textOnly Go.Departure.lateStores }, { on := 8, ground := Go.Ground.textOnly Go.Departure.lateStoresUnsure }, { on := 9, ground := Go.Ground.textOnly Go.Departure.lateStores }, { on := 10, ground := Go.Ground.textOnly Go.Departure.lateStores }, { on := 11, ground := Go.Ground.textOnly Go.Departure.lateStores }, { on := 12, ground := Go.Ground.textOnly Go.Departure.lateStoresUnsure }, { on := 13, ground := Go.Ground.textOnly Go.Departure.lateStores }, { on := 14, ground := Go.Ground.phase }], guard := none }) rfl (fun K hK => ?_) AllReadyH.nil)
        obtain ⟨⟨v0, c0⟩, f0⟩ := B111 0 (by omega)
        obtain ⟨⟨v1, c1⟩, f1⟩ := B111 1 (by omega)
        obtain ⟨⟨v2, c2⟩, f2⟩ := B111 2 (by omega)
        obtain ⟨⟨v3, c3⟩, f3⟩ := B111 3 (by omega)
        go_simp
        have r112 := r111.set4 RB (.int .i64 ax) (.int .i64 ay) (.int .i64 bh) (.int .i64 be) nB hRB
        have A112 := Num4.set4 A111 RB (.int .i64 ax) (.int .i64 ay) (.int .i64 bh) (.int .i64 be) hAB
        have B112 := num4_set B111 ax ay bh be
        have bw112 := below_set4' bw111 RB (.int .i64 ax) (.int .i64 ay) (.int .i64 bh) (.int .i64 be) hRB
        refine hK.out _ _ ?_ (fun hHeld => ?_)
        · exact ⟨CDc.set4 hHeld.1 RB _ _ _ _ nCB nDB, keep_set4 RB _ _ _ _ nl109B hHeld.2⟩
        clear hK K
        clear c0 c1 c2 c3 f0 f1 f2 f3
        clear r111 A111 B111 bw111
        (try simp only [Act.put, List.setIfInBounds_toArray, List.set_cons_zero, List.set_cons_succ])
        generalize ((((w111.setCell ⟨RB, 0, none⟩ (.int .i64 ax)).setCell ⟨RB, 1, none⟩ (.int .i64 ay)).setCell ⟨RB, 2, none⟩ (.int .i64 bh)).setCell ⟨RB, 3, none⟩ (.int .i64 be)) = w112 at *
        refine wpAnyH_take (i := 16) (oi := { dst := some 4, op := Go.Op.assign (Go.Operand.tmp 34), type := 3, pos := "l61_draw.go:131", after := #[{ on := 10, ground := Go.Ground.data }, { on := 15, ground := Go.Ground.chain }, { on := 0, ground := Go.Ground.phase }, { on := 1, ground := Go.Ground.phase }, { on := 2, ground := Go.Ground.phase }, { on := 3, ground := Go.Ground.phase }, { on := 4, ground := Go.Ground.phase }, { on := 5, ground := Go.Ground.phase }, { on := 6, ground := Go.Ground.phase }, { on := 7, ground := Go.Ground.phase }, { on := 8, ground := Go.Ground.phase }, { on := 9, ground := Go.Ground.phase }, { on := 10, ground := Go.Ground.phase }, { on := 11, ground := Go.Ground.textOnly Go.Departure.lateStores }, { on := 12, ground := Go.Ground.textOnly Go.Departure.lateStoresUnsure }, { on := 13, ground := Go.Ground.textOnly Go.Departure.lateStores }, { on := 14, ground := Go.Ground.phase }, { on := 15, ground := Go.Ground.phase }], guard := none }) (v := ?_) rfl (by kernel_rfl) (by kernel_rfl) (by kernel_rfl) (fun _ _ _ h => h) (Or.inl ⟨by rfl, ?_⟩) hHeld ?_
        rotate_left 1
        · (intro w hSw; (try dsimp only at hSw); go_simp; try with_reducible rfl)
        (try simp only [Act.put, List.setIfInBounds_toArray, List.set_cons_zero, List.set_cons_succ])
        refine wpAnyH_take (i := 17) (oi := { dst := some 5, op := Go.Op.assign (Go.Operand.tmp 37), type := 3, pos := "l61_draw.go:131", after := #[{ on := 13, ground := Go.Ground.data }, { on := 16, ground := Go.Ground.chain }, { on := 0, ground := Go.Ground.phase }, { on := 1, ground := Go.Ground.phase }, { on := 2, ground := Go.Ground.phase }, { on := 3, ground := Go.Ground.phase }, { on := 4, ground := Go.Ground.phase }, { on := 5, ground := Go.Ground.phase }, { on := 6, ground := Go.Ground.phase }, { on := 7, ground := Go.Ground.phase }, { on := 8, ground := Go.Ground.phase }, { on := 9, ground := Go.Ground.phase }, { on := 10, ground := Go.Ground.phase }, { on := 11, ground := Go.Ground.phase }, { on := 12, ground := Go.Ground.phase }, { on := 13, ground := Go.Ground.phase }, { on := 14, ground := Go.Ground.phase }, { on := 15, ground := Go.Ground.phase }, { on := 16, ground := Go.Ground.phase }], guard := none }) (v := ?_) rfl (by kernel_rfl) (by kernel_rfl) (by kernel_rfl) (fun _ _ _ h => h) (Or.inl ⟨by rfl, ?_⟩) hHeld ?_
        rotate_left 1
        · (intro w hSw; (try dsimp only at hSw); go_simp; try with_reducible rfl)
        (try simp only [Act.put, List.setIfInBounds_toArray, List.set_cons_zero, List.set_cons_succ])
        refine wpAnyH_done (by kernel_rfl) ?_ _
        go_wp2
        obtain ⟨⟨x0, x1, x2, x3⟩, _⟩ := A112
        obtain ⟨⟨y0, y1, y2, y3⟩, _⟩ := B112
        exact bodyPost_ret (v := .tuple #[.agg #[.int .i64 ax, .int .i64 ay, .int .i64 ah, .int .i64 ae], .agg #[.int .i64 ax, .int .i64 ay, .int .i64 bh, .int .i64 be], .int .i64 (sel m6 k1 k2), .int .i64 (k9 - 4)]) (by simp [results, Tryd.results9, go_sem, x0, x1, x2, x3, y0, y1, y2, y3]) rfl ⟨_, _, _, _, _, _, _, _, _, _, rfl, sel_bd m6 k1 k2 b1 b2, by omega, bw112⟩
      · skip
        go_simp
        refine (pick_lit w.heap.size rb (q2 + 1 + 1 + 1 + 1) 9 k9 _ r108 (by omega) h9.out).mono ?_
        rintro e w113 ⟨rfl, r113, o113⟩
        have A113 := A108.aside o113 nA
        have B113 := B108.aside o113 nB
        have bw113 := Off.belowAll bw108 o113.off hB
        go_wp2_with fail
        refine hK.out _ _ ?_ (fun hHeld => ?_)
        · exact CDc.aside hHeld o113 nC nD
        clear hK K
        clear r108 A108 B108 bw108 o113
        (try simp only [Act.put, List.setIfInBounds_toArray, List.set_cons_zero, List.set_cons_succ])
        refine wpAnyH_take (i := 13) (oi := { dst := some 37, op := Go.Op.binOp Go.BinOp.sub 3 (Go.Operand.tmp 36) (Go.Operand.const (Go.Value.int Go.IntKind.i64 4)) 3, type := 3, pos := "l61_draw.go:131", after := #[{ on := 12, ground := Go.Ground.data }, { on := 16, ground := Go.Ground.gcOnly Go.Departure.lateStores }], guard := none }) (v := ?_) rfl (by kernel_rfl) (by kernel_rfl) (by kernel_rfl) (fun _ _ _ h => h) (Or.inl ⟨by rfl, ?_⟩) hHeld ?_
        rotate_left 1
        · (intro w hSw; (try dsimp only at hSw); go_simp; try with_reducible rfl)
        (try simp only [Act.put, List.setIfInBounds_toArray, List.set_cons_zero, List.set_cons_succ])
        refine wpAnyH_ready (rs := [6, 14]) (by kernel_rfl) (by simp) ?_
        refine (AllReadyH.cons (o := { dst := some 30, op := Go.Op.buildSlice 41 6 #[(0, Go.Operand.tmp 27), (1, Go.Operand.tmp 29), (2, Go.Operand.const (Go.Value.int Go.IntKind.i64 0)), (3, Go.Operand.const (Go.Value.int Go.IntKind.i64 (-1))), (4, Go.Operand.const (Go.Value.int Go.IntKind.i64 60000)), (5, Go.Operand.const (Go.Value.int Go.IntKind.i64 60001))], type := 41, pos := "l61_draw.go:131", after := #[{ on := 3, ground := Go.Ground.data }, { on := 5, ground := Go.Ground.data }, { on := 15, ground := Go.Ground.gcOnly Go.Departure.lateStores }], guard := none }) rfl (fun K hK => ?_) (AllReadyH.cons (o := { dst := none, op := Go.Op.store 24 (Go.Operand.tmp 2) (Go.Operand.tmp 24), type := 0, pos := "l61_draw.go:131", after := #[{ on := 0, ground := Go.Ground.data }, { on := 12, ground := Go.Ground.chain }, { on := 0, ground := Go.Ground.phase }, { on := 1, ground := Go.Ground.textOnly Go.Departure.lateStores }, { on := 2, ground := Go.Ground.textOnly Go.Departure.lateStores }, { on := 3, ground := Go.Ground.textOnly Go.Departure.lateStoresUnsure }, { on := 4, ground := Go.Ground.textOnly Go.Departure.lateStores }, { on := 5, ground := Go.Ground.textOnly Go.Departure.lateStoresUnsure }, { on := 6, ground := Go.Ground.textOnly Go.Departure.lateStores }, { on := 7, ground := Go.Ground.textOnly Go.Departure.lateStores }, { on := 8, ground := Go.Ground.textOnly Go.Departure.lateStoresUnsure }, { on := 9, ground := Go.Ground.textOnly Go.Departure.lateStores }, { on := 10, ground := Go.Ground.textOnly Go.Departure.lateStores }, { on := 11, ground := Go.Ground.textOnly Go.Departure.lateStores }, { on := 12, ground := Go.Ground.textOnly Go.Departure.lateStoresUnsure }, { on := 13, ground := Go.Ground.textOnly Go.Departure.lateStores }], guard := none }) rfl (fun K hK => ?_) AllReadyH.nil))
        · skip
          go_simp
          have r114 := r113.alloc (.cells #[.int .i64 k1, .int .i64 k2, .int .i64 0, .int .i64 (-1), .int .i64 60000, .int .i64 60001] 3)
          have A114 := A113.alloc (.cells #[.int .i64 k1, .int .i64 k2, .int .i64 0, .int .i64 (-1), .int .i64 60000, .int .i64 60001] 3)
          have B114 := B113.alloc (.cells #[.int .i64 k1, .int .i64 k2, .int .i64 0, .int .i64 (-1), .int .i64 60000, .int .i64 60001] 3)
          have bw114 := balloc (.cells #[.int .i64 k1, .int .i64 k2, .int .i64 0, .int .i64 (-1), .int .i64 60000, .int .i64 60001] 3) bw113
          have l114 := lit6 w113 k1 k2 m6 hm6
          have nl114r : w113.heap.size ≠ rb := by have := r113.lt; omega
          have nl114A : w113.heap.size ≠ w.heap.size := by have := A113.lt; omega
          have nl114B : w113.heap.size ≠ RB := by have := B113.lt; omega
          refine hK.out _ _ ?_ (fun hHeld => ?_)
          · exact CDc.alloc hHeld _
          clear hK K
          clear r113 A113 B113 bw113
          (try simp only [Act.put, List.setIfInBounds_toArray, List.set_cons_zero, List.set_cons_succ])
          generalize w113.heap.size = L114 at *
          refine wpAnyH_mono (S' := (fun w' => CDc w' C D ax ay ah ae ax ay bh be ∧ w'.cell? ⟨L114, m6, none⟩ = some (.int .i64 (sel m6 k1 k2)))) (fun _ h => h.1) _ _ _ _ ?_
          replace hHeld := And.intro hHeld l114
          clear l114
          generalize (w113.alloc (.cells #[.int .i64 k1, .int .i64 k2, .int .i64 0, .int .i64 (-1), .int .i64 60000, .int .i64 60001] 3)) = w114 at *
          refine wpAnyH_take (i := 9) (oi := { dst := some 33, op := Go.Op.indexAddr 41 (Go.Operand.tmp 30) (Go.Operand.tmp 32), type := 0, pos := "l61_draw.go:131", after := #[{ on := 6, ground := Go.Ground.data }, { on := 8, ground := Go.Ground.data }, { on := 15, ground := Go.Ground.gcOnly Go.Departure.lateStores }], guard := none }) (v := ?_) rfl (by kernel_rfl) (by kernel_rfl) (by kernel_rfl) (fun _ _ _ h => h) (Or.inl ⟨by rfl, ?_⟩) hHeld ?_
          rotate_left 1
          · (intro w hSw; (try dsimp only at hSw); go_simp; try with_reducible rfl)
          (try simp only [Act.put, List.setIfInBounds_toArray, List.set_cons_zero, List.set_cons_succ])
          refine wpAnyH_take (i := 10) (oi := { dst := some 34, op := Go.Op.load 3 (Go.Operand.tmp 33), type := 3, pos := "l61_draw.go:131", after := #[{ on := 9, ground := Go.Ground.data }, { on := 15, ground := Go.Ground.gcOnly Go.Departure.lateStores }], guard := none }) (v := ?_) rfl (by kernel_rfl) (by kernel_rfl) (by kernel_rfl) (fun _ _ _ h => h) (Or.inl ⟨by rfl, ?_⟩) hHeld ?_
          rotate_left 1
          · (intro w hSw; (try dsimp only at hSw); obtain ⟨_, u8⟩ := hSw; go_simp; try with_reducible rfl)
          (try simp only [Act.put, List.setIfInBounds_toArray, List.set_cons_zero, List.set_cons_succ])
          refine wpAnyH_ready (rs := [14]) (by kernel_rfl) (by simp) ?_
          refine (AllReadyH.cons (o := { dst := none, op := Go.Op.store 24 (Go.Operand.tmp 2) (Go.Operand.tmp 24), type := 0, pos := "l61_draw.go:131", after := #[{ on := 0, ground := Go.Ground.data }, { on := 12, ground := Go.Ground.chain }, { on := 0, ground := Go.Ground.phase }, { on := 1, ground := Go.Ground.textOnly Go.Departure.lateStores }, { on := 2, ground := Go.Ground.textOnly Go.Departure.lateStores }, { on := 3, ground := Go.Ground.textOnly Go.Departure.lateStoresUnsure }, { on := 4, ground := Go.Ground.textOnly Go.Departure.lateStores }, { on := 5, ground := Go.Ground.textOnly Go.Departure.lateStoresUnsure }, { on := 6, ground := Go.Ground.textOnly Go.Departure.lateStores }, { on := 7, ground := Go.Ground.textOnly Go.Departure.lateStores }, { on := 8, ground := Go.Ground.textOnly Go.Departure.lateStoresUnsure }, { on := 9, ground := Go.Ground.textOnly Go.Departure.lateStores }, { on := 10, ground := Go.Ground.textOnly Go.Departure.lateStores }, { on := 11, ground := Go.Ground.textOnly Go.Departure.lateStores }, { on := 12, ground := Go.Ground.textOnly Go.Departure.lateStoresUnsure }, { on := 13, ground := Go.Ground.textOnly Go.Departure.lateStores }], guard := none }) rfl (fun K hK => ?_) AllReadyH.nil)
          obtain ⟨⟨v0, c0⟩, f0⟩ := A114 0 (by omega)
          obtain ⟨⟨v1, c1⟩, f1⟩ := A114 1 (by omega)
          obtain ⟨⟨v2, c2⟩, f2⟩ := A114 2 (by omega)
          obtain ⟨⟨v3, c3⟩, f3⟩ := A114 3 (by omega)
          go_simp
          have r115 := r114.set4 w.heap.size (.int .i64 ax) (.int .i64 ay) (.int .i64 ah) (.int .i64 ae) nA hRA
          have A115 := num4_set A114 ax ay ah ae
          have B115 := Slot4.set4 B114 w.heap.size (.int .i64 ax) (.int .i64 ay) (.int .i64 ah) (.int .i64 ae) (Ne.symm hAB)
          have bw115 := below_set4' bw114 w.heap.size (.int .i64 ax) (.int .i64 ay) (.int .i64 ah) (.int .i64 ae) hRA
          refine hK.out _ _ ?_ (fun hHeld => ?_)
          · exact ⟨CDc.set4 hHeld.1 w.heap.size _ _ _ _ nCA nDA, keep_set4 w.heap.size _ _ _ _ nl114A hHeld.2⟩
          clear hK K
          clear c0 c1 c2 c3 f0 f1 f2 f3
          clear r114 A114 B114 bw114
          (try simp only [Act.put, List.setIfInBounds_toArray, List.set_cons_zero, List.set_cons_succ])
          generalize ((((w114.setCell ⟨w.heap.size, 0, none⟩ (.int .i64 ax)).setCell ⟨w.heap.size, 1, none⟩ (.int .i64 ay)).setCell ⟨w.heap.size, 2, none⟩ (.int .i64 ah)).setCell ⟨w.heap.size, 3, none⟩ (.int .i64 ae)) = w115 at *
          refine wpAnyH_ready (rs := [15]) (by kernel_rfl) (by simp) ?_
          refine (AllReadyH.cons (o := { dst := none, op := Go.Op.store 24 (Go.Operand.tmp 3) (Go.Operand.tmp 25), type := 0, pos := "l61_draw.go:131", after := #[{ on := 1, ground := Go.Ground.data }, { on := 14, ground := Go.Ground.chain }, { on := 0, ground := Go.Ground.phase }, { on := 1, ground := Go.Ground.phase }, { on := 2, ground := Go.Ground.textOnly Go.Departure.lateStores }, { on := 3, ground := Go.Ground.textOnly Go.Departure.lateStoresUnsure }, { on := 4, ground := Go.Ground.textOnly Go.Departure.lateStores }, { on := 5, ground := Go.Ground.textOnly Go.Departure.lateStoresUnsure }, { on := 6, ground := Go.Ground.textOnly Go.Departure.lateStores }, { on := 7, ground := Go.Ground.textOnly Go.Departure.lateStores }, { on := 8, ground := Go.Ground.textOnly Go.Departure.lateStoresUnsure }, { on := 9, ground := Go.Ground.textOnly Go.Departure.lateStores }, { on := 10, ground := Go.Ground.textOnly Go.Departure.lateStores }, { on := 11, ground := Go.Ground.textOnly Go.Departure.lateStores }, { on := 12, ground := Go.Ground.textOnly Go.Departure.lateStoresUnsure }, { on := 13, ground := Go.Ground.textOnly Go.Departure.lateStores }, { on := 14, ground := Go.Ground.phase }], guard := none }) rfl (fun K hK => ?_) AllReadyH.nil)
          obtain ⟨⟨v0, c0⟩, f0⟩ := B115 0 (by omega)
          obtain ⟨⟨v1, c1⟩, f1⟩ := B115 1 (by omega)
          obtain ⟨⟨v2, c2⟩, f2⟩ := B115 2 (by omega)
          obtain ⟨⟨v3, c3⟩, f3⟩ := B115 3 (by omega)
          go_simp
          have r116 := r115.set4 RB (.int .i64 ax) (.int .i64 ay) (.int .i64 bh) (.int .i64 be) nB hRB
          have A116 := Num4.set4 A115 RB (.int .i64 ax) (.int .i64 ay) (.int .i64 bh) (.int .i64 be) hAB
          have B116 := num4_set B115 ax ay bh be
          have bw116 := below_set4' bw115 RB (.int .i64 ax) (.int .i64 ay) (.int .i64 bh) (.int .i64 be) hRB
          refine hK.out _ _ ?_ (fun hHeld => ?_)
          · exact ⟨CDc.set4 hHeld.1 RB _ _ _ _ nCB nDB, keep_set4 RB _ _ _ _ nl114B hHeld.2⟩
          clear hK K
          clear c0 c1 c2 c3 f0 f1 f2 f3
          clear r115 A115 B115 bw115
          (try simp only [Act.put, List.setIfInBounds_toArray, List.set_cons_zero, List.set_cons_succ])
          generalize ((((w115.setCell ⟨RB, 0, none⟩ (.int .i64 ax)).setCell ⟨RB, 1, none⟩ (.int .i64 ay)).setCell ⟨RB, 2, none⟩ (.int .i64 bh)).setCell ⟨RB, 3, none⟩ (.int .i64 be)) = w116 at *
          refine wpAnyH_take (i := 16) (oi := { dst := some 4, op := Go.Op.assign (Go.Operand.tmp 34), type := 3, pos := "l61_draw.go:131", after := #[{ on := 10, ground := Go.Ground.data }, { on := 15, ground := Go.Ground.chain }, { on := 0, ground := Go.Ground.phase }, { on := 1, ground := Go.Ground.phase }, { on := 2, ground := Go.Ground.phase }, { on := 3, ground := Go.Ground.phase }, { on := 4, ground := Go.Ground.phase }, { on := 5, ground := Go.Ground.phase }, { on := 6, ground := Go.Ground.phase }, { on := 7, ground := Go.Ground.phase }, { on := 8, ground := Go.Ground.phase }, { on := 9, ground := Go.Ground.phase }, { on := 10, ground := Go.Ground.phase }, { on := 11, ground := Go.Ground.textOnly Go.Departure.lateStores }, { on := 12, ground := Go.Ground.textOnly Go.Departure.lateStoresUnsure }, { on := 13, ground := Go.Ground.textOnly Go.Departure.lateStores }, { on := 14, ground := Go.Ground.phase }, { on := 15, ground := Go.Ground.phase }], guard := none }) (v := ?_) rfl (by kernel_rfl) (by kernel_rfl) (by kernel_rfl) (fun _ _ _ h => h) (Or.inl ⟨by rfl, ?_⟩) hHeld ?_
          rotate_left 1
          · (intro w hSw; (try dsimp only at hSw); go_simp; try with_reducible rfl)
          (try simp only [Act.put, List.setIfInBounds_toArray, List.set_cons_zero, List.set_cons_succ])
          refine wpAnyH_take (i := 17) (oi := { dst := some 5, op := Go.Op.assign (Go.Operand.tmp 37), type := 3, pos := "l61_draw.go:131", after := #[{ on := 13, ground := Go.Ground.data }, { on := 16, ground := Go.Ground.chain }, { on := 0, ground := Go.Ground.phase }, { on := 1, ground := Go.Ground.phase }, { on := 2, ground := Go.Ground.phase }, { on := 3, ground := Go.Ground.phase }, { on := 4, ground := Go.Ground.phase }, { on := 5, ground := Go.Ground.phase }, { on := 6, ground := Go.Ground.phase }, { on := 7, ground := Go.Ground.phase }, { on := 8, ground := Go.Ground.phase }, { on := 9, ground := Go.Ground.phase }, { on := 10, ground := Go.Ground.phase }, { on := 11, ground := Go.Ground.phase }, { on := 12, ground := Go.Ground.phase }, { on := 13, ground := Go.Ground.phase }, { on := 14, ground := Go.Ground.phase }, { on := 15, ground := Go.Ground.phase }, { on := 16, ground := Go.Ground.phase }], guard := none }) (v := ?_) rfl (by kernel_rfl) (by kernel_rfl) (by kernel_rfl) (fun _ _ _ h => h) (Or.inl ⟨by rfl, ?_⟩) hHeld ?_
          rotate_left 1
          · (intro w hSw; (try dsimp only at hSw); go_simp; try with_reducible rfl)
          (try simp only [Act.put, List.setIfInBounds_toArray, List.set_cons_zero, List.set_cons_succ])
          refine wpAnyH_done (by kernel_rfl) ?_ _
          go_wp2
          obtain ⟨⟨x0, x1, x2, x3⟩, _⟩ := A116
          obtain ⟨⟨y0, y1, y2, y3⟩, _⟩ := B116
          exact bodyPost_ret (v := .tuple #[.agg #[.int .i64 ax, .int .i64 ay, .int .i64 ah, .int .i64 ae], .agg #[.int .i64 ax, .int .i64 ay, .int .i64 bh, .int .i64 be], .int .i64 (sel m6 k1 k2), .int .i64 (k9 - 4)]) (by simp [results, Tryd.results9, go_sem, x0, x1, x2, x3, y0, y1, y2, y3]) rfl ⟨_, _, _, _, _, _, _, _, _, _, rfl, sel_bd m6 k1 k2 b1 b2, by omega, bw116⟩
        · skip
          obtain ⟨⟨v0, c0⟩, f0⟩ := A113 0 (by omega)
          obtain ⟨⟨v1, c1⟩, f1⟩ := A113 1 (by omega)
          obtain ⟨⟨v2, c2⟩, f2⟩ := A113 2 (by omega)
          obtain ⟨⟨v3, c3⟩, f3⟩ := A113 3 (by omega)
          go_simp
          have r117 := r113.set4 w.heap.size (.int .i64 ax) (.int .i64 ay) (.int .i64 ah) (.int .i64 ae) nA hRA
          have A117 := num4_set A113 ax ay ah ae
          have B117 := Slot4.set4 B113 w.heap.size (.int .i64 ax) (.int .i64 ay) (.int .i64 ah) (.int .i64 ae) (Ne.symm hAB)
          have bw117 := below_set4' bw113 w.heap.size (.int .i64 ax) (.int .i64 ay) (.int .i64 ah) (.int .i64 ae) hRA
          refine hK.out _ _ ?_ (fun hHeld => ?_)
          · exact CDc.set4 hHeld w.heap.size _ _ _ _ nCA nDA
          clear hK K
          clear c0 c1 c2 c3 f0 f1 f2 f3
          clear r113 A113 B113 bw113
          (try simp only [Act.put, List.setIfInBounds_toArray, List.set_cons_zero, List.set_cons_succ])
          generalize ((((w113.setCell ⟨w.heap.size, 0, none⟩ (.int .i64 ax)).setCell ⟨w.heap.size, 1, none⟩ (.int .i64 ay)).setCell ⟨w.heap.size, 2, none⟩ (.int .i64 ah)).setCell ⟨w.heap.size, 3, none⟩ (.int .i64 ae)) = w117 at *
          refine wpAnyH_ready (rs := [6, 15]) (by kernel_rfl) (by simp) ?_
          refine (AllReadyH.cons (o := { dst := some 30, op := Go.Op.buildSlice 41 6 #[(0, Go.Operand.tmp 27), (1, Go.Operand.tmp 29), (2, Go.Operand.const (Go.Value.int Go.IntKind.i64 0)), (3, Go.Operand.const (Go.Value.int Go.IntKind.i64 (-1))), (4, Go.Operand.const (Go.Value.int Go.IntKind.i64 60000)), (5, Go.Operand.const (Go.Value.int Go.IntKind.i64 60001))], type := 41, pos := "l61_draw.go:131", after := #[{ on := 3, ground := Go.Ground.data }, { on := 5, ground := Go.Ground.data }, { on := 15, ground := Go.Ground.gcOnly Go.Departure.lateStores }], guard := none }) rfl (fun K hK => ?_) (AllReadyH.cons (o := { dst := none, op := Go.Op.store 24 (Go.Operand.tmp 3) (Go.Operand.tmp 25), type := 0, pos := "l61_draw.go:131", after := #[{ on := 1, ground := Go.Ground.data }, { on := 14, ground := Go.Ground.chain }, { on := 0, ground := Go.Ground.phase }, { on := 1, ground := Go.Ground.phase }, { on := 2, ground := Go.Ground.textOnly Go.Departure.lateStores }, { on := 3, ground := Go.Ground.textOnly Go.Departure.lateStoresUnsure }, { on := 4, ground := Go.Ground.textOnly Go.Departure.lateStores }, { on := 5, ground := Go.Ground.textOnly Go.Departure.lateStoresUnsure }, { on := 6, ground := Go.Ground.textOnly Go.Departure.lateStores }, { on := 7, ground := Go.Ground.textOnly Go.Departure.lateStores }, { on := 8, ground := Go.Ground.textOnly Go.Departure.lateStoresUnsure }, { on := 9, ground := Go.Ground.textOnly Go.Departure.lateStores }, { on := 10, ground := Go.Ground.textOnly Go.Departure.lateStores }, { on := 11, ground := Go.Ground.textOnly Go.Departure.lateStores }, { on := 12, ground := Go.Ground.textOnly Go.Departure.lateStoresUnsure }, { on := 13, ground := Go.Ground.textOnly Go.Departure.lateStores }, { on := 14, ground := Go.Ground.phase }], guard := none }) rfl (fun K hK => ?_) AllReadyH.nil))
          · skip
            go_simp
            have r118 := r117.alloc (.cells #[.int .i64 k1, .int .i64 k2, .int .i64 0, .int .i64 (-1), .int .i64 60000, .int .i64 60001] 3)
            have A118 := A117.alloc (.cells #[.int .i64 k1, .int .i64 k2, .int .i64 0, .int .i64 (-1), .int .i64 60000, .int .i64 60001] 3)
            have B118 := B117.alloc (.cells #[.int .i64 k1, .int .i64 k2, .int .i64 0, .int .i64 (-1), .int .i64 60000, .int .i64 60001] 3)
            have bw118 := balloc (.cells #[.int .i64 k1, .int .i64 k2, .int .i64 0, .int .i64 (-1), .int .i64 60000, .int .i64 60001] 3) bw117
            have l118 := lit6 w117 k1 k2 m6 hm6
            have nl118r : w117.heap.size ≠ rb := by have := r117.lt; omega
            have nl118A : w117.heap.size ≠ w.heap.size := by have := A117.lt; omega
            have nl118B : w117.heap.size ≠ RB := by have := B117.lt; omega
            refine hK.out _ _ ?_ (fun hHeld => ?_)
            · exact CDc.alloc hHeld _
            clear hK K
            clear r117 A117 B117 bw117
            (try simp only [Act.put, List.setIfInBounds_toArray, List.set_cons_zero, List.set_cons_succ])
            generalize w117.heap.size = L118 at *
            refine wpAnyH_mono (S' := (fun w' => CDc w' C D ax ay ah ae ax ay bh be ∧ w'.cell? ⟨L118, m6, none⟩ = some (.int .i64 (sel m6 k1 k2)))) (fun _ h => h.1) _ _ _ _ ?_
            replace hHeld := And.intro hHeld l118
            clear l118
            generalize (w117.alloc (.cells #[.int .i64 k1, .int .i64 k2, .int .i64 0, .int .i64 (-1), .int .i64 60000, .int .i64 60001] 3)) = w118 at *
            refine wpAnyH_take (i := 9) (oi := { dst := some 33, op := Go.Op.indexAddr 41 (Go.Operand.tmp 30) (Go.Operand.tmp 32), type := 0, pos := "l61_draw.go:131", after := #[{ on := 6, ground := Go.Ground.data }, { on := 8, ground := Go.Ground.data }, { on := 15, ground := Go.Ground.gcOnly Go.Departure.lateStores }], guard := none }) (v := ?_) rfl (by kernel_rfl) (by kernel_rfl) (by kernel_rfl) (fun _ _ _ h => h) (Or.inl ⟨by rfl, ?_⟩) hHeld ?_
            rotate_left 1
            · (intro w hSw; (try dsimp only at hSw); go_simp; try with_reducible rfl)
            (try simp only [Act.put, List.setIfInBounds_toArray, List.set_cons_zero, List.set_cons_succ])
            refine wpAnyH_take (i := 10) (oi := { dst := some 34, op := Go.Op.load 3 (Go.Operand.tmp 33), type := 3, pos := "l61_draw.go:131", after := #[{ on := 9, ground := Go.Ground.data }, { on := 15, ground := Go.Ground.gcOnly Go.Departure.lateStores }], guard := none }) (v := ?_) rfl (by kernel_rfl) (by kernel_rfl) (by kernel_rfl) (fun _ _ _ h => h) (Or.inl ⟨by rfl, ?_⟩) hHeld ?_
            rotate_left 1
            · (intro w hSw; (try dsimp only at hSw); obtain ⟨_, u8⟩ := hSw; go_simp; try with_reducible rfl)
            (try simp only [Act.put, List.setIfInBounds_toArray, List.set_cons_zero, List.set_cons_succ])
            refine wpAnyH_ready (rs := [15]) (by kernel_rfl) (by simp) ?_
            refine (AllReadyH.cons (o := { dst := none, op := Go.Op.store 24 (Go.Operand.tmp 3) (Go.Operand.tmp 25), type := 0, pos := "l61_draw.go:131", after := #[{ on := 1, ground := Go.Ground.data }, { on := 14, ground := Go.Ground.chain }, { on := 0, ground := Go.Ground.phase }, { on := 1, ground := Go.Ground.phase }, { on := 2, ground := Go.Ground.textOnly Go.Departure.lateStores }, { on := 3, ground := Go.Ground.textOnly Go.Departure.lateStoresUnsure }, { on := 4, ground := Go.Ground.textOnly Go.Departure.lateStores }, { on := 5, ground := Go.Ground.textOnly Go.Departure.lateStoresUnsure }, { on := 6, ground := Go.Ground.textOnly Go.Departure.lateStores }, { on := 7, ground := Go.Ground.textOnly Go.Departure.lateStores }, { on := 8, ground := Go.Ground.textOnly Go.Departure.lateStoresUnsure }, { on := 9, ground := Go.Ground.textOnly Go.Departure.lateStores }, { on := 10, ground := Go.Ground.textOnly Go.Departure.lateStores }, { on := 11, ground := Go.Ground.textOnly Go.Departure.lateStores }, { on := 12, ground := Go.Ground.textOnly Go.Departure.lateStoresUnsure }, { on := 13, ground := Go.Ground.textOnly Go.Departure.lateStores }, { on := 14, ground := Go.Ground.phase }], guard := none }) rfl (fun K hK => ?_) AllReadyH.nil)
            obtain ⟨⟨v0, c0⟩, f0⟩ := B118 0 (by omega)
            obtain ⟨⟨v1, c1⟩, f1⟩ := B118 1 (by omega)
            obtain ⟨⟨v2, c2⟩, f2⟩ := B118 2 (by omega)
            obtain ⟨⟨v3, c3⟩, f3⟩ := B118 3 (by omega)
            go_simp
            have r119 := r118.set4 RB (.int .i64 ax) (.int .i64 ay) (.int .i64 bh) (.int .i64 be) nB hRB
            have A119 := Num4.set4 A118 RB (.int .i64 ax) (.int .i64 ay) (.int .i64 bh) (.int .i64 be) hAB
            have B119 := num4_set B118 ax ay bh be
            have bw119 := below_set4' bw118 RB (.int .i64 ax) (.int .i64 ay) (.int .i64 bh) (.int .i64 be) hRB
            refine hK.out _ _ ?_ (fun hHeld => ?_)
            · exact ⟨CDc.set4 hHeld.1 RB _ _ _ _ nCB nDB, keep_set4 RB _ _ _ _ nl118B hHeld.2⟩
            clear hK K
            clear c0 c1 c2 c3 f0 f1 f2 f3
            clear r118 A118 B118 bw118
            (try simp only [Act.put, List.setIfInBounds_toArray, List.set_cons_zero, List.set_cons_succ])
            generalize ((((w118.setCell ⟨RB, 0, none⟩ (.int .i64 ax)).setCell ⟨RB, 1, none⟩ (.int .i64 ay)).setCell ⟨RB, 2, none⟩ (.int .i64 bh)).setCell ⟨RB, 3, none⟩ (.int .i64 be)) = w119 at *
            refine wpAnyH_take (i := 16) (oi := { dst := some 4, op := Go.Op.assign (Go.Operand.tmp 34), type := 3, pos := "l61_draw.go:131", after := #[{ on := 10, ground := Go.Ground.data }, { on := 15, ground := Go.Ground.chain }, { on := 0, ground := Go.Ground.phase }, { on := 1, ground := Go.Ground.phase }, { on := 2, ground := Go.Ground.phase }, { on := 3, ground := Go.Ground.phase }, { on := 4, ground := Go.Ground.phase }, { on := 5, ground := Go.Ground.phase }, { on := 6, ground := Go.Ground.phase }, { on := 7, ground := Go.Ground.phase }, { on := 8, ground := Go.Ground.phase }, { on := 9, ground := Go.Ground.phase }, { on := 10, ground := Go.Ground.phase }, { on := 11, ground := Go.Ground.textOnly Go.Departure.lateStores }, { on := 12, ground := Go.Ground.textOnly Go.Departure.lateStoresUnsure }, { on := 13, ground := Go.Ground.textOnly Go.Departure.lateStores }, { on := 14, ground := Go.Ground.phase }, { on := 15, ground := Go.Ground.phase }], guard := none }) (v := ?_) rfl (by kernel_rfl) (by kernel_rfl) (by kernel_rfl) (fun _ _ _ h => h) (Or.inl ⟨by rfl, ?_⟩) hHeld ?_
            rotate_left 1
            · (intro w hSw; (try dsimp only at hSw); go_simp; try with_reducible rfl)
            (try simp only [Act.put, List.setIfInBounds_toArray, List.set_cons_zero, List.set_cons_succ])
            refine wpAnyH_take (i := 17) (oi := { dst := some 5, op := Go.Op.assign (Go.Operand.tmp 37), type := 3, pos := "l61_draw.go:131", after := #[{ on := 13, ground := Go.Ground.data }, { on := 16, ground := Go.Ground.chain }, { on := 0, ground := Go.Ground.phase }, { on := 1, ground := Go.Ground.phase }, { on := 2, ground := Go.Ground.phase }, { on := 3, ground := Go.Ground.phase }, { on := 4, ground := Go.Ground.phase }, { on := 5, ground := Go.Ground.phase }, { on := 6, ground := Go.Ground.phase }, { on := 7, ground := Go.Ground.phase }, { on := 8, ground := Go.Ground.phase }, { on := 9, ground := Go.Ground.phase }, { on := 10, ground := Go.Ground.phase }, { on := 11, ground := Go.Ground.phase }, { on := 12, ground := Go.Ground.phase }, { on := 13, ground := Go.Ground.phase }, { on := 14, ground := Go.Ground.phase }, { on := 15, ground := Go.Ground.phase }, { on := 16, ground := Go.Ground.phase }], guard := none }) (v := ?_) rfl (by kernel_rfl) (by kernel_rfl) (by kernel_rfl) (fun _ _ _ h => h) (Or.inl ⟨by rfl, ?_⟩) hHeld ?_
            rotate_left 1
            · (intro w hSw; (try dsimp only at hSw); go_simp; try with_reducible rfl)
            (try simp only [Act.put, List.setIfInBounds_toArray, List.set_cons_zero, List.set_cons_succ])
            refine wpAnyH_done (by kernel_rfl) ?_ _
            go_wp2
            obtain ⟨⟨x0, x1, x2, x3⟩, _⟩ := A119
            obtain ⟨⟨y0, y1, y2, y3⟩, _⟩ := B119
            exact bodyPost_ret (v := .tuple #[.agg #[.int .i64 ax, .int .i64 ay, .int .i64 ah, .int .i64 ae], .agg #[.int .i64 ax, .int .i64 ay, .int .i64 bh, .int .i64 be], .int .i64 (sel m6 k1 k2), .int .i64 (k9 - 4)]) (by simp [results, Tryd.results9, go_sem, x0, x1, x2, x3, y0, y1, y2, y3]) rfl ⟨_, _, _, _, _, _, _, _, _, _, rfl, sel_bd m6 k1 k2 b1 b2, by omega, bw119⟩
          · skip
            obtain ⟨⟨v0, c0⟩, f0⟩ := B117 0 (by omega)
            obtain ⟨⟨v1, c1⟩, f1⟩ := B117 1 (by omega)
            obtain ⟨⟨v2, c2⟩, f2⟩ := B117 2 (by omega)
            obtain ⟨⟨v3, c3⟩, f3⟩ := B117 3 (by omega)
            go_simp
            have r120 := r117.set4 RB (.int .i64 ax) (.int .i64 ay) (.int .i64 bh) (.int .i64 be) nB hRB
            have A120 := Num4.set4 A117 RB (.int .i64 ax) (.int .i64 ay) (.int .i64 bh) (.int .i64 be) hAB
            have B120 := num4_set B117 ax ay bh be
            have bw120 := below_set4' bw117 RB (.int .i64 ax) (.int .i64 ay) (.int .i64 bh) (.int .i64 be) hRB
            refine hK.out _ _ ?_ (fun hHeld => ?_)
            · exact CDc.set4 hHeld RB _ _ _ _ nCB nDB
            clear hK K
            clear c0 c1 c2 c3 f0 f1 f2 f3
            clear r117 A117 B117 bw117
            (try simp only [Act.put, List.setIfInBounds_toArray, List.set_cons_zero, List.set_cons_succ])
            generalize ((((w117.setCell ⟨RB, 0, none⟩ (.int .i64 ax)).setCell ⟨RB, 1, none⟩ (.int .i64 ay)).setCell ⟨RB, 2, none⟩ (.int .i64 bh)).setCell ⟨RB, 3, none⟩ (.int .i64 be)) = w120 at *
            refine wpAnyH_ready (rs := [6]) (by kernel_rfl) (by simp) ?_
            refine (AllReadyH.cons (o := { dst := some 30, op := Go.Op.buildSlice 41 6 #[(0, Go.Operand.tmp 27), (1, Go.Operand.tmp 29), (2, Go.Operand.const (Go.Value.int Go.IntKind.i64 0)), (3, Go.Operand.const (Go.Value.int Go.IntKind.i64 (-1))), (4, Go.Operand.const (Go.Value.int Go.IntKind.i64 60000)), (5, Go.Operand.const (Go.Value.int Go.IntKind.i64 60001))], type := 41, pos := "l61_draw.go:131", after := #[{ on := 3, ground := Go.Ground.data }, { on := 5, ground := Go.Ground.data }, { on := 15, ground := Go.Ground.gcOnly Go.Departure.lateStores }], guard := none }) rfl (fun K hK => ?_) AllReadyH.nil)
            go_simp
            have r121 := r120.alloc (.cells #[.int .i64 k1, .int .i64 k2, .int .i64 0, .int .i64 (-1), .int .i64 60000, .int .i64 60001] 3)
            have A121 := A120.alloc (.cells #[.int .i64 k1, .int .i64 k2, .int .i64 0, .int .i64 (-1), .int .i64 60000, .int .i64 60001] 3)
            have B121 := B120.alloc (.cells #[.int .i64 k1, .int .i64 k2, .int .i64 0, .int .i64 (-1), .int .i64 60000, .int .i64 60001] 3)
            have bw121 := balloc (.cells #[.int .i64 k1, .int .i64 k2, .int .i64 0, .int .i64 (-1), .int .i64 60000, .int .i64 60001] 3) bw120
            have l121 := lit6 w120 k1 k2 m6 hm6
            have nl121r : w120.heap.size ≠ rb := by have := r120.lt; omega
            have nl121A : w120.heap.size ≠ w.heap.size := by have := A120.lt; omega
            have nl121B : w120.heap.size ≠ RB := by have := B120.lt; omega
            refine hK.out _ _ ?_ (fun hHeld => ?_)
            · exact CDc.alloc hHeld _
            clear hK K
            clear r120 A120 B120 bw120
            (try simp only [Act.put, List.setIfInBounds_toArray, List.set_cons_zero, List.set_cons_succ])
            generalize w120.heap.size = L121 at *
            refine wpAnyH_mono (S' := (fun w' => CDc w' C D ax ay ah ae ax ay bh be ∧ w'.cell? ⟨L121, m6, none⟩ = some (.int .i64 (sel m6 k1 k2)))) (fun _ h => h.1) _ _ _ _ ?_
            replace hHeld := And.intro hHeld l121
            clear l121
            generalize (w120.alloc (.cells #[.int .i64 k1, .int .i64 k2, .int .i64 0, .int .i64 (-1), .int .i64 60000, .int .i64 60001] 3)) = w121 at *
            refine wpAnyH_take (i := 9) (oi := { dst := some 33, op := Go.Op.indexAddr 41 (Go.Operand.tmp 30) (Go.Operand.tmp 32), type := 0, pos := "l61_draw.go:131", after := #[{ on := 6, ground := Go.Ground.data }, { on := 8, ground := Go.Ground.data }, { on := 15, ground := Go.Ground.gcOnly Go.Departure.lateStores }], guard := none }) (v := ?_) rfl (by kernel_rfl) (by kernel_rfl) (by kernel_rfl) (fun _ _ _ h => h) (Or.inl ⟨by rfl, ?_⟩) hHeld ?_
            rotate_left 1
            · (intro w hSw; (try dsimp only at hSw); go_simp; try with_reducible rfl)
            (try simp only [Act.put, List.setIfInBounds_toArray, List.set_cons_zero, List.set_cons_succ])
            refine wpAnyH_take (i := 10) (oi := { dst := some 34, op := Go.Op.load 3 (Go.Operand.tmp 33), type := 3, pos := "l61_draw.go:131", after := #[{ on := 9, ground := Go.Ground.data }, { on := 15, ground := Go.Ground.gcOnly Go.Departure.lateStores }], guard := none }) (v := ?_) rfl (by kernel_rfl) (by kernel_rfl) (by kernel_rfl) (fun _ _ _ h => h) (Or.inl ⟨by rfl, ?_⟩) hHeld ?_
            rotate_left 1
            · (intro w hSw; (try dsimp only at hSw); obtain ⟨_, u8⟩ := hSw; go_simp; try with_reducible rfl)
            (try simp only [Act.put, List.setIfInBounds_toArray, List.set_cons_zero, List.set_cons_succ])
            refine wpAnyH_take (i := 16) (oi := { dst := some 4, op := Go.Op.assign (Go.Operand.tmp 34), type := 3, pos := "l61_draw.go:131", after := #[{ on := 10, ground := Go.Ground.data }, { on := 15, ground := Go.Ground.chain }, { on := 0, ground := Go.Ground.phase }, { on := 1, ground := Go.Ground.phase }, { on := 2, ground := Go.Ground.phase }, { on := 3, ground := Go.Ground.phase }, { on := 4, ground := Go.Ground.phase }, { on := 5, ground := Go.Ground.phase }, { on := 6, ground := Go.Ground.phase }, { on := 7, ground := Go.Ground.phase }, { on := 8, ground := Go.Ground.phase }, { on := 9, ground := Go.Ground.phase }, { on := 10, ground := Go.Ground.phase }, { on := 11, ground := Go.Ground.textOnly Go.Departure.lateStores }, { on := 12, ground := Go.Ground.textOnly Go.Departure.lateStoresUnsure }, { on := 13, ground := Go.Ground.textOnly Go.Departure.lateStores }, { on := 14, ground := Go.Ground.phase }, { on := 15, ground := Go.Ground.phase }], guard := none }) (v := ?_) rfl (by kernel_rfl) (by kernel_rfl) (by kernel_rfl) (fun _ _ _ h => h) (Or.inl ⟨by rfl, ?_⟩) hHeld ?_
            rotate_left 1
            · (intro w hSw; (try dsimp only at hSw); go_simp; try with_reducible rfl)
            (try simp only [Act.put, List.setIfInBounds_toArray, List.set_cons_zero, List.set_cons_succ])
            refine wpAnyH_take (i := 17) (oi := { dst := some 5, op := Go.Op.assign (Go.Operand.tmp 37), type := 3, pos := "l61_draw.go:131", after := #[{ on := 13, ground := Go.Ground.data }, { on := 16, ground := Go.Ground.chain }, { on := 0, ground := Go.Ground.phase }, { on := 1, ground := Go.Ground.phase }, { on := 2, ground := Go.Ground.phase }, { on := 3, ground := Go.Ground.phase }, { on := 4, ground := Go.Ground.phase }, { on := 5, ground := Go.Ground.phase }, { on := 6, ground := Go.Ground.phase }, { on := 7, ground := Go.Ground.phase }, { on := 8, ground := Go.Ground.phase }, { on := 9, ground := Go.Ground.phase }, { on := 10, ground := Go.Ground.phase }, { on := 11, ground := Go.Ground.phase }, { on := 12, ground := Go.Ground.phase }, { on := 13, ground := Go.Ground.phase }, { on := 14, ground := Go.Ground.phase }, { on := 15, ground := Go.Ground.phase }, { on := 16, ground := Go.Ground.phase }], guard := none }) (v := ?_) rfl (by kernel_rfl) (by kernel_rfl) (by kernel_rfl) (fun _ _ _ h => h) (Or.inl ⟨by rfl, ?_⟩) hHeld ?_
            rotate_left 1
            · (intro w hSw; (try dsimp only at hSw); go_simp; try with_reducible rfl)
            (try simp only [Act.put, List.setIfInBounds_toArray, List.set_cons_zero, List.set_cons_succ])
            refine wpAnyH_done (by kernel_rfl) ?_ _
            go_wp2
            obtain ⟨⟨x0, x1, x2, x3⟩, _⟩ := A121
            obtain ⟨⟨y0, y1, y2, y3⟩, _⟩ := B121
            exact bodyPost_ret (v := .tuple #[.agg #[.int .i64 ax, .int .i64 ay, .int .i64 ah, .int .i64 ae], .agg #[.int .i64 ax, .int .i64 ay, .int .i64 bh, .int .i64 be], .int .i64 (sel m6 k1 k2), .int .i64 (k9 - 4)]) (by simp [results, Tryd.results9, go_sem, x0, x1, x2, x3, y0, y1, y2, y3]) rfl ⟨_, _, _, _, _, _, _, _, _, _, rfl, sel_bd m6 k1 k2 b1 b2, by omega, bw121⟩
  · have e0 : (k4 == 0) = false := by simp [k0]
    clear f0 f1 f2 f3 g0 g1 g2 g3 a4 b4
    go_wp2_with fail
    have hcd : CDc w4 C D ax ay ah ae bx b_y bh be := ⟨x0, x1, x2, x3, y0, y1, y2, y3⟩
    clear x0 x1 x2 x3 y0 y1 y2 y3
    have nCA : C ≠ w.heap.size := by omega
    have nCB : C ≠ RB := by omega
    have nDA : D ≠ w.heap.size := by omega
    have nDB : D ≠ RB := by omega
    have nC : C ≠ rb := by omega
    have nD : D ≠ rb := by omega
    have b1 := G.pk_bd (q2 + 1) 300
    have b2 := G.pk_bd (q2 + 1 + 1) 60000
    have b6 := G.pk_bd (q2 + 1 + 1 + 1) 6
    have b9 := G.pk_bd (q2 + 1 + 1 + 1 + 1) 9
    obtain ⟨k1, h1⟩ : ∃ k, G.pk (q2 + 1) 300 = k := ⟨_, rfl⟩
    obtain ⟨k2, h2⟩ : ∃ k, G.pk (q2 + 1 + 1) 60000 = k := ⟨_, rfl⟩
    obtain ⟨m6, h6⟩ : ∃ m : Nat, G.pk (q2 + 1 + 1 + 1) 6 = (m : Int) := ⟨(G.pk (q2 + 1 + 1 + 1) 6).toNat, by omega⟩
    obtain ⟨k9, h9⟩ : ∃ k, G.pk (q2 + 1 + 1 + 1 + 1) 9 = k := ⟨_, rfl⟩
    rw [h1] at b1
    rw [h2] at b2
    rw [h6] at b6
    rw [h9] at b9
    replace b1 : 0 ≤ k1 ∧ k1 < 300 := by omega
    replace b2 : 0 ≤ k2 ∧ k2 < 60000 := by omega
    replace b9 : 0 ≤ k9 ∧ k9 < 9 := by omega
    have hm6 : m6 < 6 := by omega
    have i0 : (0 : Int) ≤ (m6 : Int) := by omega
    have i6 : (m6 : Int) < 6 := by omega
    clear b6
    replace h1 : Hid (G.pk (q2 + 1) 300 = k1) := h1
    replace h2 : Hid (G.pk (q2 + 1 + 1) 60000 = k2) := h2
    replace h6 : Hid (G.pk (q2 + 1 + 1 + 1) 6 = (m6 : Int)) := h6
    replace h9 : Hid (G.pk (q2 + 1 + 1 + 1 + 1) 9 = k9) := h9
    have w9 : IntKind.i64.wrap (k9 - 4) = k9 - 4 := by rw [IntKind.wrap_i64]; omega
    have hRA : w.heap.size ≤ w.heap.size := Nat.le_refl _
    have hRB : w.heap.size ≤ RB := by omega
    have r0 := r4.drew
    have A0 := S2.drew
    have B0 := S3.drew
    have bw0 := Below.drew bw1
    clear r4 S2 S3 bw1
    refine wp_region_held_drew (S := (fun w' => CDc w' C D ax ay ah ae bx b_y bh be)) (by kernel_rfl) ?_ (fun hHeld => ?_)
    · exact hcd
    refine wpAnyH_take (i := 0) (oi := { dst := some 24, op := Go.Op.load 24 (Go.Operand.tmp 7), type := 24, pos := "l61_draw.go:131", after := #[], guard := none }) (v := ?_) rfl (by kernel_rfl) (by kernel_rfl) (by kernel_rfl) (fun _ _ _ h => h) (Or.inl ⟨by rfl, ?_⟩) hHeld ?_
    rotate_left 1
    · (intro w hSw; (try dsimp only at hSw); obtain ⟨u0, u1, u2, u3, u4, u5, u6, u7⟩ := hSw; go_simp; try with_reducible rfl)
    (try simp only [Act.put, List.setIfInBounds_toArray, List.set_cons_zero, List.set_cons_succ])
    refine wpAnyH_take (i := 1) (oi := { dst := some 25, op := Go.Op.load 24 (Go.Operand.tmp 8), type := 24, pos := "l61_draw.go:131", after := #[{ on := 14, ground := Go.Ground.gcOnly Go.Departure.lateStores }], guard := none }) (v := ?_) rfl (by kernel_rfl) (by kernel_rfl) (by kernel_rfl) (fun _ _ _ h => h) (Or.inl ⟨by rfl, ?_⟩) hHeld ?_
    rotate_left 1
    · (intro w hSw; (try dsimp only at hSw); obtain ⟨u0, u1, u2, u3, u4, u5, u6, u7⟩ := hSw; go_simp; try with_reducible rfl)
    (try simp only [Act.put, List.setIfInBounds_toArray, List.set_cons_zero, List.set_cons_succ])
    refine wpAnyH_take (i := 2) (oi := { dst := some 26, op := Go.Op.move (Go.Operand.tmp 6), type := 38, pos := "l61_draw.go:131", after := #[], guard := none }) (v := ?_) rfl (by kernel_rfl) (by kernel_rfl) (by kernel_rfl) (fun _ _ _ h => h) (Or.inl ⟨by rfl, ?_⟩) hHeld ?_
    rotate_left 1
    · (intro w hSw; (try dsimp only at hSw); go_simp; try with_reducible rfl)
    (try simp only [Act.put, List.setIfInBounds_toArray, List.set_cons_zero, List.set_cons_succ])
    refine wpAnyH_take (i := 4) (oi := { dst := some 28, op := Go.Op.move (Go.Operand.tmp 6), type := 38, pos := "l61_draw.go:131", after := #[], guard := none }) (v := ?_) rfl (by kernel_rfl) (by kernel_rfl) (by kernel_rfl) (fun _ _ _ h => h) (Or.inl ⟨by rfl, ?_⟩) hHeld ?_
    rotate_left 1
    · (intro w hSw; (try dsimp only at hSw); go_simp; try with_reducible rfl)
    (try simp only [Act.put, List.setIfInBounds_toArray, List.set_cons_zero, List.set_cons_succ])
    refine wpAnyH_take (i := 7) (oi := { dst := some 31, op := Go.Op.move (Go.Operand.tmp 6), type := 38, pos := "l61_draw.go:131", after := #[], guard := none }) (v := ?_) rfl (by kernel_rfl) (by kernel_rfl) (by kernel_rfl) (fun _ _ _ h => h) (Or.inl ⟨by rfl, ?_⟩) hHeld ?_
    rotate_left 1
    · (intro w hSw; (try dsimp only at hSw); go_simp; try with_reducible rfl)
    (try simp only [Act.put, List.setIfInBounds_toArray, List.set_cons_zero, List.set_cons_succ])
    refine wpAnyH_take (i := 11) (oi := { dst := some 35, op := Go.Op.move (Go.Operand.tmp 6), type := 38, pos := "l61_draw.go:131", after := #[], guard := none }) (v := ?_) rfl (by kernel_rfl) (by kernel_rfl) (by kernel_rfl) (fun _ _ _ h => h) (Or.inl ⟨by rfl, ?_⟩) hHeld ?_
    rotate_left 1
    · (intro w hSw; (try dsimp only at hSw); go_simp; try with_reducible rfl)
    (try simp only [Act.put, List.setIfInBounds_toArray, List.set_cons_zero, List.set_cons_succ])
    refine wpAnyH_ready (rs := [3]) (by kernel_rfl) (by simp) ?_
    refine (AllReadyH.cons (o := { dst := some 27, op := Go.Op.call { callee := Go.Callee.value (Go.Operand.func 23), args := #[Go.Operand.tmp 26, Go.Operand.const (Go.Value.int Go.IntKind.i64 300)], argTypes := #[38, 3] }, type := 3, pos := "l61_draw.go:131", after := #[{ on := 2, ground := Go.Ground.data }], guard := none }) rfl (fun K hK => ?_) AllReadyH.nil)
    go_simp
    refine (pick_lit w.heap.size rb (q2 + 1) 300 k1 _ r0 (by omega) h1.out).mono ?_
    rintro e w101 ⟨rfl, r101, o101⟩
    have A101 := A0.aside o101 nA
    have B101 := B0.aside o101 nB
    have bw101 := Off.belowAll bw0 o101.off hB
    go_wp2_with fail
    refine hK.out _ _ ?_ (fun hHeld => ?_)
    · exact CDc.aside hHeld o101 nC nD
    clear hK K
    clear r0 A0 B0 bw0 o101
    (try simp only [Act.put, List.setIfInBounds_toArray, List.set_cons_zero, List.set_cons_succ])
    refine wpAnyH_ready (rs := [5]) (by kernel_rfl) (by simp) ?_
    refine (AllReadyH.cons (o := { dst := some 29, op := Go.Op.call { callee := Go.Callee.value (Go.Operand.func 23), args := #[Go.Operand.tmp 28, Go.Operand.const (Go.Value.int Go.IntKind.i64 60000)], argTypes := #[38, 3] }, type := 3, pos := "l61_draw.go:131", after := #[{ on := 4, ground := Go.Ground.data }, { on := 3, ground := Go.Ground.chain }], guard := none }) rfl (fun K hK => ?_) AllReadyH.nil)
    go_simp
    refine (pick_lit w.heap.size rb (q2 + 1 + 1) 60000 k2 _ r101 (by omega) h2.out).mono ?_
    rintro e w102 ⟨rfl, r102, o102⟩
    have A102 := A101.aside o102 nA
    have B102 := B101.aside o102 nB
    have bw102 := Off.belowAll bw101 o102.off hB
    go_wp2_with fail
    refine hK.out _ _ ?_ (fun hHeld => ?_)
    · exact CDc.aside hHeld o102 nC nD
    clear hK K
    clear r101 A101 B101 bw101 o102
    (try simp only [Act.put, List.setIfInBounds_toArray, List.set_cons_zero, List.set_cons_succ])
    refine wpAnyH_ready (rs := [6, 8]) (by kernel_rfl) (by simp) ?_
    refine (AllReadyH.cons (o := { dst := some 30, op := Go.Op.buildSlice 41 6 #[(0, Go.Operand.tmp 27), (1, Go.Operand.tmp 29), (2, Go.Operand.const (Go.Value.int Go.IntKind.i64 0)), (3, Go.Operand.const (Go.Value.int Go.IntKind.i64 (-1))), (4, Go.Operand.const (Go.Value.int Go.IntKind.i64 60000)), (5, Go.Operand.const (Go.Value.int Go.IntKind.i64 60001))], type := 41, pos := "l61_draw.go:131", after := #[{ on := 3, ground := Go.Ground.data }, { on := 5, ground := Go.Ground.data }, { on := 15, ground := Go.Ground.gcOnly Go.Departure.lateStores }], guard := none }) rfl (fun K hK => ?_) (AllReadyH.cons (o := { dst := some 32, op := Go.Op.call { callee := Go.Callee.value (Go.Operand.func 23), args := #[Go.Operand.tmp 31, Go.Operand.const (Go.Value.int Go.IntKind.i64 6)], argTypes := #[38, 3] }, type := 3, pos := "l61_draw.go:131", after := #[{ on := 7, ground := Go.Ground.data }, { on := 5, ground := Go.Ground.chain }], guard := none }) rfl (fun K hK => ?_) AllReadyH.nil))
    · skip
      go_simp
      have r103 := r102.alloc (.cells #[.int .i64 k1, .int .i64 k2, .int .i64 0, .int .i64 (-1), .int .i64 60000, .int .i64 60001] 3)
      have A103 := A102.alloc (.cells #[.int .i64 k1, .int .i64 k2, .int .i64 0, .int .i64 (-1), .int .i64 60000, .int .i64 60001] 3)
      have B103 := B102.alloc (.cells #[.int .i64 k1, .int .i64 k2, .int .i64 0, .int .i64 (-1), .int .i64 60000, .int .i64 60001] 3)
      have bw103 := balloc (.cells #[.int .i64 k1, .int .i64 k2, .int .i64 0, .int .i64 (-1), .int .i64 60000, .int .i64 60001] 3) bw102
      have l103 := lit6 w102 k1 k2 m6 hm6
      have nl103r : w102.heap.size ≠ rb := by have := r102.lt; omega
      have nl103A : w102.heap.size ≠ w.heap.size := by have := A102.lt; omega
      have nl103B : w102.heap.size ≠ RB := by have := B102.lt; omega
      refine hK.out _ _ ?_ (fun hHeld => ?_)
      · exact CDc.alloc hHeld _
      clear hK K
      clear r102 A102 B102 bw102
      (try simp only [Act.put, List.setIfInBounds_toArray, List.set_cons_zero, List.set_cons_succ])
      generalize w102.heap.size = L103 at *
      refine wpAnyH_mono (S' := (fun w' => CDc w' C D ax ay ah ae bx b_y bh be ∧ w'.cell? ⟨L103, m6, none⟩ = some (.int .i64 (sel m6 k1 k2)))) (fun _ h => h.1) _ _ _ _ ?_
      replace hHeld := And.intro hHeld l103
      clear l103
      generalize (w102.alloc (.cells #[.int .i64 k1, .int .i64 k2, .int .i64 0, .int .i64 (-1), .int .i64 60000, .int .i64 60001] 3)) = w103 at *
      refine wpAnyH_ready (rs := [8]) (by kernel_rfl) (by simp) ?_
      refine (AllReadyH.cons (o := { dst := some 32, op := Go.Op.call { callee := Go.Callee.value (Go.Operand.func 23), args := #[Go.Operand.tmp 31, Go.Operand.const (Go.Value.int Go.IntKind.i64 6)], argTypes := #[38, 3] }, type := 3, pos := "l61_draw.go:131", after := #[{ on := 7, ground := Go.Ground.data }, { on := 5, ground := Go.Ground.chain }], guard := none }) rfl (fun K hK => ?_) AllReadyH.nil)
      go_simp
      refine (pick_lit w.heap.size rb (q2 + 1 + 1 + 1) 6 (m6 : Int) _ r103 (by omega) h6.out).mono ?_
      rintro e w104 ⟨rfl, r104, o104⟩
      have A104 := A103.aside o104 nA
      have B104 := B103.aside o104 nB
      have bw104 := Off.belowAll bw103 o104.off hB
      go_wp2_with fail
      refine hK.out _ _ ?_ (fun hHeld => ?_)
      · exact ⟨CDc.aside hHeld.1 o104 nC nD, keep_aside o104 nl103r hHeld.2⟩
      clear hK K
      clear r103 A103 B103 bw103 o104
      (try simp only [Act.put, List.setIfInBounds_toArray, List.set_cons_zero, List.set_cons_succ])
      refine wpAnyH_take (i := 9) (oi := { dst := some 33, op := Go.Op.indexAddr 41 (Go.Operand.tmp 30) (Go.Operand.tmp 32), type := 0, pos := "l61_draw.go:131", after := #[{ on := 6, ground := Go.Ground.data }, { on := 8, ground := Go.Ground.data }, { on := 15, ground := Go.Ground.gcOnly Go.Departure.lateStores }], guard := none }) (v := ?_) rfl (by kernel_rfl) (by kernel_rfl) (by kernel_rfl) (fun _ _ _ h => h) (Or.inl ⟨by rfl, ?_⟩) hHeld ?_
      rotate_left 1
      · (intro w hSw; (try dsimp only at hSw); go_simp; try with_reducible rfl)
      (try simp only [Act.put, List.setIfInBounds_toArray, List.set_cons_zero, List.set_cons_succ])
      refine wpAnyH_take (i := 10) (oi := { dst := some 34, op := Go.Op.load 3 (Go.Operand.tmp 33), type := 3, pos := "l61_draw.go:131", after := #[{ on := 9, ground := Go.Ground.data }, { on := 15, ground := Go.Ground.gcOnly Go.Departure.lateStores }], guard := none }) (v := ?_) rfl (by kernel_rfl) (by kernel_rfl) (by kernel_rfl) (fun _ _ _ h => h) (Or.inl ⟨by rfl, ?_⟩) hHeld ?_
      rotate_left 1
      · (intro w hSw; (try dsimp only at hSw); obtain ⟨_, u8⟩ := hSw; go_simp; try with_reducible rfl)
      (try simp only [Act.put, List.setIfInBounds_toArray, List.set_cons_zero, List.set_cons_succ])
      refine wpAnyH_ready (rs := [12]) (by kernel_rfl) (by simp) ?_
      refine (AllReadyH.cons (o := { dst := some 36, op := Go.Op.call { callee := Go.Callee.value (Go.Operand.func 23), args := #[Go.Operand.tmp 35, Go.Operand.const (Go.Value.int Go.IntKind.i64 9)], argTypes := #[38, 3] }, type := 3, pos := "l61_draw.go:131", after := #[{ on := 11, ground := Go.Ground.data }, { on := 8, ground := Go.Ground.chain }], guard := none }) rfl (fun K hK => ?_) AllReadyH.nil)
      go_simp
      refine (pick_lit w.heap.size rb (q2 + 1 + 1 + 1 + 1) 9 k9 _ r104 (by omega) h9.out).mono ?_
      rintro e w105 ⟨rfl, r105, o105⟩
      have A105 := A104.aside o105 nA
      have B105 := B104.aside o105 nB
      have bw105 := Off.belowAll bw104 o105.off hB
      go_wp2_with fail
      refine hK.out _ _ ?_ (fun hHeld => ?_)
      · exact ⟨CDc.aside hHeld.1 o105 nC nD, keep_aside o105 nl103r hHeld.2⟩
      clear hK K
      clear r104 A104 B104 bw104 o105
      (try simp only [Act.put, List.setIfInBounds_toArray, List.set_cons_zero, List.set_cons_succ])
      refine wpAnyH_take (i := 13) (oi := { dst := some 37, op := Go.Op.binOp Go.BinOp.sub 3 (Go.Operand.tmp 36) (Go.Operand.const (Go.Value.int Go.IntKind.i64 4)) 3, type := 3, pos := "l61_draw.go:131", after := #[{ on := 12, ground := Go.Ground.data }, { on := 16, ground := Go.Ground.gcOnly Go.Departure.lateStores }], guard := none }) (v := ?_) rfl (by kernel_rfl) (by kernel_rfl) (by kernel_rfl) (fun _ _ _ h => h) (Or.inl ⟨by rfl, ?_⟩) hHeld ?_
      rotate_left 1
      · (intro w hSw; (try dsimp only at hSw); go_simp; try with_reducible rfl)
      (try simp only [Act.put, List.setIfInBounds_toArray, List.set_cons_zero, List.set_cons_succ])
      refine wpAnyH_ready (rs := [14]) (by kernel_rfl) (by simp) ?_
      refine (AllReadyH.cons (o := { dst := none, op := Go.Op.store 24 (Go.Operand.tmp 2) (Go.Operand.tmp 24), type := 0, pos := "l61_draw.go:131", after := #[{ on := 0, ground := Go.Ground.data }, { on := 12, ground := Go.Ground.chain }, { on := 0, ground := Go.Ground.phase }, { on := 1, ground := Go.Ground.textOnly Go.Departure.lateStores }, { on := 2, ground := Go.Ground.textOnly Go.Departure.lateStores }, { on := 3, ground := Go.Ground.textOnly Go.Departure.lateStoresUnsure }, { on := 4, ground := Go.Ground.textOnly Go.Departure.lateStores }, { on := 5, ground := Go.Ground.textOnly Go.Departure.lateStoresUnsure }, { on := 6, ground := Go.Ground.textOnly Go.Departure.lateStores }, { on := 7, ground := Go.Ground.textOnly Go.Departure.lateStores }, { on := 8, ground := Go.Ground.textOnly Go.Departure.lateStoresUnsure }, { on := 9, ground := Go.Ground.textOnly Go.Departure.lateStores }, { on := 10, ground := Go.Ground.textOnly Go.Departure.lateStores }, { on := 11, ground := Go.Ground.textOnly Go.Departure.lateStores }, { on := 12, ground := Go.Ground.textOnly Go.Departure.lateStoresUnsure }, { on := 13, ground := Go.Ground.textOnly Go.Departure.lateStores }], guard := none }) rfl (fun K hK => ?_) AllReadyH.nil)
      obtain ⟨⟨v0, c0⟩, f0⟩ := A105 0 (by omega)
      obtain ⟨⟨v1, c1⟩, f1⟩ := A105 1 (by omega)
      obtain ⟨⟨v2, c2⟩, f2⟩ := A105 2 (by omega)
      obtain ⟨⟨v3, c3⟩, f3⟩ := A105 3 (by omega)
      go_simp
      have r106 := r105.set4 w.heap.size (.int .i64 ax) (.int .i64 ay) (.int .i64 ah) (.int .i64 ae) nA hRA
      have A106 := num4_set A105 ax ay ah ae
      have B106 := Slot4.set4 B105 w.heap.size (.int .i64 ax) (.int .i64 ay) (.int .i64 ah) (.int .i64 ae) (Ne.symm hAB)
      have bw106 := below_set4' bw105 w.heap.size (.int .i64 ax) (.int .i64 ay) (.int .i64 ah) (.int .i64 ae) hRA
      refine hK.out _ _ ?_ (fun hHeld => ?_)
      · exact ⟨CDc.set4 hHeld.1 w.heap.size _ _ _ _ nCA nDA, keep_set4 w.heap.size _ _ _ _ nl103A hHeld.2⟩
      clear hK K
      clear c0 c1 c2 c3 f0 f1 f2 f3
      clear r105 A105 B105 bw105
      (try simp only [Act.put, List.setIfInBounds_toArray, List.set_cons_zero, List.set_cons_succ])
      generalize ((((w105.setCell ⟨w.heap.size, 0, none⟩ (.int .i64 ax)).setCell ⟨w.heap.size, 1, none⟩ (.int .i64 ay)).setCell ⟨w.heap.size, 2, none⟩ (.int .i64 ah)).setCell ⟨w.heap.size, 3, none⟩ (.int .i64 ae)) = w106 at *
      refine wpAnyH_ready (rs := [15]) (by kernel_rfl) (by simp) ?_
      refine (AllReadyH.cons (o := { dst := none, op := Go.Op.store 24 (Go.Operand.tmp 3) (Go.Operand.tmp 25), type := 0, pos := "l61_draw.go:131", after := #[{ on := 1, ground := Go.Ground.data }, { on := 14, ground := Go.Ground.chain }, { on := 0, ground := Go.Ground.phase }, { on := 1, ground := Go.Ground.phase }, { on := 2, ground := Go.Ground.textOnly Go.Departure.lateStores }, { on := 3, ground := Go.Ground.textOnly Go.Departure.lateStoresUnsure }, { on := 4, ground := Go.Ground.textOnly Go.Departure.lateStores }, { on := 5, ground := Go.Ground.textOnly Go.Departure.lateStoresUnsure }, { on := 6, ground := Go.Ground.textOnly Go.Departure.lateStores }, { on := 7, ground := Go.Ground.textOnly Go.Departure.lateStores }, { on := 8, ground := Go.Ground.textOnly Go.Departure.lateStoresUnsure }, { on := 9, ground := Go.Ground.textOnly Go.Departure.lateStores }, { on := 10, ground := Go.Ground.textOnly Go.Departure.lateStores }, { on := 11, ground := Go.Ground.textOnly Go.Departure.lateStores }, { on := 12, ground := Go.Ground.textOnly Go.Departure.lateStoresUnsure }, { on := 13, ground := Go.Ground.textOnly Go.Departure.lateStores }, { on := 14, ground := Go.Ground.phase }], guard := none }) rfl (fun K hK => ?_) AllReadyH.nil)
      obtain ⟨⟨v0, c0⟩, f0⟩ := B106 0 (by omega)
      obtain ⟨⟨v1, c1⟩, f1⟩ := B106 1 (by omega)
      obtain ⟨⟨v2, c2⟩, f2⟩ := B106 2 (by omega)
      obtain ⟨⟨v3, c3⟩, f3⟩ := B106 3 (by omega)
      go_simp
      have r107 := r106.set4 RB (.int .i64 bx) (.int .i64 b_y) (.int .i64 bh) (.int .i64 be) nB hRB
      have A107 := Num4.set4 A106 RB (.int .i64 bx) (.int .i64 b_y) (.int .i64 bh) (.int .i64 be) hAB
      have B107 := num4_set B106 bx b_y bh be
      have bw107 := below_set4' bw106 RB (.int .i64 bx) (.int .i64 b_y) (.int .i64 bh) (.int .i64 be) hRB
      refine hK.out _ _ ?_ (fun hHeld => ?_)
      · exact ⟨CDc.set4 hHeld.1 RB _ _ _ _ nCB nDB, keep_set4 RB _ _ _ _ nl103B hHeld.2⟩
      clear hK K
      clear c0 c1 c2 c3 f0 f1 f2 f3
      clear r106 A106 B106 bw106
      (try simp only [Act.put, List.setIfInBounds_toArray, List.set_cons_zero, List.set_cons_succ])
      generalize ((((w106.setCell ⟨RB, 0, none⟩ (.int .i64 bx)).setCell ⟨RB, 1, none⟩ (.int .i64 b_y)).setCell ⟨RB, 2, none⟩ (.int .i64 bh)).setCell ⟨RB, 3, none⟩ (.int .i64 be)) = w107 at *
      refine wpAnyH_take (i := 16) (oi := { dst := some 4, op := Go.Op.assign (Go.Operand.tmp 34), type := 3, pos := "l61_draw.go:131", after := #[{ on := 10, ground := Go.Ground.data }, { on := 15, ground := Go.Ground.chain }, { on := 0, ground := Go.Ground.phase }, { on := 1, ground := Go.Ground.phase }, { on := 2, ground := Go.Ground.phase }, { on := 3, ground := Go.Ground.phase }, { on := 4, ground := Go.Ground.phase }, { on := 5, ground := Go.Ground.phase }, { on := 6, ground := Go.Ground.phase }, { on := 7, ground := Go.Ground.phase }, { on := 8, ground := Go.Ground.phase }, { on := 9, ground := Go.Ground.phase }, { on := 10, ground := Go.Ground.phase }, { on := 11, ground := Go.Ground.textOnly Go.Departure.lateStores }, { on := 12, ground := Go.Ground.textOnly Go.Departure.lateStoresUnsure }, { on := 13, ground := Go.Ground.textOnly Go.Departure.lateStores }, { on := 14, ground := Go.Ground.phase }, { on := 15, ground := Go.Ground.phase }], guard := none }) (v := ?_) rfl (by kernel_rfl) (by kernel_rfl) (by kernel_rfl) (fun _ _ _ h => h) (Or.inl ⟨by rfl, ?_⟩) hHeld ?_
      rotate_left 1
      · (intro w hSw; (try dsimp only at hSw); go_simp; try with_reducible rfl)
      (try simp only [Act.put, List.setIfInBounds_toArray, List.set_cons_zero, List.set_cons_succ])
      refine wpAnyH_take (i := 17) (oi := { dst := some 5, op := Go.Op.assign (Go.Operand.tmp 37), type := 3, pos := "l61_draw.go:131", after := #[{ on := 13, ground := Go.Ground.data }, { on := 16, ground := Go.Ground.chain }, { on := 0, ground := Go.Ground.phase }, { on := 1, ground := Go.Ground.phase }, { on := 2, ground := Go.Ground.phase }, { on := 3, ground := Go.Ground.phase }, { on := 4, ground := Go.Ground.phase }, { on := 5, ground := Go.Ground.phase }, { on := 6, ground := Go.Ground.phase }, { on := 7, ground := Go.Ground.phase }, { on := 8, ground := Go.Ground.phase }, { on := 9, ground := Go.Ground.phase }, { on := 10, ground := Go.Ground.phase }, { on := 11, ground := Go.Ground.phase }, { on := 12, ground := Go.Ground.phase }, { on := 13, ground := Go.Ground.phase }, { on := 14, ground := Go.Ground.phase }, { on := 15, ground := Go.Ground.phase }, { on := 16, ground := Go.Ground.phase }], guard := none }) (v := ?_) rfl (by kernel_rfl) (by kernel_rfl) (by kernel_rfl) (fun _ _ _ h => h) (Or.inl ⟨by rfl, ?_⟩) hHeld ?_
      rotate_left 1
      · (intro w hSw; (try dsimp only at hSw); go_simp; try with_reducible rfl)
      (try simp only [Act.put, List.setIfInBounds_toArray, List.set_cons_zero, List.set_cons_succ])
      refine wpAnyH_done (by kernel_rfl) ?_ _
      go_wp2
      obtain ⟨⟨x0, x1, x2, x3⟩, _⟩ := A107
      obtain ⟨⟨y0, y1, y2, y3⟩, _⟩ := B107
      exact bodyPost_ret (v := .tuple #[.agg #[.int .i64 ax, .int .i64 ay, .int .i64 ah, .int .i64 ae], .agg #[.int .i64 bx, .int .i64 b_y, .int .i64 bh, .int .i64 be], .int .i64 (sel m6 k1 k2), .int .i64 (k9 - 4)]) (by simp [results, Tryd.results9, go_sem, x0, x1, x2, x3, y0, y1, y2, y3]) rfl ⟨_, _, _, _, _, _, _, _, _, _, rfl, sel_bd m6 k1 k2 b1 b2, by omega, bw107⟩
    · skip
      go_simp
      refine (pick_lit w.heap.size rb (q2 + 1 + 1 + 1) 6 (m6 : Int) _ r102 (by omega) h6.out).mono ?_
      rintro e w108 ⟨rfl, r108, o108⟩
      have A108 := A102.aside o108 nA
      have B108 := B102.aside o108 nB
      have bw108 := Off.belowAll bw102 o108.off hB
      go_wp2_with fail
      refine hK.out _ _ ?_ (fun hHeld => ?_)
      · exact CDc.aside hHeld o108 nC nD
      clear hK K
      clear r102 A102 B102 bw102 o108
      (try simp only [Act.put, List.setIfInBounds_toArray, List.set_cons_zero, List.set_cons_succ])
      refine wpAnyH_ready (rs := [6, 12]) (by kernel_rfl) (by simp) ?_
      refine (AllReadyH.cons (o := { dst := some 30, op := Go.Op.buildSlice 41 6 #[(0, Go.Operand.tmp 27), (1, Go.Operand.tmp 29), (2, Go.Operand.const (Go.Value.int Go.IntKind.i64 0)), (3, Go.Operand.const (Go.Value.int Go.IntKind.i64 (-1))), (4, Go.Operand.const (Go.Value.int Go.IntKind.i64 60000)), (5, Go.Operand.const (Go.Value.int Go.IntKind.i64 60001))], type := 41, pos := "l61_draw.go:131", after := #[{ on := 3, ground := Go.Ground.data }, { on := 5, ground := Go.Ground.data }, { on := 15, ground := Go.Ground.gcOnly Go.Departure.lateStores }], guard := none }) rfl (fun K hK => ?_) (AllReadyH.cons (o := { dst := some 36, op := Go.Op.call { callee := Go.Callee.value (Go.Operand.func 23), args := #[Go.Operand.tmp 35, Go.Operand.const (Go.Value.int Go.IntKind.i64 9)], argTypes := #[38, 3] }, type := 3, pos := "l61_draw.go:131", after := #[{ on := 11, ground := Go.Ground.data }, { on := 8, ground := Go.Ground.chain }], guard := none }) rfl (fun K hK => ?_) AllReadyH.nil))
      · skip
        go_simp
        have r109 := r108.alloc (.cells #[.int .i64 k1, .int .i64 k2, .int .i64 0, .int .i64 (-1), .int .i64 60000, .int .i64 60001] 3)
        have A109 := A108.alloc (.cells #[.int .i64 k1, .int .i64 k2, .int .i64 0, .int .i64 (-1), .int .i64 60000, .int .i64 60001] 3)
        have B109 := B108.alloc (.cells #[.int .i64 k1, .int .i64 k2, .int .i64 0, .int .i64 (-1), .int .i64 60000, .int .i64 60001] 3)
        have bw109 := balloc (.cells #[.int .i64 k1, .int .i64 k2, .int .i64 0, .int .i64 (-1), .int .i64 60000, .int .i64 60001] 3) bw108
        have l109 := lit6 w108 k1 k2 m6 hm6
        have nl109r : w108.heap.size ≠ rb := by have := r108.lt; omega
        have nl109A : w108.heap.size ≠ w.heap.size := by have := A108.lt; omega
        have nl109B : w108.heap.size ≠ RB := by have := B108.lt; omega
        refine hK.out _ _ ?_ (fun hHeld => ?_)
        · exact CDc.alloc hHeld _
        clear hK K
        clear r108 A108 B108 bw108
        (try simp only [Act.put, List.setIfInBounds_toArray, List.set_cons_zero, List.set_cons_succ])
        generalize w108.heap.size = L109 at *
        refine wpAnyH_mono (S' := (fun w' => CDc w' C D ax ay ah ae bx b_y bh be ∧ w'.cell? ⟨L109, m6, none⟩ = some (.int .i64 (sel m6 k1 k2)))) (fun _ h => h.1) _ _ _ _ ?_
        replace hHeld := And.intro hHeld l109
        clear l109
        generalize (w108.alloc (.cells #[.int .i64 k1, .int .i64 k2, .int .i64 0, .int .i64 (-1), .int .i64 60000, .int .i64 60001] 3)) = w109 at *
        refine wpAnyH_take (i := 9) (oi := { dst := some 33, op := Go.Op.indexAddr 41 (Go.Operand.tmp 30) (Go.Operand.tmp 32), type := 0, pos := "l61_draw.go:131", after := #[{ on := 6, ground := Go.Ground.data }, { on := 8, ground := Go.Ground.data }, { on := 15, ground := Go.Ground.gcOnly Go.Departure.lateStores }], guard := none }) (v := ?_) rfl (by kernel_rfl) (by kernel_rfl) (by kernel_rfl) (fun _ _ _ h => h) (Or.inl ⟨by rfl, ?_⟩) hHeld ?_
        rotate_left 1
        · (intro w hSw; (try dsimp only at hSw); go_simp; try with_reducible rfl)
        (try simp only [Act.put, List.setIfInBounds_toArray, List.set_cons_zero, List.set_cons_succ])
        refine wpAnyH_take (i := 10) (oi := { dst := some 34, op := Go.Op.load 3 (Go.Operand.tmp 33), type := 3, pos := "l61_draw.go:131", after := #[{ on := 9, ground := Go.Ground.data }, { on := 15, ground := Go.Ground.gcOnly Go.Departure.lateStores }], guard := none }) (v := ?_) rfl (by kernel_rfl) (by kernel_rfl) (by kernel_rfl) (fun _ _ _ h => h) (Or.inl ⟨by rfl, ?_⟩) hHeld ?_
        rotate_left 1
        · (intro w hSw; (try dsimp only at hSw); obtain ⟨_, u8⟩ := hSw; go_simp; try with_reducible rfl)
        (try simp only [Act.put, List.setIfInBounds_toArray, List.set_cons_zero, List.set_cons_succ])
        refine wpAnyH_ready (rs := [12]) (by kernel_rfl) (by simp) ?_
        refine (AllReadyH.cons (o := { dst := some 36, op := Go.Op.call { callee := Go.Callee.value (Go.Operand.func 23), args := #[Go.Operand.tmp 35, Go.Operand.const (Go.Value.int Go.IntKind.i64 9)], argTypes := #[38, 3] }, type := 3, pos := "l61_draw.go:131", after := #[{ on := 11, ground := Go.Ground.data }, { on := 8, ground := Go.Ground.chain }], guard := none }) rfl (fun K hK => ?_) AllReadyH.nil)
        go_simp
        refine (pick_lit w.heap.size rb (q2 + 1 + 1 + 1 + 1) 9 k9 _ r109 (by omega) h9.out).mono ?_
        rintro e w110 ⟨rfl, r110, o110⟩
        have A110 := A109.aside o110 nA
        have B110 := B109.aside o110 nB
        have bw110 := Off.belowAll bw109 o110.off hB
        go_wp2_with fail
        refine hK.out _ _ ?_ (fun hHeld => ?_)
        · exact ⟨CDc.aside hHeld.1 o110 nC nD, keep_aside o110 nl109r hHeld.2⟩
        clear hK K
        clear r109 A109 B109 bw109 o110
        (try simp only [Act.put, List.setIfInBounds_toArray, List.set_cons_zero, List.set_cons_succ])
        refine wpAnyH_take (i := 13) (oi := { dst := some 37, op := Go.Op.binOp Go.BinOp.sub 3 (Go.Operand.tmp 36) (Go.Operand.const (Go.Value.int Go.IntKind.i64 4)) 3, type := 3, pos := "l61_draw.go:131", after := #[{ on := 12, ground := Go.Ground.data }, { on := 16, ground := Go.Ground.gcOnly Go.Departure.lateStores }], guard := none }) (v := ?_) rfl (by kernel_rfl) (by kernel_rfl) (by kernel_rfl) (fun _ _ _ h => h) (Or.inl ⟨by rfl, ?_⟩) hHeld ?_
        rotate_left 1
        · (intro w hSw; (try dsimp only at hSw); go_simp; try with_reducible rfl)
        (try simp only [Act.put, List.setIfInBounds_toArray, List.set_cons_zero, List.set_cons_succ])
        refine wpAnyH_ready (rs := [14]) (by kernel_rfl) (by simp) ?_
        refine (AllReadyH.cons (o := { dst := none, op := Go.Op.store 24 (Go.Operand.tmp 2) (Go.Operand.tmp 24), type := 0, pos := "l61_draw.go:131", after := #[{ on := 0, ground := Go.Ground.data }, { on := 12, ground := Go.Ground.chain }, { on := 0, ground := Go.Ground.phase }, { on := 1, ground := Go.Ground.textOnly Go.Departure.lateStores }, { on := 2, ground := Go.Ground.textOnly Go.Departure.lateStores }, { on := 3, ground := Go.Ground.textOnly Go.Departure.lateStoresUnsure }, { on := 4, ground := Go.Ground.textOnly Go.Departure.lateStores }, { on := 5, ground := Go.Ground.textOnly Go.Departure.lateStoresUnsure }, { on := 6, ground := Go.Ground.textOnly Go.Departure.lateStores }, { on := 7, ground := Go.Ground.textOnly Go.Departure.lateStores }, { on := 8, ground := Go.Ground.textOnly Go.Departure.lateStoresUnsure }, { on := 9, ground := Go.Ground.textOnly Go.Departure.lateStores }, { on := 10, ground := Go.Ground.textOnly Go.Departure.lateStores }, { on := 11, ground := Go.Ground.textOnly Go.Departure.lateStores }, { on := 12, ground := Go.Ground.textOnly Go.Departure.lateStoresUnsure }, { on := 13, ground := Go.Ground.textOnly Go.Departure.lateStores }], guard := none }) rfl (fun K hK => ?_) AllReadyH.nil)
        obtain ⟨⟨v0, c0⟩, f0⟩ := A110 0 (by omega)
        obtain ⟨⟨v1, c1⟩, f1⟩ := A110 1 (by omega)
        obtain ⟨⟨v2, c2⟩, f2⟩ := A110 2 (by omega)
        obtain ⟨⟨v3, c3⟩, f3⟩ := A110 3 (by omega)
        go_simp
        have r111 := r110.set4 w.heap.size (.int .i64 ax) (.int .i64 ay) (.int .i64 ah) (.int .i64 ae) nA hRA
        have A111 := num4_set A110 ax ay ah ae
        have B111 := Slot4.set4 B110 w.heap.size (.int .i64 ax) (.int .i64 ay) (.int .i64 ah) (.int .i64 ae) (Ne.symm hAB)
        have bw111 := below_set4' bw110 w.heap.size (.int .i64 ax) (.int .i64 ay) (.int .i64 ah) (.int .i64 ae) hRA
        refine hK.out _ _ ?_ (fun hHeld => ?_)
        · exact ⟨CDc.set4 hHeld.1 w.heap.size _ _ _ _ nCA nDA, keep_set4 w.heap.size _ _ _ _ nl109A hHeld.2⟩
        clear hK K
        clear c0 c1 c2 c3 f0 f1 f2 f3
        clear r110 A110 B110 bw110
        (try simp only [Act.put, List.setIfInBounds_toArray, List.set_cons_zero, List.set_cons_succ])
        generalize ((((w110.setCell ⟨w.heap.size, 0, none⟩ (.int .i64 ax)).setCell ⟨w.heap.size, 1, none⟩ (.int .i64 ay)).setCell ⟨w.heap.size, 2, none⟩ (.int .i64 ah)).setCell ⟨w.heap.size, 3, none⟩ (.int .i64 ae)) = w111 at *
        refine wpAnyH_ready (rs := [15]) (by kernel_rfl) (by simp) ?_
        refine (AllReadyH.cons (o := { dst := none, op := Go.Op.store 24 (Go.Operand.tmp 3) (Go.Operand.tmp 25), type := 0, pos := "l61_draw.go:131", after := #[{ on := 1, ground := Go.Ground.data }, { on := 14, ground := Go.Ground.chain }, { on := 0, ground := Go.Ground.phase }, { on := 1, ground := Go.Ground.phase }, { on := 2, ground := Go.Ground.textOnly Go.Departure.lateStores }, { on := 3, ground := Go.Ground.textOnly Go.Departure.lateStoresUnsure }, { on := 4, ground := Go.Ground.textOnly Go.Departure.lateStores }, { on := 5, ground := Go.Ground.textOnly Go.Departure.lateStoresUnsure }, { on := 6, ground := Go.Ground.textOnly Go.Departure.lateStores }, { on := 7, ground := Go.Ground.textOnly Go.Departure.lateStores }, { on := 8, ground := Go.Ground.textOnly Go.Departure.lateStoresUnsure }, { on := 9, ground := Go.Ground.textOnly Go.Departure.lateStores }, { on := 10, ground := Go.Ground.textOnly Go.Departure.lateStores }, { on := 11, ground := Go.Ground.textOnly Go.Departure.lateStores }, { on := 12, ground := Go.Ground.textOnly Go.Departure.lateStoresUnsure }, { on := 13, ground := Go.Ground.textOnly Go.Departure.lateStores }, { on := 14, ground := Go.Ground.phase }], guard := none }) rfl (fun K hK => ?_) AllReadyH.nil)
        obtain ⟨⟨v0, c0⟩, f0⟩ := B111 0 (by omega)
        obtain ⟨⟨v1, c1⟩, f1⟩ := B111 1 (by omega)
        obtain ⟨⟨v2, c2⟩, f2⟩ := B111 2 (by omega)
        obtain ⟨⟨v3, c3⟩, f3⟩ := B111 3 (by omega)
        go_simp
        have r112 := r111.set4 RB (.int .i64 bx) (.int .i64 b_y) (.int .i64 bh) (.int .i64 be) nB hRB
        have A112 := Num4.set4 A111 RB (.int .i64 bx) (.int .i64 b_y) (.int .i64 bh) (.int .i64 be) hAB
        have B112 := num4_set B111 bx b_y bh be
        have bw112 := below_set4' bw111 RB (.int .i64 bx) (.int .i64 b_y) (.int .i64 bh) (.int .i64 be) hRB
        refine hK.out _ _ ?_ (fun hHeld => ?_)
        · exact ⟨CDc.set4 hHeld.1 RB _ _ _ _ nCB nDB, keep_set4 RB _ _ _ _ nl109B hHeld.2⟩
        clear hK K
        clear c0 c1 c2 c3 f0 f1 f2 f3
        clear r111 A111 B111 bw111
        (try simp only [Act.put, List.setIfInBounds_toArray, List.set_cons_zero, List.set_cons_succ])
        generalize ((((w111.setCell ⟨RB, 0, none⟩ (.int .i64 bx)).setCell ⟨RB, 1, none⟩ (.int .i64 b_y)).setCell ⟨RB, 2, none⟩ (.int .i64 bh)).setCell ⟨RB, 3, none⟩ (.int .i64 be)) = w112 at *
        refine wpAnyH_take (i := 16) (oi := { dst := some 4, op := Go.Op.assign (Go.Operand.tmp 34), type := 3, pos := "l61_draw.go:131", after := #[{ on := 10, ground := Go.Ground.data }, { on := 15, ground := Go.Ground.chain }, { on := 0, ground := Go.Ground.phase }, { on := 1, ground := Go.Ground.phase }, { on := 2, ground := Go.Ground.phase }, { on := 3, ground := Go.Ground.phase }, { on := 4, ground := Go.Ground.phase }, { on := 5, ground := Go.Ground.phase }, { on := 6, ground := Go.Ground.phase }, { on := 7, ground := Go.Ground.phase }, { on := 8, ground := Go.Ground.phase }, { on := 9, ground := Go.Ground.phase }, { on := 10, ground := Go.Ground.phase }, { on := 11, ground := Go.Ground.textOnly Go.Departure.lateStores }, { on := 12, ground := Go.Ground.textOnly Go.Departure.lateStoresUnsure }, { on := 13, ground := Go.Ground.textOnly Go.Departure.lateStores }, { on := 14, ground := Go.Ground.phase }, { on := 15, ground := Go.Ground.phase }], guard := none }) (v := ?_) rfl (by kernel_rfl) (by kernel_rfl) (by kernel_rfl) (fun _ _ _ h => h) (Or.inl ⟨by rfl, ?_⟩) hHeld ?_
        rotate_left 1
        · (intro w hSw; (try dsimp only at hSw); go_simp; try with_reducible rfl)
        (try simp only [Act.put, List.setIfInBounds_toArray, List.set_cons_zero, List.set_cons_succ])
        refine wpAnyH_take (i := 17) (oi := { dst := some 5, op := Go.Op.assign (Go.Operand.tmp 37), type := 3, pos := "l61_draw.go:131", after := #[{ on := 13, ground := Go.Ground.data }, { on := 16, ground := Go.Ground.chain }, { on := 0, ground := Go.Ground.phase }, { on := 1, ground := Go.Ground.phase }, { on := 2, ground := Go.Ground.phase }, { on := 3, ground := Go.Ground.phase }, { on := 4, ground := Go.Ground.phase }, { on := 5, ground := Go.Ground.phase }, { on := 6, ground := Go.Ground.phase }, { on := 7, ground := Go.Ground.phase }, { on := 8, ground := Go.Ground.phase }, { on := 9, ground := Go.Ground.phase }, { on := 10, ground := Go.Ground.phase }, { on := 11, ground := Go.Ground.phase }, { on := 12, ground := Go.Ground.phase }, { on := 13, ground := Go.Ground.phase }, { on := 14, ground := Go.Ground.phase }, { on := 15, ground := Go.Ground.phase }, { on := 16, ground := Go.Ground.phase }], guard := none }) (v := ?_) rfl (by kernel_rfl) (by kernel_rfl) (by kernel_rfl) (fun _ _ _ h => h) (Or.inl ⟨by rfl, ?_⟩) hHeld ?_
        rotate_left 1
        · (intro w hSw; (try dsimp only at hSw); go_simp; try with_reducible rfl)
        (try simp only [Act.put, List.setIfInBounds_toArray, List.set_cons_zero, List.set_cons_succ])
        refine wpAnyH_done (by kernel_rfl) ?_ _
        go_wp2
        obtain ⟨⟨x0, x1, x2, x3⟩, _⟩ := A112
        obtain ⟨⟨y0, y1, y2, y3⟩, _⟩ := B112
        exact bodyPost_ret (v := .tuple #[.agg #[.int .i64 ax, .int .i64 ay, .int .i64 ah, .int .i64 ae], .agg #[.int .i64 bx, .int .i64 b_y, .int .i64 bh, .int .i64 be], .int .i64 (sel m6 k1 k2), .int .i64 (k9 - 4)]) (by simp [results, Tryd.results9, go_sem, x0, x1, x2, x3, y0, y1, y2, y3]) rfl ⟨_, _, _, _, _, _, _, _, _, _, rfl, sel_bd m6 k1 k2 b1 b2, by omega, bw112⟩
      · skip
        go_simp
        refine (pick_lit w.heap.size rb (q2 + 1 + 1 + 1 + 1) 9 k9 _ r108 (by omega) h9.out).mono ?_
        rintro e w113 ⟨rfl, r113, o113⟩
        have A113 := A108.aside o113 nA
        have B113 := B108.aside o113 nB
        have bw113 := Off.belowAll bw108 o113.off hB
        go_wp2_with fail
        refine hK.out _ _ ?_ (fun hHeld => ?_)
        · exact CDc.aside hHeld o113 nC nD
        clear hK K
        clear r108 A108 B108 bw108 o113
        (try simp only [Act.put, List.setIfInBounds_toArray, List.set_cons_zero, List.set_cons_succ])
        refine wpAnyH_take (i := 13) (oi := { dst := some 37, op := Go.Op.binOp Go.BinOp.sub 3 (Go.Operand.tmp 36) (Go.Operand.const (Go.Value.int Go.IntKind.i64 4)) 3, type := 3, pos := "l61_draw.go:131", after := #[{ on := 12, ground := Go.Ground.data }, { on := 16, ground := Go.Ground.gcOnly Go.Departure.lateStores }], guard := none }) (v := ?_) rfl (by kernel_rfl) (by kernel_rfl) (by kernel_rfl) (fun _ _ _ h => h) (Or.inl ⟨by rfl, ?_⟩) hHeld ?_
        rotate_left 1
        · (intro w hSw; (try dsimp only at hSw); go_simp; try with_reducible rfl)
        (try simp only [Act.put, List.setIfInBounds_toArray, List.set_cons_zero, List.set_cons_succ])
        refine wpAnyH_ready (rs := [6, 14]) (by kernel_rfl) (by simp) ?_
        refine (AllReadyH.cons (o := { dst := some 30, op := Go.Op.buildSlice 41 6 #[(0, Go.Operand.tmp 27), (1, Go.Operand.tmp 29), (2, Go.Operand.const (Go.Value.int Go.IntKind.i64 0)), (3, Go.Operand.const (Go.Value.int Go.IntKind.i64 (-1))), (4, Go.Operand.const (Go.Value.int Go.IntKind.i64 60000)), (5, Go.Operand.const (Go.Value.int Go.IntKind.i64 60001))], type := 41, pos := "l61_draw.go:131", after := #[{ on := 3, ground := Go.Ground.data }, { on := 5, ground := Go.Ground.data }, { on := 15, ground := Go.Ground.gcOnly Go.Departure.lateStores }], guard := none }) rfl (fun K hK => ?_) (AllReadyH.cons (o := { dst := none, op := Go.Op.store 24 (Go.Operand.tmp 2) (Go.Operand.tmp 24), type := 0, pos := "l61_draw.go:131", after := #[{ on := 0, ground := Go.Ground.data }, { on := 12, ground := Go.Ground.chain }, { on := 0, ground := Go.Ground.phase }, { on := 1, ground := Go.Ground.textOnly Go.Departure.lateStores }, { on := 2, ground := Go.Ground.textOnly Go.Departure.lateStores }, { on := 3, ground := Go.Ground.textOnly Go.Departure.lateStoresUnsure }, { on := 4, ground := Go.Ground.textOnly Go.Departure.lateStores }, { on := 5, ground := Go.Ground.textOnly Go.Departure.lateStoresUnsure }, { on := 6, ground := Go.Ground.textOnly Go.Departure.lateStores }, { on := 7, ground := Go.Ground.textOnly Go.Departure.lateStores }, { on := 8, ground := Go.Ground.textOnly Go.Departure.lateStoresUnsure }, { on := 9, ground := Go.Ground.textOnly Go.Departure.lateStores }, { on := 10, ground := Go.Ground.textOnly Go.Departure.lateStores }, { on := 11, ground := Go.Ground.textOnly Go.Departure.lateStores }, { on := 12, ground := Go.Ground.textOnly Go.Departure.lateStoresUnsure }, { on := 13, ground := Go.Ground.textOnly Go.Departure.lateStores }], guard := none }) rfl (fun K hK => ?_) AllReadyH.nil))
        · skip
          go_simp
          have r114 := r113.alloc (.cells #[.int .i64 k1, .int .i64 k2, .int .i64 0, .int .i64 (-1), .int .i64 60000, .int .i64 60001] 3)
          have A114 := A113.alloc (.cells #[.int .i64 k1, .int .i64 k2, .int .i64 0, .int .i64 (-1), .int .i64 60000, .int .i64 60001] 3)
          have B114 := B113.alloc (.cells #[.int .i64 k1, .int .i64 k2, .int .i64 0, .int .i64 (-1), .int .i64 60000, .int .i64 60001] 3)
          have bw114 := balloc (.cells #[.int .i64 k1, .int .i64 k2, .int .i64 0, .int .i64 (-1), .int .i64 60000, .int .i64 60001] 3) bw113
          have l114 := lit6 w113 k1 k2 m6 hm6
          have nl114r : w113.heap.size ≠ rb := by have := r113.lt; omega
          have nl114A : w113.heap.size ≠ w.heap.size := by have := A113.lt; omega
          have nl114B : w113.heap.size ≠ RB := by have := B113.lt; omega
          refine hK.out _ _ ?_ (fun hHeld => ?_)
          · exact CDc.alloc hHeld _
          clear hK K
          clear r113 A113 B113 bw113
          (try simp only [Act.put, List.setIfInBounds_toArray, List.set_cons_zero, List.set_cons_succ])
          generalize w113.heap.size = L114 at *
          refine wpAnyH_mono (S' := (fun w' => CDc w' C D ax ay ah ae bx b_y bh be ∧ w'.cell? ⟨L114, m6, none⟩ = some (.int .i64 (sel m6 k1 k2)))) (fun _ h => h.1) _ _ _ _ ?_
          replace hHeld := And.intro hHeld l114
          clear l114
          generalize (w113.alloc (.cells #[.int .i64 k1, .int .i64 k2, .int .i64 0, .int .i64 (-1), .int .i64 60000, .int .i64 60001] 3)) = w114 at *
          refine wpAnyH_take (i := 9) (oi := { dst := some 33, op := Go.Op.indexAddr 41 (Go.Operand.tmp 30) (Go.Operand.tmp 32), type := 0, pos := "l61_draw.go:131", after := #[{ on := 6, ground := Go.Ground.data }, { on := 8, ground := Go.Ground.data }, { on := 15, ground := Go.Ground.gcOnly Go.Departure.lateStores }], guard := none }) (v := ?_) rfl (by kernel_rfl) (by kernel_rfl) (by kernel_rfl) (fun _ _ _ h => h) (Or.inl ⟨by rfl, ?_⟩) hHeld ?_
          rotate_left 1
          · (intro w hSw; (try dsimp only at hSw); go_simp; try with_reducible rfl)
          (try simp only [Act.put, List.setIfInBounds_toArray, List.set_cons_zero, List.set_cons_succ])
          refine wpAnyH_take (i := 10) (oi := { dst := some 34, op := Go.Op.load 3 (Go.Operand.tmp 33), type := 3, pos := "l61_draw.go:131", after := #[{ on := 9, ground := Go.Ground.data }, { on := 15, ground := Go.Ground.gcOnly Go.Departure.lateStores }], guard := none }) (v := ?_) rfl (by kernel_rfl) (by kernel_rfl) (by kernel_rfl) (fun _ _ _ h => h) (Or.inl ⟨by rfl, ?_⟩) hHeld ?_
          rotate_left 1
          · (intro w hSw; (try dsimp only at hSw); obtain ⟨_, u8⟩ := hSw; go_simp; try with_reducible rfl)
          (try simp only [Act.put, List.setIfInBounds_toArray, List.set_cons_zero, List.set_cons_succ])
          refine wpAnyH_ready (rs := [14]) (by kernel_rfl) (by simp) ?_
          refine (AllReadyH.cons (o := { dst := none, op := Go.Op.store 24 (Go.Operand.tmp 2) (Go.Operand.tmp 24), type := 0, pos := "l61_draw.go:131", after := #[{ on := 0, ground := Go.Ground.data }, { on := 12, ground := Go.Ground.chain }, { on := 0, ground := Go.Ground.phase }, { on := 1, ground := Go.Ground.textOnly Go.Departure.lateStores }, { on := 2, ground := Go.Ground.textOnly Go.Departure.lateStores }, { on := 3, ground := Go.Ground.textOnly Go.Departure.lateStoresUnsure }, { on := 4, ground := Go.Ground.textOnly Go.Departure.lateStores }, { on := 5, ground := Go.Ground.textOnly Go.Departure.lateStoresUnsure }, { on := 6, ground := Go.Ground.textOnly Go.Departure.lateStores }, { on := 7, ground := Go.Ground.textOnly Go.Departure.lateStores }, { on := 8, ground := Go.Ground.textOnly Go.Departure.lateStoresUnsure }, { on := 9, ground := Go.Ground.textOnly Go.Departure.lateStores }, { on := 10, ground := Go.Ground.textOnly Go.Departure.lateStores }, { on := 11, ground := Go.Ground.textOnly Go.Departure.lateStores }, { on := 12, ground := Go.Ground.textOnly Go.Departure.lateStoresUnsure }, { on := 13, ground := Go.Ground.textOnly Go.Departure.lateStores }], guard := none }) rfl (fun K hK => ?_) AllReadyH.nil)
          obtain ⟨⟨v0, c0⟩, f0⟩ := A114 0 (by omega)
          obtain ⟨⟨v1, c1⟩, f1⟩ := A114 1 (by omega)
          obtain ⟨⟨v2, c2⟩, f2⟩ := A114 2 (by omega)
          obtain ⟨⟨v3, c3⟩, f3⟩ := A114 3 (by omega)
          go_simp
          have r115 := r114.set4 w.heap.size (.int .i64 ax) (.int .i64 ay) (.int .i64 ah) (.int .i64 ae) nA hRA
          have A115 := num4_set A114 ax ay ah ae
          have B115 := Slot4.set4 B114 w.heap.size (.int .i64 ax) (.int .i64 ay) (.int .i64 ah) (.int .i64 ae) (Ne.symm hAB)
          have bw115 := below_set4' bw114 w.heap.size (.int .i64 ax) (.int .i64 ay) (.int .i64 ah) (.int .i64 ae) hRA
          refine hK.out _ _ ?_ (fun hHeld => ?_)
          · exact ⟨CDc.set4 hHeld.1 w.heap.size _ _ _ _ nCA nDA, keep_set4 w.heap.size _ _ _ _ nl114A hHeld.2⟩
          clear hK K
          clear c0 c1 c2 c3 f0 f1 f2 f3
          clear r114 A114 B114 bw114
          (try simp only [Act.put, List.setIfInBounds_toArray, List.set_cons_zero, List.set_cons_succ])
          generalize ((((w114.setCell ⟨w.heap.size, 0, none⟩ (.int .i64 ax)).setCell ⟨w.heap.size, 1, none⟩ (.int .i64 ay)).setCell ⟨w.heap.size, 2, none⟩ (.int .i64 ah)).setCell ⟨w.heap.size, 3, none⟩ (.int .i64 ae)) = w115 at *
          refine wpAnyH_ready (rs := [15]) (by kernel_rfl) (by simp) ?_
          refine (AllReadyH.cons (o := { dst := none, op := Go.Op.store 24 (Go.Operand.tmp 3) (Go.Operand.tmp 25), type := 0, pos := "l61_draw.go:131", after := #[{ on := 1, ground := Go.Ground.data }, { on := 14, ground := Go.Ground.chain }, { on := 0, ground := Go.Ground.phase }, { on := 1, ground := Go.Ground.phase }, { on := 2, ground := Go.Ground.textOnly Go.Departure.lateStores }, { on := 3, ground := Go.Ground.textOnly Go.Departure.lateStoresUnsure }, { on := 4, ground := Go.Ground.textOnly Go.Departure.lateStores }, { on := 5, ground := Go.Ground.textOnly Go.Departure.lateStoresUnsure }, { on := 6, ground := Go.Ground.textOnly Go.Departure.lateStores }, { on := 7, ground := Go.Ground.textOnly Go.Departure.lateStores }, { on := 8, ground := Go.Ground.textOnly Go.Departure.lateStoresUnsure }, { on := 9, ground := Go.Ground.textOnly Go.Departure.lateStores }, { on := 10, ground := Go.Ground.textOnly Go.Departure.lateStores }, { on := 11, ground := Go.Ground.textOnly Go.Departure.lateStores }, { on := 12, ground := Go.Ground.textOnly Go.Departure.lateStoresUnsure }, { on := 13, ground := Go.Ground.textOnly Go.Departure.lateStores }, { on := 14, ground := Go.Ground.phase }], guard := none }) rfl (fun K hK => ?_) AllReadyH.nil)
          obtain ⟨⟨v0, c0⟩, f0⟩ := B115 0 (by omega)
          obtain ⟨⟨v1, c1⟩, f1⟩ := B115 1 (by omega)
          obtain ⟨⟨v2, c2⟩, f2⟩ := B115 2 (by omega)
          obtain ⟨⟨v3, c3⟩, f3⟩ := B115 3 (by omega)
          go_simp
          have r116 := r115.set4 RB (.int .i64 bx) (.int .i64 b_y) (.int .i64 bh) (.int .i64 be) nB hRB
          have A116 := Num4.set4 A115 RB (.int .i64 bx) (.int .i64 b_y) (.int .i64 bh) (.int .i64 be) hAB
          have B116 := num4_set B115 bx b_y bh be
          have bw116 := below_set4' bw115 RB (.int .i64 bx) (.int .i64 b_y) (.int .i64 bh) (.int .i64 be) hRB
          refine hK.out _ _ ?_ (fun hHeld => ?_)
          · exact ⟨CDc.set4 hHeld.1 RB _ _ _ _ nCB nDB, keep_set4 RB _ _ _ _ nl114B hHeld.2⟩
          clear hK K
          clear c0 c1 c2 c3 f0 f1 f2 f3
          clear r115 A115 B115 bw115
          (try simp only [Act.put, List.setIfInBounds_toArray, List.set_cons_zero, List.set_cons_succ])
          generalize ((((w115.setCell ⟨RB, 0, none⟩ (.int .i64 bx)).setCell ⟨RB, 1, none⟩ (.int .i64 b_y)).setCell ⟨RB, 2, none⟩ (.int .i64 bh)).setCell ⟨RB, 3, none⟩ (.int .i64 be)) = w116 at *
          refine wpAnyH_take (i := 16) (oi := { dst := some 4, op := Go.Op.assign (Go.Operand.tmp 34), type := 3, pos := "l61_draw.go:131", after := #[{ on := 10, ground := Go.Ground.data }, { on := 15, ground := Go.Ground.chain }, { on := 0, ground := Go.Ground.phase }, { on := 1, ground := Go.Ground.phase }, { on := 2, ground := Go.Ground.phase }, { on := 3, ground := Go.Ground.phase }, { on := 4, ground := Go.Ground.phase }, { on := 5, ground := Go.Ground.phase }, { on := 6, ground := Go.Ground.phase }, { on := 7, ground := Go.Ground.phase }, { on := 8, ground := Go.Ground.phase }, { on := 9, ground := Go.Ground.phase }, { on := 10, ground := Go.Ground.phase }, { on := 11, ground := Go.Ground.textOnly Go.Departure.lateStores }, { on := 12, ground := Go.Ground.textOnly Go.Departure.lateStoresUnsure }, { on := 13, ground := Go.Ground.textOnly Go.Departure.lateStores }, { on := 14, ground := Go.Ground.phase }, { on := 15, ground := Go.Ground.phase }], guard := none }) (v := ?_) rfl (by kernel_rfl) (by kernel_rfl) (by kernel_rfl) (fun _ _ _ h => h) (Or.inl ⟨by rfl, ?_⟩) hHeld ?_
          rotate_left 1
          · (intro w hSw; (try dsimp only at hSw); go_simp; try with_reducible rfl)
          (try simp only [Act.put, List.setIfInBounds_toArray, List.set_cons_zero, List.set_cons_succ])
          refine wpAnyH_take (i := 17) (oi := { dst := some 5, op := Go.Op.assign (Go.Operand.tmp 37), type := 3, pos := "l61_draw.go:131", after := #[{ on := 13, ground := Go.Ground.data }, { on := 16, ground := Go.Ground.chain }, { on := 0, ground := Go.Ground.phase }, { on := 1, ground := Go.Ground.phase }, { on := 2, ground := Go.Ground.phase }, { on := 3, ground := Go.Ground.phase }, { on := 4, ground := Go.Ground.phase }, { on := 5, ground := Go.Ground.phase }, { on := 6, ground := Go.Ground.phase }, { on := 7, ground := Go.Ground.phase }, { on := 8, ground := Go.Ground.phase }, { on := 9, ground := Go.Ground.phase }, { on := 10, ground := Go.Ground.phase }, { on := 11, ground := Go.Ground.phase }, { on := 12, ground := Go.Ground.phase }, { on := 13, ground := Go.Ground.phase }, { on := 14, ground := Go.Ground.phase }, { on := 15, ground := Go.Ground.phase }, { on := 16, ground := Go.Ground.phase }], guard := none }) (v := ?_) rfl (by kernel_rfl) (by kernel_rfl) (by kernel_rfl) (fun _ _ _ h => h) (Or.inl ⟨by rfl, ?_⟩) hHeld ?_
          rotate_left 1
          · (intro w hSw; (try dsimp only at hSw); go_simp; try with_reducible rfl)
          (try simp only [Act.put, List.setIfInBounds_toArray, List.set_cons_zero, List.set_cons_succ])
          refine wpAnyH_done (by kernel_rfl) ?_ _
          go_wp2
          obtain ⟨⟨x0, x1, x2, x3⟩, _⟩ := A116
          obtain ⟨⟨y0, y1, y2, y3⟩, _⟩ := B116
          exact bodyPost_ret (v := .tuple #[.agg #[.int .i64 ax, .int .i64 ay, .int .i64 ah, .int .i64 ae], .agg #[.int .i64 bx, .int .i64 b_y, .int .i64 bh, .int .i64 be], .int .i64 (sel m6 k1 k2), .int .i64 (k9 - 4)]) (by simp [results, Tryd.results9, go_sem, x0, x1, x2, x3, y0, y1, y2, y3]) rfl ⟨_, _, _, _, _, _, _, _, _, _, rfl, sel_bd m6 k1 k2 b1 b2, by omega, bw116⟩
        · skip
          obtain ⟨⟨v0, c0⟩, f0⟩ := A113 0 (by omega)
          obtain ⟨⟨v1, c1⟩, f1⟩ := A113 1 (by omega)
          obtain ⟨⟨v2, c2⟩, f2⟩ := A113 2 (by omega)
          obtain ⟨⟨v3, c3⟩, f3⟩ := A113 3 (by omega)
          go_simp
          have r117 := r113.set4 w.heap.size (.int .i64 ax) (.int .i64 ay) (.int .i64 ah) (.int .i64 ae) nA hRA
          have A117 := num4_set A113 ax ay ah ae
          have B117 := Slot4.set4 B113 w.heap.size (.int .i64 ax) (.int .i64 ay) (.int .i64 ah) (.int .i64 ae) (Ne.symm hAB)
          have bw117 := below_set4' bw113 w.heap.size (.int .i64 ax) (.int .i64 ay) (.int .i64 ah) (.int .i64 ae) hRA
          refine hK.out _ _ ?_ (fun hHeld => ?_)
          · exact CDc.set4 hHeld w.heap.size _ _ _ _ nCA nDA
          clear hK K
          clear c0 c1 c2 c3 f0 f1 f2 f3
          clear r113 A113 B113 bw113
          (try simp only [Act.put, List.setIfInBounds_toArray, List.set_cons_zero, List.set_cons_succ])
          generalize ((((w113.setCell ⟨w.heap.size, 0, none⟩ (.int .i64 ax)).setCell ⟨w.heap.size, 1, none⟩ (.int .i64 ay)).setCell ⟨w.heap.size, 2, none⟩ (.int .i64 ah)).setCell ⟨w.heap.size, 3, none⟩ (.int .i64 ae)) = w117 at *
          refine wpAnyH_ready (rs := [6, 15]) (by kernel_rfl) (by simp) ?_
          refine (AllReadyH.cons (o := { dst := some 30, op := Go.Op.buildSlice 41 6 #[(0, Go.Operand.tmp 27), (1, Go.Operand.tmp 29), (2, Go.Operand.const (Go.Value.int Go.IntKind.i64 0)), (3, Go.Operand.const (Go.Value.int Go.IntKind.i64 (-1))), (4, Go.Operand.const (Go.Value.int Go.IntKind.i64 60000)), (5, Go.Operand.const (Go.Value.int Go.IntKind.i64 60001))], type := 41, pos := "l61_draw.go:131", after := #[{ on := 3, ground := Go.Ground.data }, { on := 5, ground := Go.Ground.data }, { on := 15, ground := Go.Ground.gcOnly Go.Departure.lateStores }], guard := none }) rfl (fun K hK => ?_) (AllReadyH.cons (o := { dst := none, op := Go.Op.store 24 (Go.Operand.tmp 3) (Go.Operand.tmp 25), type := 0, pos := "l61_draw.go:131", after := #[{ on := 1, ground := Go.Ground.data }, { on := 14, ground := Go.Ground.chain }, { on := 0, ground := Go.Ground.phase }, { on := 1, ground := Go.Ground.phase }, { on := 2, ground := Go.Ground.textOnly Go.Departure.lateStores }, { on := 3, ground := Go.Ground.textOnly Go.Departure.lateStoresUnsure }, { on := 4, ground := Go.Ground.textOnly Go.Departure.lateStores }, { on := 5, ground := Go.Ground.textOnly Go.Departure.lateStoresUnsure }, { on := 6, ground := Go.Ground.textOnly Go.Departure.lateStores }, { on := 7, ground := Go.Ground.textOnly Go.Departure.lateStores }, { on := 8, ground := Go.Ground.textOnly Go.Departure.lateStoresUnsure }, { on := 9, ground := Go.Ground.textOnly Go.Departure.lateStores }, { on := 10, ground := Go.Ground.textOnly Go.Departure.lateStores }, { on := 11, ground := Go.Ground.textOnly Go.Departure.lateStores }, { on := 12, ground := Go.Ground.textOnly Go.Departure.lateStoresUnsure }, { on := 13, ground := Go.Ground.textOnly Go.Departure.lateStores }, { on := 14, ground := Go.Ground.phase }], guard := none }) rfl (fun K hK => ?_) AllReadyH.nil))
          · skip
            go_simp
            have r118 := r117.alloc (.cells #[.int .i64 k1, .int .i64 k2, .int .i64 0, .int .i64 (-1), .int .i64 60000, .int .i64 60001] 3)
            have A118 := A117.alloc (.cells #[.int .i64 k1, .int .i64 k2, .int .i64 0, .int .i64 (-1), .int .i64 60000, .int .i64 60001] 3)
            have B118 := B117.alloc (.cells #[.int .i64 k1, .int .i64 k2, .int .i64 0, .int .i64 (-1), .int .i64 60000, .int .i64 60001] 3)
            have bw118 := balloc (.cells #[.int .i64 k1, .int .i64 k2, .int .i64 0, .int .i64 (-1), .int .i64 60000, .int .i64 60001] 3) bw117
            have l118 := lit6 w117 k1 k2 m6 hm6
            have nl118r : w117.heap.size ≠ rb := by have := r117.lt; omega
            have nl118A : w117.heap.size ≠ w.heap.size := by have := A117.lt; omega
            have nl118B : w117.heap.size ≠ RB := by have := B117.lt; omega
            refine hK.out _ _ ?_ (fun hHeld => ?_)
            · exact CDc.alloc hHeld _
            clear hK K
            clear r117 A117 B117 bw117
            (try simp only [Act.put, List.setIfInBounds_toArray, List.set_cons_zero, List.set_cons_succ])
            generalize w117.heap.size = L118 at *
            refine wpAnyH_mono (S' := (fun w' => CDc w' C D ax ay ah ae bx b_y bh be ∧ w'.cell? ⟨L118, m6, none⟩ = some (.int .i64 (sel m6 k1 k2)))) (fun _ h => h.1) _ _ _ _ ?_
            replace hHeld := And.intro hHeld l118
            clear l118
            generalize (w117.alloc (.cells #[.int .i64 k1, .int .i64 k2, .int .i64 0, .int .i64 (-1), .int .i64 60000, .int .i64 60001] 3)) = w118 at *
            refine wpAnyH_take (i := 9) (oi := { dst := some 33, op := Go.Op.indexAddr 41 (Go.Operand.tmp 30) (Go.Operand.tmp 32), type := 0, pos := "l61_draw.go:131", after := #[{ on := 6, ground := Go.Ground.data }, { on := 8, ground := Go.Ground.data }, { on := 15, ground := Go.Ground.gcOnly Go.Departure.lateStores }], guard := none }) (v := ?_) rfl (by kernel_rfl) (by kernel_rfl) (by kernel_rfl) (fun _ _ _ h => h) (Or.inl ⟨by rfl, ?_⟩) hHeld ?_
            rotate_left 1
            · (intro w hSw; (try dsimp only at hSw); go_simp; try with_reducible rfl)
            (try simp only [Act.put, List.setIfInBounds_toArray, List.set_cons_zero, List.set_cons_succ])
            refine wpAnyH_take (i := 10) (oi := { dst := some 34, op := Go.Op.load 3 (Go.Operand.tmp 33), type := 3, pos := "l61_draw.go:131", after := #[{ on := 9, ground := Go.Ground.data }, { on := 15, ground := Go.Ground.gcOnly Go.Departure.lateStores }], guard := none }) (v := ?_) rfl (by kernel_rfl) (by kernel_rfl) (by kernel_rfl) (fun _ _ _ h => h) (Or.inl ⟨by rfl, ?_⟩) hHeld ?_
            rotate_left 1
            · (intro w hSw; (try dsimp only at hSw); obtain ⟨_, u8⟩ := hSw; go_simp; try with_reducible rfl)
            (try simp only [Act.put, List.setIfInBounds_toArray, List.set_cons_zero, List.set_cons_succ])
            refine wpAnyH_ready (rs := [15]) (by kernel_rfl) (by simp) ?_
            refine (AllReadyH.cons (o := { dst := none, op := Go.Op.store 24 (Go.Operand.tmp 3) (Go.Operand.tmp 25), type := 0, pos := "l61_draw.go:131", after := #[{ on := 1, ground := Go.Ground.data }, { on := 14, ground := Go.Ground.chain }, { on := 0, ground := Go.Ground.phase }, { on := 1, ground := Go.Ground.phase }, { on := 2, ground := Go.Ground.textOnly Go.Departure.lateStores }, { on := 3, ground := Go.Ground.textOnly Go.Departure.lateStoresUnsure }, { on := 4, ground := Go.Ground.textOnly Go.Departure.lateStores }, { on := 5, ground := Go.Ground.textOnly Go.Departure.lateStoresUnsure }, { on := 6, ground := Go.Ground.textOnly Go.Departure.lateStores }, { on := 7, ground := Go.Ground.textOnly Go.Departure.lateStores }, { on := 8, ground := Go.Ground.textOnly Go.Departure.lateStoresUnsure }, { on := 9, ground := Go.Ground.textOnly Go.Departure.lateStores }, { on := 10, ground := Go.Ground.textOnly Go.Departure.lateStores }, { on := 11, ground := Go.Ground.textOnly Go.Departure.lateStores }, { on := 12, ground := Go.Ground.textOnly Go.Departure.lateStoresUnsure }, { on := 13, ground := Go.Ground.textOnly Go.Departure.lateStores }, { on := 14, ground := Go.Ground.phase }], guard := none }) rfl (fun K hK => ?_) AllReadyH.nil)
            obtain ⟨⟨v0, c0⟩, f0⟩ := B118 0 (by omega)
            obtain ⟨⟨v1, c1⟩, f1⟩ := B118 1 (by omega)
            obtain ⟨⟨v2, c2⟩, f2⟩ := B118 2 (by omega)
            obtain ⟨⟨v3, c3⟩, f3⟩ := B118 3 (by omega)
            go_simp
            have r119 := r118.set4 RB (.int .i64 bx) (.int .i64 b_y) (.int .i64 bh) (.int .i64 be) nB hRB
            have A119 := Num4.set4 A118 RB (.int .i64 bx) (.int .i64 b_y) (.int .i64 bh) (.int .i64 be) hAB
            have B119 := num4_set B118 bx b_y bh be
            have bw119 := below_set4' bw118 RB (.int .i64 bx) (.int .i64 b_y) (.int .i64 bh) (.int .i64 be) hRB
            refine hK.out _ _ ?_ (fun hHeld => ?_)
            · exact ⟨CDc.set4 hHeld.1 RB _ _ _ _ nCB nDB, keep_set4 RB _ _ _ _ nl118B hHeld.2⟩
            clear hK K
            clear c0 c1 c2 c3 f0 f1 f2 f3
            clear r118 A118 B118 bw118
            (try simp only [Act.put, List.setIfInBounds_toArray, List.set_cons_zero, List.set_cons_succ])
            generalize ((((w118.setCell ⟨RB, 0, none⟩ (.int .i64 bx)).setCell ⟨RB, 1, none⟩ (.int .i64 b_y)).setCell ⟨RB, 2, none⟩ (.int .i64 bh)).setCell ⟨RB, 3, none⟩ (.int .i64 be)) = w119 at *
            refine wpAnyH_take (i := 16) (oi := { dst := some 4, op := Go.Op.assign (Go.Operand.tmp 34), type := 3, pos := "l61_draw.go:131", after := #[{ on := 10, ground := Go.Ground.data }, { on := 15, ground := Go.Ground.chain }, { on := 0, ground := Go.Ground.phase }, { on := 1, ground := Go.Ground.phase }, { on := 2, ground := Go.Ground.phase }, { on := 3, ground := Go.Ground.phase }, { on := 4, ground := Go.Ground.phase }, { on := 5, ground := Go.Ground.phase }, { on := 6, ground := Go.Ground.phase }, { on := 7, ground := Go.Ground.phase }, { on := 8, ground := Go.Ground.phase }, { on := 9, ground := Go.Ground.phase }, { on := 10, ground := Go.Ground.phase }, { on := 11, ground := Go.Ground.textOnly Go.Departure.lateStores }, { on := 12, ground := Go.Ground.textOnly Go.Departure.lateStoresUnsure }, { on := 13, ground := Go.Ground.textOnly Go.Departure.lateStores }, { on := 14, ground := Go.Ground.phase }, { on := 15, ground := Go.Ground.phase }], guard := none }) (v := ?_) rfl (by kernel_rfl) (by kernel_rfl) (by kernel_rfl) (fun _ _ _ h => h) (Or.inl ⟨by rfl, ?_⟩) hHeld ?_
            rotate_left 1
            · (intro w hSw; (try dsimp only at hSw); go_simp; try with_reducible rfl)
            (try simp only [Act.put, List.setIfInBounds_toArray, List.set_cons_zero, List.set_cons_succ])
            refine wpAnyH_take (i := 17) (oi := { dst := some 5, op := Go.Op.assign (Go.Operand.tmp 37), type := 3, pos := "l61_draw.go:131", after := #[{ on := 13, ground := Go.Ground.data }, { on := 16, ground := Go.Ground.chain }, { on := 0, ground := Go.Ground.phase }, { on := 1, ground := Go.Ground.phase }, { on := 2, ground := Go.Ground.phase }, { on := 3, ground := Go.Ground.phase }, { on := 4, ground := Go.Ground.phase }, { on := 5, ground := Go.Ground.phase }, { on := 6, ground := Go.Ground.phase }, { on := 7, ground := Go.Ground.phase }, { on := 8, ground := Go.Ground.phase }, { on := 9, ground := Go.Ground.phase }, { on := 10, ground := Go.Ground.phase }, { on := 11, ground := Go.Ground.phase }, { on := 12, ground := Go.Ground.phase }, { on := 13, ground := Go.Ground.phase }, { on := 14, ground := Go.Ground.phase }, { on := 15, ground := Go.Ground.phase }, { on := 16, ground := Go.Ground.phase }], guard := none }) (v := ?_) rfl (by kernel_rfl) (by kernel_rfl) (by kernel_rfl) (fun _ _ _ h => h) (Or.inl ⟨by rfl, ?_⟩) hHeld ?_
            rotate_left 1
            · (intro w hSw; (try dsimp only at hSw); go_simp; try with_reducible rfl)
            (try simp only [Act.put, List.setIfInBounds_toArray, List.set_cons_zero, List.set_cons_succ])
            refine wpAnyH_done (by kernel_rfl) ?_ _
            go_wp2
            obtain ⟨⟨x0, x1, x2, x3⟩, _⟩ := A119
            obtain ⟨⟨y0, y1, y2, y3⟩, _⟩ := B119
            exact bodyPost_ret (v := .tuple #[.agg #[.int .i64 ax, .int .i64 ay, .int .i64 ah, .int .i64 ae], .agg #[.int .i64 bx, .int .i64 b_y, .int .i64 bh, .int .i64 be], .int .i64 (sel m6 k1 k2), .int .i64 (k9 - 4)]) (by simp [results, Tryd.results9, go_sem, x0, x1, x2, x3, y0, y1, y2, y3]) rfl ⟨_, _, _, _, _, _, _, _, _, _, rfl, sel_bd m6 k1 k2 b1 b2, by omega, bw119⟩
          · skip
            obtain ⟨⟨v0, c0⟩, f0⟩ := B117 0 (by omega)
            obtain ⟨⟨v1, c1⟩, f1⟩ := B117 1 (by omega)
            obtain ⟨⟨v2, c2⟩, f2⟩ := B117 2 (by omega)
            obtain ⟨⟨v3, c3⟩, f3⟩ := B117 3 (by omega)
            go_simp
            have r120 := r117.set4 RB (.int .i64 bx) (.int .i64 b_y) (.int .i64 bh) (.int .i64 be) nB hRB
            have A120 := Num4.set4 A117 RB (.int .i64 bx) (.int .i64 b_y) (.int .i64 bh) (.int .i64 be) hAB
            have B120 := num4_set B117 bx b_y bh be
            have bw120 := below_set4' bw117 RB (.int .i64 bx) (.int .i64 b_y) (.int .i64 bh) (.int .i64 be) hRB
            refine hK.out _ _ ?_ (fun hHeld => ?_)
            · exact CDc.set4 hHeld RB _ _ _ _ nCB nDB
            clear hK K
            clear c0 c1 c2 c3 f0 f1 f2 f3
            clear r117 A117 B117 bw117
            (try simp only [Act.put, List.setIfInBounds_toArray, List.set_cons_zero, List.set_cons_succ])
            generalize ((((w117.setCell ⟨RB, 0, none⟩ (.int .i64 bx)).setCell ⟨RB, 1, none⟩ (.int .i64 b_y)).setCell ⟨RB, 2, none⟩ (.int .i64 bh)).setCell ⟨RB, 3, none⟩ (.int .i64 be)) = w120 at *
            refine wpAnyH_ready (rs := [6]) (by kernel_rfl) (by simp) ?_
            refine (AllReadyH.cons (o := { dst := some 30, op := Go.Op.buildSlice 41 6 #[(0, Go.Operand.tmp 27), (1, Go.Operand.tmp 29), (2, Go.Operand.const (Go.Value.int Go.IntKind.i64 0)), (3, Go.Operand.const (Go.Value.int Go.IntKind.i64 (-1))), (4, Go.Operand.const (Go.Value.int Go.IntKind.i64 60000)), (5, Go.Operand.const (Go.Value.int Go.IntKind.i64 60001))], type := 41, pos := "l61_draw.go:131", after := #[{ on := 3, ground := Go.Ground.data }, { on := 5, ground := Go.Ground.data }, { on := 15, ground := Go.Ground.gcOnly Go.Departure.lateStores }], guard := none }) rfl (fun K hK => ?_) AllReadyH.nil)
            go_simp
            have r121 := r120.alloc (.cells #[.int .i64 k1, .int .i64 k2, .int .i64 0, .int .i64 (-1), .int .i64 60000, .int .i64 60001] 3)
            have A121 := A120.alloc (.cells #[.int .i64 k1, .int .i64 k2, .int .i64 0, .int .i64 (-1), .int .i64 60000, .int .i64 60001] 3)
            have B121 := B120.alloc (.cells #[.int .i64 k1, .int .i64 k2, .int .i64 0, .int .i64 (-1), .int .i64 60000, .int .i64 60001] 3)
            have bw121 := balloc (.cells #[.int .i64 k1, .int .i64 k2, .int .i64 0, .int .i64 (-1), .int .i64 60000, .int .i64 60001] 3) bw120
            have l121 := lit6 w120 k1 k2 m6 hm6
            have nl121r : w120.heap.size ≠ rb := by have := r120.lt; omega
            have nl121A : w120.heap.size ≠ w.heap.size := by have := A120.lt; omega
            have nl121B : w120.heap.size ≠ RB := by have := B120.lt; omega
            refine hK.out _ _ ?_ (fun hHeld => ?_)
            · exact CDc.alloc hHeld _
            clear hK K
            clear r120 A120 B120 bw120
            (try simp only [Act.put, List.setIfInBounds_toArray, List.set_cons_zero, List.set_cons_succ])
            generalize w120.heap.size = L121 at *
            refine wpAnyH_mono (S' := (fun w' => CDc w' C D ax ay ah ae bx b_y bh be ∧ w'.cell? ⟨L121, m6, none⟩ = some (.int .i64 (sel m6 k1 k2)))) (fun _ h => h.1) _ _ _ _ ?_
            replace hHeld := And.intro hHeld l121
            clear l121
            generalize (w120.alloc (.cells #[.int .i64 k1, .int .i64 k2, .int .i64 0, .int .i64 (-1), .int .i64 60000, .int .i64 60001] 3)) = w121 at *
            refine wpAnyH_take (i := 9) (oi := { dst := some 33, op := Go.Op.indexAddr 41 (Go.Operand.tmp 30) (Go.Operand.tmp 32), type := 0, pos := "l61_draw.go:131", after := #[{ on := 6, ground := Go.Ground.data }, { on := 8, ground := Go.Ground.data }, { on := 15, ground := Go.Ground.gcOnly Go.Departure.lateStores }], guard := none }) (v := ?_) rfl (by kernel_rfl) (by kernel_rfl) (by kernel_rfl) (fun _ _ _ h => h) (Or.inl ⟨by rfl, ?_⟩) hHeld ?_
            rotate_left 1
            · (intro w hSw; (try dsimp only at hSw); go_simp; try with_reducible rfl)
            (try simp only [Act.put, List.setIfInBounds_toArray, List.set_cons_zero, List.set_cons_succ])
            refine wpAnyH_take (i := 10) (oi := { dst := some 34, op := Go.Op.load 3 (Go.Operand.tmp 33), type := 3, pos := "l61_draw.go:131", after := #[{ on := 9, ground := Go.Ground.data }, { on := 15, ground := Go.Ground.gcOnly Go.Departure.lateStores }], guard := none }) (v := ?_) rfl (by kernel_rfl) (by kernel_rfl) (by kernel_rfl) (fun _ _ _ h => h) (Or.inl ⟨by rfl, ?_⟩) hHeld ?_
            rotate_left 1
            · (intro w hSw; (try dsimp only at hSw); obtain ⟨_, u8⟩ := hSw; go_simp; try with_reducible rfl)
            (try simp only [Act.put, List.setIfInBounds_toArray, List.set_cons_zero, List.set_cons_succ])
            refine wpAnyH_take (i := 16) (oi := { dst := some 4, op := Go.Op.assign (Go.Operand.tmp 34), type := 3, pos := "l61_draw.go:131", after := #[{ on := 10, ground := Go.Ground.data }, { on := 15, ground := Go.Ground.chain }, { on := 0, ground := Go.Ground.phase }, { on := 1, ground := Go.Ground.phase }, { on := 2, ground := Go.Ground.phase }, { on := 3, ground := Go.Ground.phase }, { on := 4, ground := Go.Ground.phase }, { on := 5, ground := Go.Ground.phase }, { on := 6, ground := Go.Ground.phase }, { on := 7, ground := Go.Ground.phase }, { on := 8, ground := Go.Ground.phase }, { on := 9, ground := Go.Ground.phase }, { on := 10, ground := Go.Ground.phase }, { on := 11, ground := Go.Ground.textOnly Go.Departure.lateStores }, { on := 12, ground := Go.Ground.textOnly Go.Departure.lateStoresUnsure }, { on := 13, ground := Go.Ground.textOnly Go.Departure.lateStores }, { on := 14, ground := Go.Ground.phase }, { on := 15, ground := Go.Ground.phase }], guard := none }) (v := ?_) rfl (by kernel_rfl) (by kernel_rfl) (by kernel_rfl) (fun _ _ _ h => h) (Or.inl ⟨by rfl, ?_⟩) hHeld ?_
            rotate_left 1
            · (intro w hSw; (try dsimp only at hSw); go_simp; try with_reducible rfl)
            (try simp only [Act.put, List.setIfInBounds_toArray, List.set_cons_zero, List.set_cons_succ])
            refine wpAnyH_take (i := 17) (oi := { dst := some 5, op := Go.Op.assign (Go.Operand.tmp 37), type := 3, pos := "l61_draw.go:131", after := #[{ on := 13, ground := Go.Ground.data }, { on := 16, ground := Go.Ground.chain }, { on := 0, ground := Go.Ground.phase }, { on := 1, ground := Go.Ground.phase }, { on := 2, ground := Go.Ground.phase }, { on := 3, ground := Go.Ground.phase }, { on := 4, ground := Go.Ground.phase }, { on := 5, ground := Go.Ground.phase }, { on := 6, ground := Go.Ground.phase }, { on := 7, ground := Go.Ground.phase }, { on := 8, ground := Go.Ground.phase }, { on := 9, ground := Go.Ground.phase }, { on := 10, ground := Go.Ground.phase }, { on := 11, ground := Go.Ground.phase }, { on := 12, ground := Go.Ground.phase }, { on := 13, ground := Go.Ground.phase }, { on := 14, ground := Go.Ground.phase }, { on := 15, ground := Go.Ground.phase }, { on := 16, ground := Go.Ground.phase }], guard := none }) (v := ?_) rfl (by kernel_rfl) (by kernel_rfl) (by kernel_rfl) (fun _ _ _ h => h) (Or.inl ⟨by rfl, ?_⟩) hHeld ?_
            rotate_left 1
            · (intro w hSw; (try dsimp only at hSw); go_simp; try with_reducible rfl)
            (try simp only [Act.put, List.setIfInBounds_toArray, List.set_cons_zero, List.set_cons_succ])
            refine wpAnyH_done (by kernel_rfl) ?_ _
            go_wp2
            obtain ⟨⟨x0, x1, x2, x3⟩, _⟩ := A121
            obtain ⟨⟨y0, y1, y2, y3⟩, _⟩ := B121
            exact bodyPost_ret (v := .tuple #[.agg #[.int .i64 ax, .int .i64 ay, .int .i64 ah, .int .i64 ae], .agg #[.int .i64 bx, .int .i64 b_y, .int .i64 bh, .int .i64 be], .int .i64 (sel m6 k1 k2), .int .i64 (k9 - 4)]) (by simp [results, Tryd.results9, go_sem, x0, x1, x2, x3, y0, y1, y2, y3]) rfl ⟨_, _, _, _, _, _, _, _, _, _, rfl, sel_bd m6 k1 k2 b1 b2, by omega, bw121⟩
end Go.Proofs.YtajcjanfllpcgaaDoor
