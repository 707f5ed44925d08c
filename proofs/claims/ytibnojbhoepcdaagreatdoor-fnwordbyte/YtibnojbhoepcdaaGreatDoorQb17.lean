/- Texts of the proof, laid together: Dw2. -/
import Derived.Test.YtibnojbhoepcdaaGreatDoorQb16
/- A word drawn. -/
namespace Go.Proofs.YtibnojbhoepcdaaGreatDoor
open Go.ChangeShapes Go.WideShapes Go.ChangeAt Go.RowKit
attribute [local go_sem ↓] Go.wp_at_zero Go.wp_at_succ
/-- a word drawn -/
def WdPost (G : Cd) (B rb : Nat) (m l : Nat) (w : World) (r : Ending) (w' : World) : Prop :=
  ∃ (p k f t s q x y z e : Int) (ad : Option Addr) (cap : Nat) (T : List Fc) (pp : Nat), r = .returned (.agg #[.int .i64 p, .int .i64 k, .int .i64 f, .int .i64 t, .int .i64 s, .int .i64 q, .int .i64 x, .int .i64 y, .int .i64 z, .int .i64 e, .slice ad T.length cap]) ∧ w'.ownsRow w.heap.size 53 4 (.slice ad T.length cap) T.length (fl T) ∧ T.length ≤ l ∧ Value.slice ad T.length cap ≠ .slice none 0 0 ∧ pp < m ∧ Rd G B rb pp w' ∧ Off rb w w'
set_option maxRecDepth 20000 in
set_option maxHeartbeats 8000000 in
theorem word_any {G : Cd} (B rb p : Nat) (w : World) (h : Rd G B rb p w) (hp : p < 490000) :
    Calls Tryz.prog 42 #[.pointer (some ⟨rb, 0, none⟩)] w (WdPost G B rb 520000 6 w) := by
  have hlt := h.lt
  have hle := h.le
  go_enter Tryz.func42, Tryz.ntmps42
  go_wp2_with fail
  have X0 : Ws (w.alloc (.cells #[.int .i64 0, .int .i64 0, .int .i64 0, .int .i64 0, .int .i64 0, .int .i64 0, .int .i64 0, .int .i64 0, .int .i64 0, .int .i64 0, .slice none 0 0] 35)) w.heap.size zW := Ws.new (heap_alloc_new w (.cells #[.int .i64 0, .int .i64 0, .int .i64 0, .int .i64 0, .int .i64 0, .int .i64 0, .int .i64 0, .int .i64 0, .int .i64 0, .int .i64 0, .slice none 0 0] 35))
  have D0 : Dw G B rb p w (w.alloc (.cells #[.int .i64 0, .int .i64 0, .int .i64 0, .int .i64 0, .int .i64 0, .int .i64 0, .int .i64 0, .int .i64 0, .int .i64 0, .int .i64 0, .slice none 0 0] 35)) w.heap.size := ⟨h.alloc _, (Off.refl rb w).alloc _, X0, by omega, Nat.le_refl _, by omega, hlt⟩
  generalize w.alloc (.cells #[.int .i64 0, .int .i64 0, .int .i64 0, .int .i64 0, .int .i64 0, .int .i64 0, .int .i64 0, .int .i64 0, .int .i64 0, .int .i64 0, .slice none 0 0] 35) = u0 at *
  refine (pick_any B rb p 8 _ D0.r (by omega)).mono ?_
  rintro r w1 ⟨rfl, hk, r1, o1⟩
  have D1 := D0.step r1 o1.off
  generalize G.pk p 8 = fr at *
  have hf0 : 0 ≤ fr := hk.1
  have hf8 : fr < 8 := by omega
  clear hk r1 o1 D0 X0
  go_upto_region 3 with fail
  have hst : 0 ≤ fr / 4 ∧ fr / 4 ≤ 1 := ⟨by omega, by omega⟩
  generalize fr / 4 = st at *
  have D2 := D1.step D1.r.drew (Off.refl rb w1).drew
  clear D1
  refine wp_region_held_drew (S := fun _ => True) (by kernel_rfl) trivial (fun hHeld => ?_)
  refine wpAnyH_take (i := 0) (oi := { dst := some 10, op := .move (.tmp 0), type := 44, pos := "l61_draw.go:286", after := #[], guard := none }) (v := ?_) rfl (by kernel_rfl) (by kernel_rfl) (by kernel_rfl) (fun _ _ _ h => h) (Or.inl ⟨by rfl, ?_⟩) (by assumption) ?_
  rotate_left 1
  · (intro w hSw; (try dsimp only at hSw); go_simp; try with_reducible rfl)
  (try simp only [Act.put, List.setIfInBounds_toArray, List.set_cons_zero, List.set_cons_succ])
  refine wpAnyH_take (i := 3) (oi := { dst := some 13, op := .move (.tmp 3), type := 3, pos := "l61_draw.go:286", after := #[], guard := none }) (v := ?_) rfl (by kernel_rfl) (by kernel_rfl) (by kernel_rfl) (fun _ _ _ h => h) (Or.inl ⟨by rfl, ?_⟩) (by assumption) ?_
  rotate_left 1
  · (intro w hSw; (try dsimp only at hSw); go_simp; try with_reducible rfl)
  (try simp only [Act.put, List.setIfInBounds_toArray, List.set_cons_zero, List.set_cons_succ])
  refine wpAnyH_take (i := 4) (oi := { dst := some 14, op := .move (.tmp 4), type := 3, pos := "l61_draw.go:286", after := #[], guard := none }) (v := ?_) rfl (by kernel_rfl) (by kernel_rfl) (by kernel_rfl) (fun _ _ _ h => h) (Or.inl ⟨by rfl, ?_⟩) (by assumption) ?_
  rotate_left 1
  · (intro w hSw; (try dsimp only at hSw); go_simp; try with_reducible rfl)
  (try simp only [Act.put, List.setIfInBounds_toArray, List.set_cons_zero, List.set_cons_succ])
  refine wpAnyH_take (i := 5) (oi := { dst := some 15, op := .binOp .mul 3 (.tmp 14) (.const (.int .i64 4)) 3, type := 3, pos := "l61_draw.go:286", after := #[{ on := 4, ground := .data }], guard := none }) (v := ?_) rfl (by kernel_rfl) (by kernel_rfl) (by kernel_rfl) (fun _ _ _ h => h) (Or.inl ⟨by rfl, ?_⟩) (by assumption) ?_
  rotate_left 1
  · (intro w hSw; (try dsimp only at hSw); go_simp; try with_reducible rfl)
  (try simp only [Act.put, List.setIfInBounds_toArray, List.set_cons_zero, List.set_cons_succ])
  refine wpAnyH_take (i := 6) (oi := { dst := some 16, op := .move (.tmp 0), type := 44, pos := "l61_draw.go:286", after := #[], guard := none }) (v := ?_) rfl (by kernel_rfl) (by kernel_rfl) (by kernel_rfl) (fun _ _ _ h => h) (Or.inl ⟨by rfl, ?_⟩) (by assumption) ?_
  rotate_left 1
  · (intro w hSw; (try dsimp only at hSw); go_simp; try with_reducible rfl)
  (try simp only [Act.put, List.setIfInBounds_toArray, List.set_cons_zero, List.set_cons_succ])
  refine wpAnyH_take (i := 9) (oi := { dst := some 19, op := .move (.tmp 0), type := 44, pos := "l61_draw.go:286", after := #[], guard := none }) (v := ?_) rfl (by kernel_rfl) (by kernel_rfl) (by kernel_rfl) (fun _ _ _ h => h) (Or.inl ⟨by rfl, ?_⟩) (by assumption) ?_
  rotate_left 1
  · (intro w hSw; (try dsimp only at hSw); go_simp; try with_reducible rfl)
  (try simp only [Act.put, List.setIfInBounds_toArray, List.set_cons_zero, List.set_cons_succ])
  refine wpAnyH_take (i := 12) (oi := { dst := some 22, op := .move (.tmp 0), type := 44, pos := "l61_draw.go:286", after := #[], guard := none }) (v := ?_) rfl (by kernel_rfl) (by kernel_rfl) (by kernel_rfl) (fun _ _ _ h => h) (Or.inl ⟨by rfl, ?_⟩) (by assumption) ?_
  rotate_left 1
  · (intro w hSw; (try dsimp only at hSw); go_simp; try with_reducible rfl)
  (try simp only [Act.put, List.setIfInBounds_toArray, List.set_cons_zero, List.set_cons_succ])
  refine wpAnyH_take (i := 16) (oi := { dst := some 26, op := .move (.tmp 4), type := 3, pos := "l61_draw.go:286", after := #[], guard := none }) (v := ?_) rfl (by kernel_rfl) (by kernel_rfl) (by kernel_rfl) (fun _ _ _ h => h) (Or.inl ⟨by rfl, ?_⟩) (by assumption) ?_
  rotate_left 1
  · (intro w hSw; (try dsimp only at hSw); go_simp; try with_reducible rfl)
  (try simp only [Act.put, List.setIfInBounds_toArray, List.set_cons_zero, List.set_cons_succ])
  refine wpAnyH_take (i := 17) (oi := { dst := some 27, op := .binOp .mul 3 (.tmp 26) (.const (.int .i64 4)) 3, type := 3, pos := "l61_draw.go:286", after := #[{ on := 16, ground := .data }], guard := none }) (v := ?_) rfl (by kernel_rfl) (by kernel_rfl) (by kernel_rfl) (fun _ _ _ h => h) (Or.inl ⟨by rfl, ?_⟩) (by assumption) ?_
  rotate_left 1
  · (intro w hSw; (try dsimp only at hSw); go_simp; try with_reducible rfl)
  (try simp only [Act.put, List.setIfInBounds_toArray, List.set_cons_zero, List.set_cons_succ])
  refine wpAnyH_take (i := 18) (oi := { dst := some 28, op := .move (.tmp 0), type := 44, pos := "l61_draw.go:286", after := #[], guard := none }) (v := ?_) rfl (by kernel_rfl) (by kernel_rfl) (by kernel_rfl) (fun _ _ _ h => h) (Or.inl ⟨by rfl, ?_⟩) (by assumption) ?_
  rotate_left 1
  · (intro w hSw; (try dsimp only at hSw); go_simp; try with_reducible rfl)
  (try simp only [Act.put, List.setIfInBounds_toArray, List.set_cons_zero, List.set_cons_succ])
  refine wpAnyH_take (i := 21) (oi := { dst := some 31, op := .move (.tmp 0), type := 44, pos := "l61_draw.go:286", after := #[], guard := none }) (v := ?_) rfl (by kernel_rfl) (by kernel_rfl) (by kernel_rfl) (fun _ _ _ h => h) (Or.inl ⟨by rfl, ?_⟩) (by assumption) ?_
  rotate_left 1
  · (intro w hSw; (try dsimp only at hSw); go_simp; try with_reducible rfl)
  (try simp only [Act.put, List.setIfInBounds_toArray, List.set_cons_zero, List.set_cons_succ])
  refine wpAnyH_take (i := 23) (oi := { dst := some 33, op := .move (.tmp 0), type := 44, pos := "l61_draw.go:286", after := #[], guard := none }) (v := ?_) rfl (by kernel_rfl) (by kernel_rfl) (by kernel_rfl) (fun _ _ _ h => h) (Or.inl ⟨by rfl, ?_⟩) (by assumption) ?_
  rotate_left 1
  · (intro w hSw; (try dsimp only at hSw); go_simp; try with_reducible rfl)
  (try simp only [Act.put, List.setIfInBounds_toArray, List.set_cons_zero, List.set_cons_succ])
  refine wpAnyH_take (i := 24) (oi := { dst := some 34, op := .move (.tmp 4), type := 3, pos := "l61_draw.go:286", after := #[], guard := none }) (v := ?_) rfl (by kernel_rfl) (by kernel_rfl) (by kernel_rfl) (fun _ _ _ h => h) (Or.inl ⟨by rfl, ?_⟩) (by assumption) ?_
  rotate_left 1
  · (intro w hSw; (try dsimp only at hSw); go_simp; try with_reducible rfl)
  (try simp only [Act.put, List.setIfInBounds_toArray, List.set_cons_zero, List.set_cons_succ])
  refine dw_0000 (fr := fr) (st := st) ?_ ?_ D2 (by omega) hst rfl
  rotate_left 1
  · (intro c d v a w h; cases d <;> exact h)
  intro p3 b5 sl o4 cap k1 k2 k3 k4 k5 n2 n5 n8 n17 n20 sv x y z e ad T w3 D3 hp3 X3 h5r h25 h5u R3 hn5
  clear D2 hf0 hf8
  have q1 := X3.c 1 (.int .i64 n2) rfl
  by_cases h6 : n2 = 6
  · subst h6
    go_upto_region 5 with fail
    clear q1
    go_wp2_with fail
    refine (pick_any B rb p3 2 _ D3.r (by omega)).mono ?_
    rintro r w4 ⟨rfl, hk, r4, o4'⟩
    have o4 := o4'.off
    have D4 := D3.step r4 o4
    have X4 := X3.off o4 h5r
    generalize G.pk p3 2 = sk at *
    go_wp2_with fail
    refine (table_any B rb (p3 + 1) sk _ D4.r (by omega) (Or.inr ⟨hk.1, by omega⟩)).mono ?_
    rintro r w5 ⟨ad5, cap5, T5, p5, rfl, hnil, hown, -, hT5, hp5, r5, o5⟩
    have D5 := D4.step r5 o5
    have X5 := X4.off o5 h5r
    have R5 : RwT w w5 w.heap.size ad5 cap5 T5 := ⟨own_mono D4.o.size hown, hT5, own_fresh hown (Or.inl D4.x2.lt), hnil⟩
    have hn55 := own_fresh hown (Or.inl X4.lt)
    clear R3 hn5 D3 D4 X3 X4 hown r4 r5 o4 o5 o4'
    have d := X5.c 10 _ rfl
    have zz := X5.z 10
    have D6 := D5.set b5 10 (.slice ad5 T5.length cap5) h5r h5u h25
    have X6 := X5.set 10 (by simp) (.slice ad5 T5.length cap5)
    have R6 : RwT w (w5.setCell ⟨b5, 10, none⟩ (.slice ad5 T5.length cap5)) w.heap.size ad5 cap5 T5 := ⟨own_setNe _ R5.o hn55, R5.l, R5.n, R5.v⟩
    go_upto_region 6 with fail
    clear d zz D5 X5 R5
    generalize w5.setCell ⟨b5, 10, none⟩ (.slice ad5 T5.length cap5) = u6 at *
    clear w5
    go_wp2_with fail
    refine (pick_any B rb p5 2 _ D6.r (by omega)).mono ?_
    rintro r w7 ⟨rfl, hk7, r7, o7'⟩
    have o7 := o7'.off
    have D7 := D6.step r7 o7
    have X7 := X6.off o7 h5r
    have R7 := R6.step o7 D6.hr
    generalize G.pk p5 2 = sk7 at *
    clear D6 X6 R6 r7 o7 o7'
    by_cases h0 : sk7 = 0
    · subst h0
      have d := X7.c 0 _ rfl
      have zz := X7.z 0
      have D8 := D7.set b5 0 (.int .i64 2) h5r h5u h25
      have X8 := X7.set 0 (by simp) (.int .i64 2)
      have R8 : RwT w (w7.setCell ⟨b5, 0, none⟩ (.int .i64 2)) w.heap.size ad5 cap5 T5 := ⟨own_setNe _ R7.o hn55, R7.l, R7.n, R7.v⟩
      go_upto_region 8 with fail
      clear d zz D7 X7 R7
      generalize w7.setCell ⟨b5, 0, none⟩ (.int .i64 2) = u8 at *
      clear w7
      go_wp2_with fail
      refine (pick_any B rb (p5 + 1) 4 _ D8.r (by omega)).mono ?_
      rintro r w9 ⟨rfl, hk9, r9, o9'⟩
      have o9 := o9'.off
      have D9 := D8.step r9 o9
      have X9 := X8.off o9 h5r
      have R9 := R8.step o9 D8.hr
      generalize G.pk (p5 + 1) 4 = sk9 at *
      clear D8 X8 R8 r9 o9 o9'
      have d := X9.c 3 _ rfl
      have zz := X9.z 3
      obtain ⟨nt, hnt⟩ : ∃ nt, (1 - st) * 4 + sk9 = nt := ⟨_, rfl⟩
      have DA := D9.set b5 3 (.int .i64 nt) h5r h5u h25
      have XA := X9.set 3 (by simp) (.int .i64 nt)
      have RA : RwT w (w9.setCell ⟨b5, 3, none⟩ (.int .i64 nt)) w.heap.size ad5 cap5 T5 := ⟨own_setNe _ R9.o hn55, R9.l, R9.n, R9.v⟩
      go_upto_region 9 with fail
      clear d zz D9 X9 R9 hnt
      generalize w9.setCell ⟨b5, 3, none⟩ (.int .i64 nt) = uA at *
      clear w9
      have m0 := XA.c 0 (.int .i64 2) rfl
      have m1 := XA.c 1 (.int .i64 6) rfl
      have m2 := XA.c 2 (.int .i64 fr) rfl
      have m3 := XA.c 3 (.int .i64 nt) rfl
      have m4 := XA.c 4 (.int .i64 sv) rfl
      have m5 := XA.c 5 (.int .i64 n20) rfl
      have m6 := XA.c 6 (.int .i64 x) rfl
      have m7 := XA.c 7 (.int .i64 y) rfl
      have m8 := XA.c 8 (.int .i64 z) rfl
      have m9 := XA.c 9 (.int .i64 e) rfl
      have m10 := XA.c 10 (.slice ad5 T5.length cap5) rfl
      have d0 := DA.x2.c 0 _ rfl
      have z0 := DA.x2.z 0
      have d1 := DA.x2.c 1 _ rfl
      have z1 := DA.x2.z 1
      have d2 := DA.x2.c 2 _ rfl
      have z2 := DA.x2.z 2
      have d3 := DA.x2.c 3 _ rfl
      have z3 := DA.x2.z 3
      have d4 := DA.x2.c 4 _ rfl
      have z4 := DA.x2.z 4
      have d5 := DA.x2.c 5 _ rfl
      have z5 := DA.x2.z 5
      have d6 := DA.x2.c 6 _ rfl
      have z6 := DA.x2.z 6
      have d7 := DA.x2.c 7 _ rfl
      have z7 := DA.x2.z 7
      have d8 := DA.x2.c 8 _ rfl
      have z8 := DA.x2.z 8
      have d9 := DA.x2.c 9 _ rfl
      have z9 := DA.x2.z 9
      have d10 := DA.x2.c 10 _ rfl
      have z10 := DA.x2.z 10
      have Y : Ws _ w.heap.size [.int .i64 2, .int .i64 6, .int .i64 fr, .int .i64 nt, .int .i64 sv, .int .i64 n20, .int .i64 x, .int .i64 y, .int .i64 z, .int .i64 e, .slice ad5 T5.length cap5] := (((((((((((DA.x2.set 0 (by simp [zW]) (.int .i64 2)).set 1 (by simp [zW]) (.int .i64 6)).set 2 (by simp [zW]) (.int .i64 fr)).set 3 (by simp [zW]) (.int .i64 nt)).set 4 (by simp [zW]) (.int .i64 sv)).set 5 (by simp [zW]) (.int .i64 n20)).set 6 (by simp [zW]) (.int .i64 x)).set 7 (by simp [zW]) (.int .i64 y)).set 8 (by simp [zW]) (.int .i64 z)).set 9 (by simp [zW]) (.int .i64 e)).set 10 (by simp [zW]) (.slice ad5 T5.length cap5))
      have rY := (((((((((((DA.r.set w.heap.size 0 (.int .i64 2) DA.h2 DA.hB).set w.heap.size 1 (.int .i64 6) DA.h2 DA.hB).set w.heap.size 2 (.int .i64 fr) DA.h2 DA.hB).set w.heap.size 3 (.int .i64 nt) DA.h2 DA.hB).set w.heap.size 4 (.int .i64 sv) DA.h2 DA.hB).set w.heap.size 5 (.int .i64 n20) DA.h2 DA.hB).set w.heap.size 6 (.int .i64 x) DA.h2 DA.hB).set w.heap.size 7 (.int .i64 y) DA.h2 DA.hB).set w.heap.size 8 (.int .i64 z) DA.h2 DA.hB).set w.heap.size 9 (.int .i64 e) DA.h2 DA.hB).set w.heap.size 10 (.slice ad5 T5.length cap5) DA.h2 DA.hB)
      have oY := (((((((((((DA.o.set w.heap.size 0 (.int .i64 2) (Nat.le_refl _)).set w.heap.size 1 (.int .i64 6) (Nat.le_refl _)).set w.heap.size 2 (.int .i64 fr) (Nat.le_refl _)).set w.heap.size 3 (.int .i64 nt) (Nat.le_refl _)).set w.heap.size 4 (.int .i64 sv) (Nat.le_refl _)).set w.heap.size 5 (.int .i64 n20) (Nat.le_refl _)).set w.heap.size 6 (.int .i64 x) (Nat.le_refl _)).set w.heap.size 7 (.int .i64 y) (Nat.le_refl _)).set w.heap.size 8 (.int .i64 z) (Nat.le_refl _)).set w.heap.size 9 (.int .i64 e) (Nat.le_refl _)).set w.heap.size 10 (.slice ad5 T5.length cap5) (Nat.le_refl _))
      have owY := (own_setNe (b := w.heap.size) (k := 10) (.slice ad5 T5.length cap5) (own_setNe (b := w.heap.size) (k := 9) (.int .i64 e) (own_setNe (b := w.heap.size) (k := 8) (.int .i64 z) (own_setNe (b := w.heap.size) (k := 7) (.int .i64 y) (own_setNe (b := w.heap.size) (k := 6) (.int .i64 x) (own_setNe (b := w.heap.size) (k := 5) (.int .i64 n20) (own_setNe (b := w.heap.size) (k := 4) (.int .i64 sv) (own_setNe (b := w.heap.size) (k := 3) (.int .i64 nt) (own_setNe (b := w.heap.size) (k := 2) (.int .i64 fr) (own_setNe (b := w.heap.size) (k := 1) (.int .i64 6) (own_setNe (b := w.heap.size) (k := 0) (.int .i64 2) RA.o RA.n) RA.n) RA.n) RA.n) RA.n) RA.n) RA.n) RA.n) RA.n) RA.n) RA.n)
      go_wp2
      clear d0 d1 d2 d3 d4 d5 d6 d7 d8 d9 d10
      generalize (((((((((((uA.setCell ⟨w.heap.size, 0, none⟩ (.int .i64 2)).setCell ⟨w.heap.size, 1, none⟩ (.int .i64 6)).setCell ⟨w.heap.size, 2, none⟩ (.int .i64 fr)).setCell ⟨w.heap.size, 3, none⟩ (.int .i64 nt)).setCell ⟨w.heap.size, 4, none⟩ (.int .i64 sv)).setCell ⟨w.heap.size, 5, none⟩ (.int .i64 n20)).setCell ⟨w.heap.size, 6, none⟩ (.int .i64 x)).setCell ⟨w.heap.size, 7, none⟩ (.int .i64 y)).setCell ⟨w.heap.size, 8, none⟩ (.int .i64 z)).setCell ⟨w.heap.size, 9, none⟩ (.int .i64 e)).setCell ⟨w.heap.size, 10, none⟩ (.slice ad5 T5.length cap5)) = w9 at *
      have d0 := Y.c 0 (.int .i64 2) rfl
      have d1 := Y.c 1 (.int .i64 6) rfl
      have d2 := Y.c 2 (.int .i64 fr) rfl
      have d3 := Y.c 3 (.int .i64 nt) rfl
      have d4 := Y.c 4 (.int .i64 sv) rfl
      have d5 := Y.c 5 (.int .i64 n20) rfl
      have d6 := Y.c 6 (.int .i64 x) rfl
      have d7 := Y.c 7 (.int .i64 y) rfl
      have d8 := Y.c 8 (.int .i64 z) rfl
      have d9 := Y.c 9 (.int .i64 e) rfl
      have d10 := Y.c 10 (.slice ad5 T5.length cap5) rfl
      exact bodyPost_ret (v := .agg #[.int .i64 2, .int .i64 6, .int .i64 fr, .int .i64 nt, .int .i64 sv, .int .i64 n20, .int .i64 x, .int .i64 y, .int .i64 z, .int .i64 e, .slice ad5 T5.length cap5]) (by simp [results, Tryz.results42, go_sem, d0, d1, d2, d3, d4, d5, d6, d7, d8, d9, d10]) rfl ⟨2, 6, fr, nt, sv, n20, x, y, z, e, ad5, cap5, T5, _, rfl, owY, RA.l, RA.v, (by omega), rY, oY⟩
    · have h0b : (sk7 == 0) = false := by rw [beq_eq_false_iff_ne]; exact h0
      go_upto_region 9 with fail
      have m0 := X7.c 0 (.int .i64 1) rfl
      have m1 := X7.c 1 (.int .i64 6) rfl
      have m2 := X7.c 2 (.int .i64 fr) rfl
      have m3 := X7.c 3 (.int .i64 n8) rfl
      have m4 := X7.c 4 (.int .i64 sv) rfl
      have m5 := X7.c 5 (.int .i64 n20) rfl
      have m6 := X7.c 6 (.int .i64 x) rfl
      have m7 := X7.c 7 (.int .i64 y) rfl
      have m8 := X7.c 8 (.int .i64 z) rfl
      have m9 := X7.c 9 (.int .i64 e) rfl
      have m10 := X7.c 10 (.slice ad5 T5.length cap5) rfl
      have d0 := D7.x2.c 0 _ rfl
      have z0 := D7.x2.z 0
      have d1 := D7.x2.c 1 _ rfl
      have z1 := D7.x2.z 1
      have d2 := D7.x2.c 2 _ rfl
      have z2 := D7.x2.z 2
      have d3 := D7.x2.c 3 _ rfl
      have z3 := D7.x2.z 3
      have d4 := D7.x2.c 4 _ rfl
      have z4 := D7.x2.z 4
      have d5 := D7.x2.c 5 _ rfl
      have z5 := D7.x2.z 5
      have d6 := D7.x2.c 6 _ rfl
      have z6 := D7.x2.z 6
      have d7 := D7.x2.c 7 _ rfl
      have z7 := D7.x2.z 7
      have d8 := D7.x2.c 8 _ rfl
      have z8 := D7.x2.z 8
      have d9 := D7.x2.c 9 _ rfl
      have z9 := D7.x2.z 9
      have d10 := D7.x2.c 10 _ rfl
      have z10 := D7.x2.z 10
      have Y : Ws _ w.heap.size [.int .i64 1, .int .i64 6, .int .i64 fr, .int .i64 n8, .int .i64 sv, .int .i64 n20, .int .i64 x, .int .i64 y, .int .i64 z, .int .i64 e, .slice ad5 T5.length cap5] := (((((((((((D7.x2.set 0 (by simp [zW]) (.int .i64 1)).set 1 (by simp [zW]) (.int .i64 6)).set 2 (by simp [zW]) (.int .i64 fr)).set 3 (by simp [zW]) (.int .i64 n8)).set 4 (by simp [zW]) (.int .i64 sv)).set 5 (by simp [zW]) (.int .i64 n20)).set 6 (by simp [zW]) (.int .i64 x)).set 7 (by simp [zW]) (.int .i64 y)).set 8 (by simp [zW]) (.int .i64 z)).set 9 (by simp [zW]) (.int .i64 e)).set 10 (by simp [zW]) (.slice ad5 T5.length cap5))
      have rY := (((((((((((D7.r.set w.heap.size 0 (.int .i64 1) D7.h2 D7.hB).set w.heap.size 1 (.int .i64 6) D7.h2 D7.hB).set w.heap.size 2 (.int .i64 fr) D7.h2 D7.hB).set w.heap.size 3 (.int .i64 n8) D7.h2 D7.hB).set w.heap.size 4 (.int .i64 sv) D7.h2 D7.hB).set w.heap.size 5 (.int .i64 n20) D7.h2 D7.hB).set w.heap.size 6 (.int .i64 x) D7.h2 D7.hB).set w.heap.size 7 (.int .i64 y) D7.h2 D7.hB).set w.heap.size 8 (.int .i64 z) D7.h2 D7.hB).set w.heap.size 9 (.int .i64 e) D7.h2 D7.hB).set w.heap.size 10 (.slice ad5 T5.length cap5) D7.h2 D7.hB)
      have oY := (((((((((((D7.o.set w.heap.size 0 (.int .i64 1) (Nat.le_refl _)).set w.heap.size 1 (.int .i64 6) (Nat.le_refl _)).set w.heap.size 2 (.int .i64 fr) (Nat.le_refl _)).set w.heap.size 3 (.int .i64 n8) (Nat.le_refl _)).set w.heap.size 4 (.int .i64 sv) (Nat.le_refl _)).set w.heap.size 5 (.int .i64 n20) (Nat.le_refl _)).set w.heap.size 6 (.int .i64 x) (Nat.le_refl _)).set w.heap.size 7 (.int .i64 y) (Nat.le_refl _)).set w.heap.size 8 (.int .i64 z) (Nat.le_refl _)).set w.heap.size 9 (.int .i64 e) (Nat.le_refl _)).set w.heap.size 10 (.slice ad5 T5.length cap5) (Nat.le_refl _))
      have owY := (own_setNe (b := w.heap.size) (k := 10) (.slice ad5 T5.length cap5) (own_setNe (b := w.heap.size) (k := 9) (.int .i64 e) (own_setNe (b := w.heap.size) (k := 8) (.int .i64 z) (own_setNe (b := w.heap.size) (k := 7) (.int .i64 y) (own_setNe (b := w.heap.size) (k := 6) (.int .i64 x) (own_setNe (b := w.heap.size) (k := 5) (.int .i64 n20) (own_setNe (b := w.heap.size) (k := 4) (.int .i64 sv) (own_setNe (b := w.heap.size) (k := 3) (.int .i64 n8) (own_setNe (b := w.heap.size) (k := 2) (.int .i64 fr) (own_setNe (b := w.heap.size) (k := 1) (.int .i64 6) (own_setNe (b := w.heap.size) (k := 0) (.int .i64 1) R7.o R7.n) R7.n) R7.n) R7.n) R7.n) R7.n) R7.n) R7.n) R7.n) R7.n) R7.n)
      go_wp2
      clear d0 d1 d2 d3 d4 d5 d6 d7 d8 d9 d10
      generalize (((((((((((w7.setCell ⟨w.heap.size, 0, none⟩ (.int .i64 1)).setCell ⟨w.heap.size, 1, none⟩ (.int .i64 6)).setCell ⟨w.heap.size, 2, none⟩ (.int .i64 fr)).setCell ⟨w.heap.size, 3, none⟩ (.int .i64 n8)).setCell ⟨w.heap.size, 4, none⟩ (.int .i64 sv)).setCell ⟨w.heap.size, 5, none⟩ (.int .i64 n20)).setCell ⟨w.heap.size, 6, none⟩ (.int .i64 x)).setCell ⟨w.heap.size, 7, none⟩ (.int .i64 y)).setCell ⟨w.heap.size, 8, none⟩ (.int .i64 z)).setCell ⟨w.heap.size, 9, none⟩ (.int .i64 e)).setCell ⟨w.heap.size, 10, none⟩ (.slice ad5 T5.length cap5)) = w9 at *
      have d0 := Y.c 0 (.int .i64 1) rfl
      have d1 := Y.c 1 (.int .i64 6) rfl
      have d2 := Y.c 2 (.int .i64 fr) rfl
      have d3 := Y.c 3 (.int .i64 n8) rfl
      have d4 := Y.c 4 (.int .i64 sv) rfl
      have d5 := Y.c 5 (.int .i64 n20) rfl
      have d6 := Y.c 6 (.int .i64 x) rfl
      have d7 := Y.c 7 (.int .i64 y) rfl
      have d8 := Y.c 8 (.int .i64 z) rfl
      have d9 := Y.c 9 (.int .i64 e) rfl
      have d10 := Y.c 10 (.slice ad5 T5.length cap5) rfl
      exact bodyPost_ret (v := .agg #[.int .i64 1, .int .i64 6, .int .i64 fr, .int .i64 n8, .int .i64 sv, .int .i64 n20, .int .i64 x, .int .i64 y, .int .i64 z, .int .i64 e, .slice ad5 T5.length cap5]) (by simp [results, Tryz.results42, go_sem, d0, d1, d2, d3, d4, d5, d6, d7, d8, d9, d10]) rfl ⟨1, 6, fr, n8, sv, n20, x, y, z, e, ad5, cap5, T5, _, rfl, owY, R7.l, R7.v, (by omega), rY, oY⟩
  · have h6b : (n2 == 6) = false := by rw [beq_eq_false_iff_ne]; exact h6
    go_upto_region 9 with fail
    have m0 := X3.c 0 (.int .i64 1) rfl
    have m1 := X3.c 1 (.int .i64 n2) rfl
    have m2 := X3.c 2 (.int .i64 fr) rfl
    have m3 := X3.c 3 (.int .i64 n8) rfl
    have m4 := X3.c 4 (.int .i64 sv) rfl
    have m5 := X3.c 5 (.int .i64 n20) rfl
    have m6 := X3.c 6 (.int .i64 x) rfl
    have m7 := X3.c 7 (.int .i64 y) rfl
    have m8 := X3.c 8 (.int .i64 z) rfl
    have m9 := X3.c 9 (.int .i64 e) rfl
    have m10 := X3.c 10 (.slice ad T.length cap) rfl
    have d0 := D3.x2.c 0 _ rfl
    have z0 := D3.x2.z 0
    have d1 := D3.x2.c 1 _ rfl
    have z1 := D3.x2.z 1
    have d2 := D3.x2.c 2 _ rfl
    have z2 := D3.x2.z 2
    have d3 := D3.x2.c 3 _ rfl
    have z3 := D3.x2.z 3
    have d4 := D3.x2.c 4 _ rfl
    have z4 := D3.x2.z 4
    have d5 := D3.x2.c 5 _ rfl
    have z5 := D3.x2.z 5
    have d6 := D3.x2.c 6 _ rfl
    have z6 := D3.x2.z 6
    have d7 := D3.x2.c 7 _ rfl
    have z7 := D3.x2.z 7
    have d8 := D3.x2.c 8 _ rfl
    have z8 := D3.x2.z 8
    have d9 := D3.x2.c 9 _ rfl
    have z9 := D3.x2.z 9
    have d10 := D3.x2.c 10 _ rfl
    have z10 := D3.x2.z 10
    have Y : Ws _ w.heap.size [.int .i64 1, .int .i64 n2, .int .i64 fr, .int .i64 n8, .int .i64 sv, .int .i64 n20, .int .i64 x, .int .i64 y, .int .i64 z, .int .i64 e, .slice ad T.length cap] := (((((((((((D3.x2.set 0 (by simp [zW]) (.int .i64 1)).set 1 (by simp [zW]) (.int .i64 n2)).set 2 (by simp [zW]) (.int .i64 fr)).set 3 (by simp [zW]) (.int .i64 n8)).set 4 (by simp [zW]) (.int .i64 sv)).set 5 (by simp [zW]) (.int .i64 n20)).set 6 (by simp [zW]) (.int .i64 x)).set 7 (by simp [zW]) (.int .i64 y)).set 8 (by simp [zW]) (.int .i64 z)).set 9 (by simp [zW]) (.int .i64 e)).set 10 (by simp [zW]) (.slice ad T.length cap))
    have rY := (((((((((((D3.r.set w.heap.size 0 (.int .i64 1) D3.h2 D3.hB).set w.heap.size 1 (.int .i64 n2) D3.h2 D3.hB).set w.heap.size 2 (.int .i64 fr) D3.h2 D3.hB).set w.heap.size 3 (.int .i64 n8) D3.h2 D3.hB).set w.heap.size 4 (.int .i64 sv) D3.h2 D3.hB).set w.heap.size 5 (.int .i64 n20) D3.h2 D3.hB).set w.heap.size 6 (.int .i64 x) D3.h2 D3.hB).set w.heap.size 7 (.int .i64 y) D3.h2 D3.hB).set w.heap.size 8 (.int .i64 z) D3.h2 D3.hB).set w.heap.size 9 (.int .i64 e) D3.h2 D3.hB).set w.heap.size 10 (.slice ad T.length cap) D3.h2 D3.hB)
    have oY := (((((((((((D3.o.set w.heap.size 0 (.int .i64 1) (Nat.le_refl _)).set w.heap.size 1 (.int .i64 n2) (Nat.le_refl _)).set w.heap.size 2 (.int .i64 fr) (Nat.le_refl _)).set w.heap.size 3 (.int .i64 n8) (Nat.le_refl _)).set w.heap.size 4 (.int .i64 sv) (Nat.le_refl _)).set w.heap.size 5 (.int .i64 n20) (Nat.le_refl _)).set w.heap.size 6 (.int .i64 x) (Nat.le_refl _)).set w.heap.size 7 (.int .i64 y) (Nat.le_refl _)).set w.heap.size 8 (.int .i64 z) (Nat.le_refl _)).set w.heap.size 9 (.int .i64 e) (Nat.le_refl _)).set w.heap.size 10 (.slice ad T.length cap) (Nat.le_refl _))
    have owY := (own_setNe (b := w.heap.size) (k := 10) (.slice ad T.length cap) (own_setNe (b := w.heap.size) (k := 9) (.int .i64 e) (own_setNe (b := w.heap.size) (k := 8) (.int .i64 z) (own_setNe (b := w.heap.size) (k := 7) (.int .i64 y) (own_setNe (b := w.heap.size) (k := 6) (.int .i64 x) (own_setNe (b := w.heap.size) (k := 5) (.int .i64 n20) (own_setNe (b := w.heap.size) (k := 4) (.int .i64 sv) (own_setNe (b := w.heap.size) (k := 3) (.int .i64 n8) (own_setNe (b := w.heap.size) (k := 2) (.int .i64 fr) (own_setNe (b := w.heap.size) (k := 1) (.int .i64 n2) (own_setNe (b := w.heap.size) (k := 0) (.int .i64 1) R3.o R3.n) R3.n) R3.n) R3.n) R3.n) R3.n) R3.n) R3.n) R3.n) R3.n) R3.n)
    go_wp2
    clear d0 d1 d2 d3 d4 d5 d6 d7 d8 d9 d10
    generalize (((((((((((w3.setCell ⟨w.heap.size, 0, none⟩ (.int .i64 1)).setCell ⟨w.heap.size, 1, none⟩ (.int .i64 n2)).setCell ⟨w.heap.size, 2, none⟩ (.int .i64 fr)).setCell ⟨w.heap.size, 3, none⟩ (.int .i64 n8)).setCell ⟨w.heap.size, 4, none⟩ (.int .i64 sv)).setCell ⟨w.heap.size, 5, none⟩ (.int .i64 n20)).setCell ⟨w.heap.size, 6, none⟩ (.int .i64 x)).setCell ⟨w.heap.size, 7, none⟩ (.int .i64 y)).setCell ⟨w.heap.size, 8, none⟩ (.int .i64 z)).setCell ⟨w.heap.size, 9, none⟩ (.int .i64 e)).setCell ⟨w.heap.size, 10, none⟩ (.slice ad T.length cap)) = w9 at *
    have d0 := Y.c 0 (.int .i64 1) rfl
    have d1 := Y.c 1 (.int .i64 n2) rfl
    have d2 := Y.c 2 (.int .i64 fr) rfl
    have d3 := Y.c 3 (.int .i64 n8) rfl
    have d4 := Y.c 4 (.int .i64 sv) rfl
    have d5 := Y.c 5 (.int .i64 n20) rfl
    have d6 := Y.c 6 (.int .i64 x) rfl
    have d7 := Y.c 7 (.int .i64 y) rfl
    have d8 := Y.c 8 (.int .i64 z) rfl
    have d9 := Y.c 9 (.int .i64 e) rfl
    have d10 := Y.c 10 (.slice ad T.length cap) rfl
    exact bodyPost_ret (v := .agg #[.int .i64 1, .int .i64 n2, .int .i64 fr, .int .i64 n8, .int .i64 sv, .int .i64 n20, .int .i64 x, .int .i64 y, .int .i64 z, .int .i64 e, .slice ad T.length cap]) (by simp [results, Tryz.results42, go_sem, d0, d1, d2, d3, d4, d5, d6, d7, d8, d9, d10]) rfl ⟨1, n2, fr, n8, sv, n20, x, y, z, e, ad, cap, T, _, rfl, owY, R3.l, R3.v, (by omega), rY, oY⟩
end Go.Proofs.YtibnojbhoepcdaaGreatDoor
