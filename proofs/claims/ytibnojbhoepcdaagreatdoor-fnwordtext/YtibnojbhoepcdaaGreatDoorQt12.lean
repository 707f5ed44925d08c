/- Texts of the proof, laid together: Dw. -/
import Derived.Test.YtibnojbhoepcdaaGreatDoorQt11
import Derived.Test.YtibnojbhoepcdaaGreatDoorQt8
/- A word drawn: what is known while it is. -/
namespace Go.Proofs.YtibnojbhoepcdaaGreatDoor
open Go.ChangeShapes Go.WideShapes Go.ChangeAt Go.RowKit
attribute [local go_sem ↓] Go.wp_at_zero Go.wp_at_succ
set_option linter.unusedVariables false
theorem Ws.off {w w' : World} {b rb : Nat} {xs : List Value} (h : Ws w b xs) (k : Off rb w w') (hb : b ≠ rb) : Ws w' b xs :=
  ⟨Nat.lt_of_lt_of_le h.lt k.size, fun i v hv => (k.cell (p := ⟨b, i, none⟩) h.lt hb).trans (h.c i v hv), fun o => (k.frozen (p := ⟨b, o, none⟩) h.lt hb).trans (h.z o)⟩
/-- the reader, the answer's box -/
structure Dw (G : Cd) (B rb p : Nat) (u w : World) (b2 : Nat) : Prop where
  r : Rd G B rb p w
  o : Off rb u w
  x2 : Ws w b2 zW
  h2 : b2 ≠ rb
  hu2 : u.heap.size ≤ b2
  hB : B ≤ u.heap.size
  hr : rb < u.heap.size
theorem Dw.step {G : Cd} {B rb p q b2 : Nat} {u w w' : World} (h : Dw G B rb p u w b2) (r : Rd G B rb q w') (o : Off rb w w') : Dw G B rb q u w' b2 :=
  ⟨r, h.o.trans o, h.x2.off o h.h2, h.h2, h.hu2, h.hB, h.hr⟩
theorem Dw.alloc {G : Cd} {B rb p b2 : Nat} {u w : World} (h : Dw G B rb p u w b2) (o : Obj) : Dw G B rb p u (w.alloc o) b2 :=
  h.step (h.r.alloc o) ((Off.refl rb w).alloc o)
theorem Dw.set {G : Cd} {B rb p b2 : Nat} {u w : World} (h : Dw G B rb p u w b2) (R k : Nat) (v : Value) (h1 : R ≠ rb) (h2 : u.heap.size ≤ R) (h3 : b2 ≠ R) : Dw G B rb p u (w.setCell ⟨R, k, none⟩ v) b2 :=
  ⟨h.r.set R k v h1 (Nat.le_trans h.hB h2), h.o.set R k v h2, h.x2.far h3, h.h2, h.hu2, h.hB, h.hr⟩
/-- the word's box -/
structure B5 (u w : World) (rb b2 b5 : Nat) : Prop where
  x : Ws w b5 zW
  n : b5 ≠ rb
  n2 : b2 ≠ b5
  le : u.heap.size ≤ b5
theorem B5.step {u w w' : World} {rb b2 b5 : Nat} (h : B5 u w rb b2 b5) (o : Off rb w w') : B5 u w' rb b2 b5 := ⟨h.x.off o h.n, h.n, h.n2, h.le⟩
/-- three numbers -/
structure Sl3 (w : World) (rb sl : Nat) : Prop where
  lt : sl < w.heap.size
  n : sl ≠ rb
  c : ∀ m, m < 3 → ∃ r : Int, w.cell? ⟨sl, m, none⟩ = some (.int .i64 r)
theorem Sl3.step {w w' : World} {rb sl : Nat} (h : Sl3 w rb sl) (o : Off rb w w') : Sl3 w' rb sl :=
  ⟨Nat.lt_of_lt_of_le h.lt o.size, h.n, fun m hm => by obtain ⟨r, hr⟩ := h.c m hm; exact ⟨r, (o.cell (p := ⟨sl, m, none⟩) h.lt h.n).trans hr⟩⟩
/-- the word's facts -/
structure RwT (u w : World) (b2 : Nat) (ad : Option Addr) (cap : Nat) (T : List Fc) : Prop where
  o : w.ownsRow u.heap.size 53 4 (.slice ad T.length cap) T.length (fl T)
  l : T.length ≤ 6
  n : some b2 ≠ (Value.slice ad T.length cap).ownBlock
  v : Value.slice ad T.length cap ≠ .slice none 0 0
theorem RwT.step {u w w' : World} {rb b2 cap : Nat} {ad : Option Addr} {T : List Fc} (h : RwT u w b2 ad cap T) (o : Off rb w w') (hr : rb < u.heap.size) : RwT u w' b2 ad cap T :=
  ⟨own_off h.o o hr, h.l, h.n, h.v⟩
theorem own_setNe {w : World} {base size n b k : Nat} {e : TypeId} {v : Value} {xs : List Value} (x : Value) (h : w.ownsRow base e size v n xs) (hb : some b ≠ v.ownBlock) : (w.setCell ⟨b, k, none⟩ x).ownsRow base e size v n xs := by
  refine ⟨h.1, h.2.imp id ?_⟩
  rintro ⟨g, cap, cur, hv, hg, hh, r⟩
  refine ⟨g, cap, cur, hv, hg, (Below.heap_setCell w ⟨b, k, none⟩ x g ?_).trans hh, r⟩
  intro e
  apply hb
  rw [hv]
  exact congrArg some e.symm
theorem own_fresh {w : World} {base size n : Nat} {e : TypeId} {v : Value} {xs : List Value} (h : w.ownsRow base e size v n xs) {b : Nat} (hb : b < base ∨ w.heap.size ≤ b) : some b ≠ v.ownBlock := fun e => by
  have := (h.lt b e.symm).1
  have := (h.lt b e.symm).2
  omega
def wops : Array Oper := #[{ dst := some 10, op := .move (.tmp 0), type := 44, pos := "l61_draw.go:286", after := #[], guard := none }, { dst := some 11, op := .call { callee := .value (.func 29), args := #[.tmp 10, .const (.int .i64 6)], argTypes := #[44, 3] }, type := 3, pos := "l61_draw.go:286", after := #[{ on := 0, ground := .data }], guard := none }, { dst := some 12, op := .binOp .add 3 (.const (.int .i64 1)) (.tmp 11) 3, type := 3, pos := "l61_draw.go:286", after := #[{ on := 1, ground := .data }], guard := none }, { dst := some 13, op := .move (.tmp 3), type := 3, pos := "l61_draw.go:286", after := #[], guard := none }, { dst := some 14, op := .move (.tmp 4), type := 3, pos := "l61_draw.go:286", after := #[], guard := none }, { dst := some 15, op := .binOp .mul 3 (.tmp 14) (.const (.int .i64 4)) 3, type := 3, pos := "l61_draw.go:286", after := #[{ on := 4, ground := .data }], guard := none }, { dst := some 16, op := .move (.tmp 0), type := 44, pos := "l61_draw.go:286", after := #[], guard := none }, { dst := some 17, op := .call { callee := .value (.func 29), args := #[.tmp 16, .const (.int .i64 4)], argTypes := #[44, 3] }, type := 3, pos := "l61_draw.go:286", after := #[{ on := 6, ground := .data }, { on := 1, ground := .chain }], guard := none }, { dst := some 18, op := .binOp .add 3 (.tmp 15) (.tmp 17) 3, type := 3, pos := "l61_draw.go:286", after := #[{ on := 5, ground := .data }, { on := 7, ground := .data }], guard := none }, { dst := some 19, op := .move (.tmp 0), type := 44, pos := "l61_draw.go:286", after := #[], guard := none }, { dst := some 20, op := .call { callee := .value (.func 29), args := #[.tmp 19, .const (.int .i64 9)], argTypes := #[44, 3] }, type := 3, pos := "l61_draw.go:286", after := #[{ on := 9, ground := .data }, { on := 7, ground := .chain }], guard := none }, { dst := some 21, op := .buildSlice 90 3 #[(0, .tmp 20), (1, .const (.int .i64 999999)), (2, .const (.int .i64 0))], type := 90, pos := "l61_draw.go:286", after := #[{ on := 10, ground := .data }], guard := none }, { dst := some 22, op := .move (.tmp 0), type := 44, pos := "l61_draw.go:286", after := #[], guard := none }, { dst := some 23, op := .call { callee := .value (.func 29), args := #[.tmp 22, .const (.int .i64 3)], argTypes := #[44, 3] }, type := 3, pos := "l61_draw.go:286", after := #[{ on := 12, ground := .data }, { on := 10, ground := .chain }], guard := none }, { dst := some 24, op := .indexAddr 90 (.tmp 21) (.tmp 23), type := 0, pos := "l61_draw.go:286", after := #[{ on := 11, ground := .data }, { on := 13, ground := .data }], guard := none }, { dst := some 25, op := .load 3 (.tmp 24), type := 3, pos := "l61_draw.go:286", after := #[{ on := 14, ground := .data }], guard := none }, { dst := some 26, op := .move (.tmp 4), type := 3, pos := "l61_draw.go:286", after := #[], guard := none }, { dst := some 27, op := .binOp .mul 3 (.tmp 26) (.const (.int .i64 4)) 3, type := 3, pos := "l61_draw.go:286", after := #[{ on := 16, ground := .data }], guard := none }, { dst := some 28, op := .move (.tmp 0), type := 44, pos := "l61_draw.go:286", after := #[], guard := none }, { dst := some 29, op := .call { callee := .value (.func 29), args := #[.tmp 28, .const (.int .i64 4)], argTypes := #[44, 3] }, type := 3, pos := "l61_draw.go:286", after := #[{ on := 18, ground := .data }, { on := 13, ground := .chain }], guard := none }, { dst := some 30, op := .binOp .add 3 (.tmp 27) (.tmp 29) 3, type := 3, pos := "l61_draw.go:286", after := #[{ on := 17, ground := .data }, { on := 19, ground := .data }], guard := none }, { dst := some 31, op := .move (.tmp 0), type := 44, pos := "l61_draw.go:286", after := #[], guard := none }, { dst := some 32, op := .call { callee := .value (.func 83), args := #[.tmp 31], argTypes := #[44] }, type := 33, pos := "l61_draw.go:286", after := #[{ on := 21, ground := .data }, { on := 19, ground := .chain }], guard := none }, { dst := some 33, op := .move (.tmp 0), type := 44, pos := "l61_draw.go:286", after := #[], guard := none }, { dst := some 34, op := .move (.tmp 4), type := 3, pos := "l61_draw.go:286", after := #[], guard := none }, { dst := some 35, op := .call { callee := .value (.func 32), args := #[.tmp 33, .tmp 34], argTypes := #[44, 3] }, type := 24, pos := "l61_draw.go:286", after := #[{ on := 23, ground := .data }, { on := 24, ground := .data }, { on := 22, ground := .chain }], guard := none }, { dst := some 36, op := .build 35 #[(0, .const (.int .i64 1)), (1, .tmp 12), (2, .tmp 13), (3, .tmp 18), (4, .tmp 25), (5, .tmp 30), (6, .tmp 32), (7, .tmp 35)], type := 35, pos := "l61_draw.go:286", after := #[{ on := 2, ground := .data }, { on := 3, ground := .data }, { on := 8, ground := .data }, { on := 15, ground := .data }, { on := 20, ground := .data }, { on := 22, ground := .data }, { on := 25, ground := .data }], guard := none }, { dst := some 5, op := .alloc 35, type := 0, pos := "l61_draw.go:286", after := #[], guard := none }, { dst := none, op := .store 35 (.tmp 5) (.tmp 36), type := 0, pos := "l61_draw.go:286", after := #[{ on := 27, ground := .data }, { on := 26, ground := .data }, { on := 25, ground := .chain }, { on := 0, ground := .phase }, { on := 1, ground := .phase }, { on := 2, ground := .phase }, { on := 3, ground := .phase }, { on := 4, ground := .phase }, { on := 5, ground := .phase }, { on := 6, ground := .phase }, { on := 7, ground := .phase }, { on := 8, ground := .phase }, { on := 9, ground := .phase }, { on := 10, ground := .phase }, { on := 11, ground := .phase }, { on := 12, ground := .phase }, { on := 13, ground := .phase }, { on := 14, ground := .phase }, { on := 15, ground := .phase }, { on := 16, ground := .phase }, { on := 17, ground := .phase }, { on := 18, ground := .phase }, { on := 19, ground := .phase }, { on := 20, ground := .phase }, { on := 21, ground := .phase }, { on := 22, ground := .phase }, { on := 23, ground := .phase }, { on := 24, ground := .phase }, { on := 25, ground := .phase }, { on := 26, ground := .phase }, { on := 27, ground := .phase }], guard := none }]
/-- what is asked behind the region -/
def DwQ (Q : Exit → Act → World → Prop) (G : Cd) (B rb : Nat) (u : World) (b2 : Nat) (fr st : Int) : Prop :=
  ∀ (p b5 sl o4 cap : Nat) (k1 k2 k3 k4 k5 n2 n5 n8 n17 n20 sv x y z e : Int) (ad : Option Addr) (T : List Fc) (w : World), Dw G B rb p u w b2 → p < 510000 → Ws w b5 [.int .i64 1, .int .i64 n2, .int .i64 fr, .int .i64 n8, .int .i64 sv, .int .i64 n20, .int .i64 x, .int .i64 y, .int .i64 z, .int .i64 e, .slice ad T.length cap] → b5 ≠ rb → b2 ≠ b5 → u.heap.size ≤ b5 → RwT u w b2 ad cap T → some b5 ≠ (Value.slice ad T.length cap).ownBlock → Q .normal { tmps := #[.pointer (some ⟨rb, 0, none⟩), undef, .pointer (some ⟨b2, 0, none⟩), .int .i64 fr, .int .i64 st, .pointer (some ⟨b5, 0, none⟩), .pointer (some ⟨rb, 0, none⟩), .int .i64 fr, .int .i64 fr, .int .i64 st, .pointer (some ⟨rb, 0, none⟩), .int .i64 k1, .int .i64 n2, .int .i64 fr, .int .i64 st, .int .i64 n5, .pointer (some ⟨rb, 0, none⟩), .int .i64 k2, .int .i64 n8, .pointer (some ⟨rb, 0, none⟩), .int .i64 k3, .slice (some ⟨sl, 0, none⟩) 3 3, .pointer (some ⟨rb, 0, none⟩), .int .i64 k4, .pointer (some ⟨sl, o4, none⟩), .int .i64 sv, .int .i64 st, .int .i64 n17, .pointer (some ⟨rb, 0, none⟩), .int .i64 k5, .int .i64 n20, .pointer (some ⟨rb, 0, none⟩), .agg #[.int .i64 x, .int .i64 y, .int .i64 z, .int .i64 e], .pointer (some ⟨rb, 0, none⟩), .int .i64 st, .slice ad T.length cap, .agg #[.int .i64 1, .int .i64 n2, .int .i64 fr, .int .i64 n8, .int .i64 sv, .int .i64 n20, .int .i64 x, .int .i64 y, .int .i64 z, .int .i64 e, .slice ad T.length cap], undef, undef, undef, undef, undef, undef, undef, undef, undef, undef, undef, undef, undef, undef, undef, undef, undef, undef, undef, undef], defers := [] } w
set_option maxRecDepth 20000 in
set_option maxHeartbeats 4000000 in
theorem dw_7111 {G : Cd} {B : Nat} {rb : Nat} {p : Nat} {b2 : Nat} {b5 : Nat} {sl : Nat} {o4 : Nat} {cap : Nat} {u : World} {w : World} {fr : Int} {st : Int} {k1 : Int} {k2 : Int} {k3 : Int} {k4 : Int} {k5 : Int} {n2 : Int} {n5 : Int} {n8 : Int} {n17 : Int} {n20 : Int} {sv : Int} {x : Int} {y : Int} {z : Int} {e : Int} {ad : Option Addr} {T : List Fc} {Q : Exit → Act → World → Prop} {ls : Array Bool} (hQ : DwQ Q G B rb u b2 fr st) (hC : ∀ (c : List PanicEntry) (d : Option Nat) (v : Value) (a : Act) (w : World), Q (.panic c) (a.put d v) w → Q (.panic c) a w) (D : Dw G B rb p u w b2) (hp : p < 507000) (hst : 0 ≤ st ∧ st ≤ 1) (E : B5 u w rb b2 b5) (R : RwT u w b2 ad cap T) (hn5 : some b5 ≠ (Value.slice ad T.length cap).ownBlock) (hl : ls = #[true, true, true, true, true, true, true, true, true, true, true, true, true, true, true, true, true, true, true, true, true, true, true, true, true, true, true, true, false]) :
    wpAnyH Tryz.prog .any wops Q (fun _ => True) 1 ls { tmps := #[.pointer (some ⟨rb, 0, none⟩), undef, .pointer (some ⟨b2, 0, none⟩), .int .i64 fr, .int .i64 st, .pointer (some ⟨b5, 0, none⟩), .pointer (some ⟨rb, 0, none⟩), .int .i64 fr, .int .i64 fr, .int .i64 st, .pointer (some ⟨rb, 0, none⟩), .int .i64 k1, .int .i64 n2, .int .i64 fr, .int .i64 st, .int .i64 n5, .pointer (some ⟨rb, 0, none⟩), .int .i64 k2, .int .i64 n8, .pointer (some ⟨rb, 0, none⟩), .int .i64 k3, .slice (some ⟨sl, 0, none⟩) 3 3, .pointer (some ⟨rb, 0, none⟩), .int .i64 k4, .pointer (some ⟨sl, o4, none⟩), .int .i64 sv, .int .i64 st, .int .i64 n17, .pointer (some ⟨rb, 0, none⟩), .int .i64 k5, .int .i64 n20, .pointer (some ⟨rb, 0, none⟩), .agg #[.int .i64 x, .int .i64 y, .int .i64 z, .int .i64 e], .pointer (some ⟨rb, 0, none⟩), .int .i64 st, .slice ad T.length cap, .agg #[.int .i64 1, .int .i64 n2, .int .i64 fr, .int .i64 n8, .int .i64 sv, .int .i64 n20, .int .i64 x, .int .i64 y, .int .i64 z, .int .i64 e, .slice ad T.length cap], undef, undef, undef, undef, undef, undef, undef, undef, undef, undef, undef, undef, undef, undef, undef, undef, undef, undef, undef, undef], defers := [] } w := by
  subst hl
  have d0 := E.x.c 0 _ rfl
  have d1 := E.x.c 1 _ rfl
  have d2 := E.x.c 2 _ rfl
  have d3 := E.x.c 3 _ rfl
  have d4 := E.x.c 4 _ rfl
  have d5 := E.x.c 5 _ rfl
  have d6 := E.x.c 6 _ rfl
  have d7 := E.x.c 7 _ rfl
  have d8 := E.x.c 8 _ rfl
  have d9 := E.x.c 9 _ rfl
  have d10 := E.x.c 10 _ rfl
  have z0 := E.x.z 0
  have z1 := E.x.z 1
  have z2 := E.x.z 2
  have z3 := E.x.z 3
  have z4 := E.x.z 4
  have z5 := E.x.z 5
  have z6 := E.x.z 6
  have z7 := E.x.z 7
  have z8 := E.x.z 8
  have z9 := E.x.z 9
  have z10 := E.x.z 10
  have YG : Ws _ b5 [.int .i64 1, .int .i64 n2, .int .i64 fr, .int .i64 n8, .int .i64 sv, .int .i64 n20, .int .i64 x, .int .i64 y, .int .i64 z, .int .i64 e, .slice ad T.length cap] := (((((((((((E.x.set 0 (by simp [zW]) (.int .i64 1)).set 1 (by simp [zW]) (.int .i64 n2)).set 2 (by simp [zW]) (.int .i64 fr)).set 3 (by simp [zW]) (.int .i64 n8)).set 4 (by simp [zW]) (.int .i64 sv)).set 5 (by simp [zW]) (.int .i64 n20)).set 6 (by simp [zW]) (.int .i64 x)).set 7 (by simp [zW]) (.int .i64 y)).set 8 (by simp [zW]) (.int .i64 z)).set 9 (by simp [zW]) (.int .i64 e)).set 10 (by simp [zW]) (.slice ad T.length cap))
  have DG := (((((((((((D.set b5 0 (.int .i64 1) E.n E.le E.n2).set b5 1 (.int .i64 n2) E.n E.le E.n2).set b5 2 (.int .i64 fr) E.n E.le E.n2).set b5 3 (.int .i64 n8) E.n E.le E.n2).set b5 4 (.int .i64 sv) E.n E.le E.n2).set b5 5 (.int .i64 n20) E.n E.le E.n2).set b5 6 (.int .i64 x) E.n E.le E.n2).set b5 7 (.int .i64 y) E.n E.le E.n2).set b5 8 (.int .i64 z) E.n E.le E.n2).set b5 9 (.int .i64 e) E.n E.le E.n2).set b5 10 (.slice ad T.length cap) E.n E.le E.n2)
  have oG := (own_setNe (b := b5) (k := 10) (.slice ad T.length cap) (own_setNe (b := b5) (k := 9) (.int .i64 e) (own_setNe (b := b5) (k := 8) (.int .i64 z) (own_setNe (b := b5) (k := 7) (.int .i64 y) (own_setNe (b := b5) (k := 6) (.int .i64 x) (own_setNe (b := b5) (k := 5) (.int .i64 n20) (own_setNe (b := b5) (k := 4) (.int .i64 sv) (own_setNe (b := b5) (k := 3) (.int .i64 n8) (own_setNe (b := b5) (k := 2) (.int .i64 fr) (own_setNe (b := b5) (k := 1) (.int .i64 n2) (own_setNe (b := b5) (k := 0) (.int .i64 1) R.o hn5) hn5) hn5) hn5) hn5) hn5) hn5) hn5) hn5) hn5) hn5)
  refine wpAnyH_ready (rs := [28]) (by kernel_rfl) (by simp) ?_
  refine AllReadyH.cons (o := { dst := none, op := .store 35 (.tmp 5) (.tmp 36), type := 0, pos := "l61_draw.go:286", after := #[{ on := 27, ground := .data }, { on := 26, ground := .data }, { on := 25, ground := .chain }, { on := 0, ground := .phase }, { on := 1, ground := .phase }, { on := 2, ground := .phase }, { on := 3, ground := .phase }, { on := 4, ground := .phase }, { on := 5, ground := .phase }, { on := 6, ground := .phase }, { on := 7, ground := .phase }, { on := 8, ground := .phase }, { on := 9, ground := .phase }, { on := 10, ground := .phase }, { on := 11, ground := .phase }, { on := 12, ground := .phase }, { on := 13, ground := .phase }, { on := 14, ground := .phase }, { on := 15, ground := .phase }, { on := 16, ground := .phase }, { on := 17, ground := .phase }, { on := 18, ground := .phase }, { on := 19, ground := .phase }, { on := 20, ground := .phase }, { on := 21, ground := .phase }, { on := 22, ground := .phase }, { on := 23, ground := .phase }, { on := 24, ground := .phase }, { on := 25, ground := .phase }, { on := 26, ground := .phase }, { on := 27, ground := .phase }], guard := none }) rfl (fun K hK => ?_) AllReadyH.nil
  go_simp
  generalize (((((((((((w.setCell ⟨b5, 0, none⟩ (.int .i64 1)).setCell ⟨b5, 1, none⟩ (.int .i64 n2)).setCell ⟨b5, 2, none⟩ (.int .i64 fr)).setCell ⟨b5, 3, none⟩ (.int .i64 n8)).setCell ⟨b5, 4, none⟩ (.int .i64 sv)).setCell ⟨b5, 5, none⟩ (.int .i64 n20)).setCell ⟨b5, 6, none⟩ (.int .i64 x)).setCell ⟨b5, 7, none⟩ (.int .i64 y)).setCell ⟨b5, 8, none⟩ (.int .i64 z)).setCell ⟨b5, 9, none⟩ (.int .i64 e)).setCell ⟨b5, 10, none⟩ (.slice ad T.length cap)) = w9 at *
  refine hK.out _ _ trivial (fun _ => ?_)
  clear hK K
  (try simp only [pq])
  refine wpAnyH_done (by kernel_rfl) ?_ _
  exact hQ p b5 sl o4 cap k1 k2 k3 k4 k5 n2 n5 n8 n17 n20 sv x y z e ad T _ DG (by omega) YG E.n E.n2 E.le ⟨oG, R.l, R.n, R.v⟩ hn5
set_option maxRecDepth 20000 in
set_option maxHeartbeats 4000000 in
theorem dw_6111 {G : Cd} {B : Nat} {rb : Nat} {p : Nat} {b2 : Nat} {b5 : Nat} {sl : Nat} {o4 : Nat} {u : World} {w : World} {fr : Int} {st : Int} {k1 : Int} {k2 : Int} {k3 : Int} {k4 : Int} {k5 : Int} {n2 : Int} {n5 : Int} {n8 : Int} {n17 : Int} {n20 : Int} {sv : Int} {x : Int} {y : Int} {z : Int} {e : Int} {Q : Exit → Act → World → Prop} {ls : Array Bool} (hQ : DwQ Q G B rb u b2 fr st) (hC : ∀ (c : List PanicEntry) (d : Option Nat) (v : Value) (a : Act) (w : World), Q (.panic c) (a.put d v) w → Q (.panic c) a w) (D : Dw G B rb p u w b2) (hp : p < 506000) (hst : 0 ≤ st ∧ st ≤ 1) (E : B5 u w rb b2 b5) (hl : ls = #[true, true, true, true, true, true, true, true, true, true, true, true, true, true, true, true, true, true, true, true, true, true, true, true, true, false, false, true, false]) :
    wpAnyH Tryz.prog .any wops Q (fun _ => True) 3 ls { tmps := #[.pointer (some ⟨rb, 0, none⟩), undef, .pointer (some ⟨b2, 0, none⟩), .int .i64 fr, .int .i64 st, .pointer (some ⟨b5, 0, none⟩), .pointer (some ⟨rb, 0, none⟩), .int .i64 fr, .int .i64 fr, .int .i64 st, .pointer (some ⟨rb, 0, none⟩), .int .i64 k1, .int .i64 n2, .int .i64 fr, .int .i64 st, .int .i64 n5, .pointer (some ⟨rb, 0, none⟩), .int .i64 k2, .int .i64 n8, .pointer (some ⟨rb, 0, none⟩), .int .i64 k3, .slice (some ⟨sl, 0, none⟩) 3 3, .pointer (some ⟨rb, 0, none⟩), .int .i64 k4, .pointer (some ⟨sl, o4, none⟩), .int .i64 sv, .int .i64 st, .int .i64 n17, .pointer (some ⟨rb, 0, none⟩), .int .i64 k5, .int .i64 n20, .pointer (some ⟨rb, 0, none⟩), .agg #[.int .i64 x, .int .i64 y, .int .i64 z, .int .i64 e], .pointer (some ⟨rb, 0, none⟩), .int .i64 st, undef, undef, undef, undef, undef, undef, undef, undef, undef, undef, undef, undef, undef, undef, undef, undef, undef, undef, undef, undef, undef, undef], defers := [] } w := by
  subst hl
  refine wpAnyH_ready (rs := [25]) (by kernel_rfl) (by simp) ?_
  refine (AllReadyH.cons (o := { dst := some 35, op := .call { callee := .value (.func 32), args := #[.tmp 33, .tmp 34], argTypes := #[44, 3] }, type := 24, pos := "l61_draw.go:286", after := #[{ on := 23, ground := .data }, { on := 24, ground := .data }, { on := 22, ground := .chain }], guard := none }) rfl (fun K hK => ?_) AllReadyH.nil)
  · go_simp
    refine (table_any B rb p st _ D.r (by omega) (Or.inr hst)).mono ?_
    rintro r w1 ⟨ad, cap, T, q, rfl, hnil, hown, -, hT, hq, r1, o1⟩
    have hR : RwT u w1 b2 ad cap T := ⟨own_mono D.o.size hown, hT, own_fresh hown (Or.inl D.x2.lt), hnil⟩
    have D1 := D.step r1 o1
    go_wp2_with fail
    refine hK.out _ _ trivial (fun _ => ?_)
    clear hK K
    (try simp only [pq])
    have E1 := E.step o1
    have hn5 := own_fresh hown (Or.inl E.x.lt)
    refine wpAnyH_take (i := 26) (oi := { dst := some 36, op := .build 35 #[(0, .const (.int .i64 1)), (1, .tmp 12), (2, .tmp 13), (3, .tmp 18), (4, .tmp 25), (5, .tmp 30), (6, .tmp 32), (7, .tmp 35)], type := 35, pos := "l61_draw.go:286", after := #[{ on := 2, ground := .data }, { on := 3, ground := .data }, { on := 8, ground := .data }, { on := 15, ground := .data }, { on := 20, ground := .data }, { on := 22, ground := .data }, { on := 25, ground := .data }], guard := none }) (v := ?_) rfl (by kernel_rfl) (by kernel_rfl) (by kernel_rfl) (fun _ _ _ h => hC _ _ _ _ _ h) (Or.inl ⟨by rfl, ?_⟩) (by assumption) ?_
    rotate_left 1
    · (intro w hSw; (try dsimp only at hSw); go_simp; try with_reducible rfl)
    (try simp only [pq])
    exact dw_7111 hQ hC D1 (by omega) hst E1 hR hn5 (by first | rfl | kernel_rfl)
set_option maxRecDepth 20000 in
set_option maxHeartbeats 4000000 in
theorem dw_7011 {G : Cd} {B : Nat} {rb : Nat} {p : Nat} {b2 : Nat} {sl : Nat} {o4 : Nat} {cap : Nat} {u : World} {w : World} {fr : Int} {st : Int} {k1 : Int} {k2 : Int} {k3 : Int} {k4 : Int} {k5 : Int} {n2 : Int} {n5 : Int} {n8 : Int} {n17 : Int} {n20 : Int} {sv : Int} {x : Int} {y : Int} {z : Int} {e : Int} {ad : Option Addr} {T : List Fc} {Q : Exit → Act → World → Prop} {ls : Array Bool} (hQ : DwQ Q G B rb u b2 fr st) (hC : ∀ (c : List PanicEntry) (d : Option Nat) (v : Value) (a : Act) (w : World), Q (.panic c) (a.put d v) w → Q (.panic c) a w) (D : Dw G B rb p u w b2) (hp : p < 507000) (hst : 0 ≤ st ∧ st ≤ 1) (R : RwT u w b2 ad cap T) (hl : ls = #[true, true, true, true, true, true, true, true, true, true, true, true, true, true, true, true, true, true, true, true, true, true, true, true, true, true, true, false, false]) :
    wpAnyH Tryz.prog .any wops Q (fun _ => True) 2 ls { tmps := #[.pointer (some ⟨rb, 0, none⟩), undef, .pointer (some ⟨b2, 0, none⟩), .int .i64 fr, .int .i64 st, undef, .pointer (some ⟨rb, 0, none⟩), .int .i64 fr, .int .i64 fr, .int .i64 st, .pointer (some ⟨rb, 0, none⟩), .int .i64 k1, .int .i64 n2, .int .i64 fr, .int .i64 st, .int .i64 n5, .pointer (some ⟨rb, 0, none⟩), .int .i64 k2, .int .i64 n8, .pointer (some ⟨rb, 0, none⟩), .int .i64 k3, .slice (some ⟨sl, 0, none⟩) 3 3, .pointer (some ⟨rb, 0, none⟩), .int .i64 k4, .pointer (some ⟨sl, o4, none⟩), .int .i64 sv, .int .i64 st, .int .i64 n17, .pointer (some ⟨rb, 0, none⟩), .int .i64 k5, .int .i64 n20, .pointer (some ⟨rb, 0, none⟩), .agg #[.int .i64 x, .int .i64 y, .int .i64 z, .int .i64 e], .pointer (some ⟨rb, 0, none⟩), .int .i64 st, .slice ad T.length cap, .agg #[.int .i64 1, .int .i64 n2, .int .i64 fr, .int .i64 n8, .int .i64 sv, .int .i64 n20, .int .i64 x, .int .i64 y, .int .i64 z, .int .i64 e, .slice ad T.length cap], undef, undef, undef, undef, undef, undef, undef, undef, undef, undef, undef, undef, undef, undef, undef, undef, undef, undef, undef, undef], defers := [] } w := by
  subst hl
  refine wpAnyH_ready (rs := [27]) (by kernel_rfl) (by simp) ?_
  refine (AllReadyH.cons (o := { dst := some 5, op := .alloc 35, type := 0, pos := "l61_draw.go:286", after := #[], guard := none }) rfl (fun K hK => ?_) AllReadyH.nil)
  · go_simp
    refine hK.out _ _ trivial (fun _ => ?_)
    clear hK K
    (try simp only [pq])
    have o1 : Off rb w (w.alloc (.cells #[.int .i64 0, .int .i64 0, .int .i64 0, .int .i64 0, .int .i64 0, .int .i64 0, .int .i64 0, .int .i64 0, .int .i64 0, .int .i64 0, .slice none 0 0] 35)) := (Off.refl rb w).alloc _
    have D1 := D.alloc (.cells #[.int .i64 0, .int .i64 0, .int .i64 0, .int .i64 0, .int .i64 0, .int .i64 0, .int .i64 0, .int .i64 0, .int .i64 0, .int .i64 0, .slice none 0 0] 35)
    have E1 : B5 u (w.alloc (.cells #[.int .i64 0, .int .i64 0, .int .i64 0, .int .i64 0, .int .i64 0, .int .i64 0, .int .i64 0, .int .i64 0, .int .i64 0, .int .i64 0, .slice none 0 0] 35)) rb b2 w.heap.size := ⟨(Ws.new (heap_alloc_new w (.cells #[.int .i64 0, .int .i64 0, .int .i64 0, .int .i64 0, .int .i64 0, .int .i64 0, .int .i64 0, .int .i64 0, .int .i64 0, .int .i64 0, .slice none 0 0] 35)) : Ws _ w.heap.size zW), by have := D.r.lt; omega, by have := D.x2.lt; omega, D.o.size⟩
    have R1 := R.step o1 D.hr
    have hn5 := own_fresh R.o (Or.inr (Nat.le_refl w.heap.size))
    generalize w.alloc (.cells #[.int .i64 0, .int .i64 0, .int .i64 0, .int .i64 0, .int .i64 0, .int .i64 0, .int .i64 0, .int .i64 0, .int .i64 0, .int .i64 0, .slice none 0 0] 35) = w1 at *
    exact dw_7111 hQ hC D1 hp hst E1 R1 hn5 (by first | rfl | kernel_rfl)
set_option maxRecDepth 20000 in
set_option maxHeartbeats 4000000 in
theorem dw_7110 {G : Cd} {B : Nat} {rb : Nat} {p : Nat} {b2 : Nat} {b5 : Nat} {sl : Nat} {o4 : Nat} {cap : Nat} {u : World} {w : World} {fr : Int} {st : Int} {k1 : Int} {k2 : Int} {k3 : Int} {k4 : Int} {k5 : Int} {n2 : Int} {n5 : Int} {n8 : Int} {n17 : Int} {n20 : Int} {x : Int} {y : Int} {z : Int} {e : Int} {ad : Option Addr} {T : List Fc} {Q : Exit → Act → World → Prop} {ls : Array Bool} (hQ : DwQ Q G B rb u b2 fr st) (hC : ∀ (c : List PanicEntry) (d : Option Nat) (v : Value) (a : Act) (w : World), Q (.panic c) (a.put d v) w → Q (.panic c) a w) (D : Dw G B rb p u w b2) (hp : p < 507000) (hst : 0 ≤ st ∧ st ≤ 1) (E : B5 u w rb b2 b5) (F : Sl3 w rb sl) (ho4 : o4 < 3) (R : RwT u w b2 ad cap T) (hn5 : some b5 ≠ (Value.slice ad T.length cap).ownBlock) (hl : ls = #[true, true, true, true, true, true, true, true, true, true, true, true, true, true, true, false, true, true, true, true, true, true, true, true, true, true, false, true, false]) :
    wpAnyH Tryz.prog .any wops Q (fun _ => True) 3 ls { tmps := #[.pointer (some ⟨rb, 0, none⟩), undef, .pointer (some ⟨b2, 0, none⟩), .int .i64 fr, .int .i64 st, .pointer (some ⟨b5, 0, none⟩), .pointer (some ⟨rb, 0, none⟩), .int .i64 fr, .int .i64 fr, .int .i64 st, .pointer (some ⟨rb, 0, none⟩), .int .i64 k1, .int .i64 n2, .int .i64 fr, .int .i64 st, .int .i64 n5, .pointer (some ⟨rb, 0, none⟩), .int .i64 k2, .int .i64 n8, .pointer (some ⟨rb, 0, none⟩), .int .i64 k3, .slice (some ⟨sl, 0, none⟩) 3 3, .pointer (some ⟨rb, 0, none⟩), .int .i64 k4, .pointer (some ⟨sl, o4, none⟩), undef, .int .i64 st, .int .i64 n17, .pointer (some ⟨rb, 0, none⟩), .int .i64 k5, .int .i64 n20, .pointer (some ⟨rb, 0, none⟩), .agg #[.int .i64 x, .int .i64 y, .int .i64 z, .int .i64 e], .pointer (some ⟨rb, 0, none⟩), .int .i64 st, .slice ad T.length cap, undef, undef, undef, undef, undef, undef, undef, undef, undef, undef, undef, undef, undef, undef, undef, undef, undef, undef, undef, undef, undef], defers := [] } w := by
  subst hl
  refine wpAnyH_ready (rs := [15]) (by kernel_rfl) (by simp) ?_
  refine (AllReadyH.cons (o := { dst := some 25, op := .load 3 (.tmp 24), type := 3, pos := "l61_draw.go:286", after := #[{ on := 14, ground := .data }], guard := none }) rfl (fun K hK => ?_) AllReadyH.nil)
  · obtain ⟨sv, hsv⟩ := F.c o4 ho4
    go_simp
    refine hK.out _ _ trivial (fun _ => ?_)
    clear hK K
    (try simp only [pq])
    refine wpAnyH_take (i := 26) (oi := { dst := some 36, op := .build 35 #[(0, .const (.int .i64 1)), (1, .tmp 12), (2, .tmp 13), (3, .tmp 18), (4, .tmp 25), (5, .tmp 30), (6, .tmp 32), (7, .tmp 35)], type := 35, pos := "l61_draw.go:286", after := #[{ on := 2, ground := .data }, { on := 3, ground := .data }, { on := 8, ground := .data }, { on := 15, ground := .data }, { on := 20, ground := .data }, { on := 22, ground := .data }, { on := 25, ground := .data }], guard := none }) (v := ?_) rfl (by kernel_rfl) (by kernel_rfl) (by kernel_rfl) (fun _ _ _ h => hC _ _ _ _ _ h) (Or.inl ⟨by rfl, ?_⟩) (by assumption) ?_
    rotate_left 1
    · (intro w hSw; (try dsimp only at hSw); go_simp; try with_reducible rfl)
    (try simp only [pq])
    exact dw_7111 hQ hC D hp hst E R hn5 (by first | rfl | kernel_rfl)
set_option maxRecDepth 20000 in
set_option maxHeartbeats 4000000 in
theorem dw_5111 {G : Cd} {B : Nat} {rb : Nat} {p : Nat} {b2 : Nat} {b5 : Nat} {sl : Nat} {o4 : Nat} {u : World} {w : World} {fr : Int} {st : Int} {k1 : Int} {k2 : Int} {k3 : Int} {k4 : Int} {k5 : Int} {n2 : Int} {n5 : Int} {n8 : Int} {n17 : Int} {n20 : Int} {sv : Int} {Q : Exit → Act → World → Prop} {ls : Array Bool} (hQ : DwQ Q G B rb u b2 fr st) (hC : ∀ (c : List PanicEntry) (d : Option Nat) (v : Value) (a : Act) (w : World), Q (.panic c) (a.put d v) w → Q (.panic c) a w) (D : Dw G B rb p u w b2) (hp : p < 505000) (hst : 0 ≤ st ∧ st ≤ 1) (E : B5 u w rb b2 b5) (hl : ls = #[true, true, true, true, true, true, true, true, true, true, true, true, true, true, true, true, true, true, true, true, true, true, false, true, true, false, false, true, false]) :
    wpAnyH Tryz.prog .any wops Q (fun _ => True) 4 ls { tmps := #[.pointer (some ⟨rb, 0, none⟩), undef, .pointer (some ⟨b2, 0, none⟩), .int .i64 fr, .int .i64 st, .pointer (some ⟨b5, 0, none⟩), .pointer (some ⟨rb, 0, none⟩), .int .i64 fr, .int .i64 fr, .int .i64 st, .pointer (some ⟨rb, 0, none⟩), .int .i64 k1, .int .i64 n2, .int .i64 fr, .int .i64 st, .int .i64 n5, .pointer (some ⟨rb, 0, none⟩), .int .i64 k2, .int .i64 n8, .pointer (some ⟨rb, 0, none⟩), .int .i64 k3, .slice (some ⟨sl, 0, none⟩) 3 3, .pointer (some ⟨rb, 0, none⟩), .int .i64 k4, .pointer (some ⟨sl, o4, none⟩), .int .i64 sv, .int .i64 st, .int .i64 n17, .pointer (some ⟨rb, 0, none⟩), .int .i64 k5, .int .i64 n20, .pointer (some ⟨rb, 0, none⟩), undef, .pointer (some ⟨rb, 0, none⟩), .int .i64 st, undef, undef, undef, undef, undef, undef, undef, undef, undef, undef, undef, undef, undef, undef, undef, undef, undef, undef, undef, undef, undef, undef], defers := [] } w := by
  subst hl
  refine wpAnyH_ready (rs := [22]) (by kernel_rfl) (by simp) ?_
  refine (AllReadyH.cons (o := { dst := some 32, op := .call { callee := .value (.func 83), args := #[.tmp 31], argTypes := #[44] }, type := 33, pos := "l61_draw.go:286", after := #[{ on := 21, ground := .data }, { on := 19, ground := .chain }], guard := none }) rfl (fun K hK => ?_) AllReadyH.nil)
  · go_simp
    refine (coord_any B rb p _ D.r (by omega)).mono ?_
    rintro r w1 ⟨x, y, z, e, q, rfl, hq, r1, o1⟩
    have D1 := D.step r1 o1
    go_wp2_with fail
    refine hK.out _ _ trivial (fun _ => ?_)
    clear hK K
    (try simp only [pq])
    have E1 := E.step o1
    exact dw_6111 hQ hC D1 (by omega) hst E1 (by first | rfl | kernel_rfl)
set_option maxRecDepth 20000 in
set_option maxHeartbeats 4000000 in
theorem dw_6011 {G : Cd} {B : Nat} {rb : Nat} {p : Nat} {b2 : Nat} {sl : Nat} {o4 : Nat} {u : World} {w : World} {fr : Int} {st : Int} {k1 : Int} {k2 : Int} {k3 : Int} {k4 : Int} {k5 : Int} {n2 : Int} {n5 : Int} {n8 : Int} {n17 : Int} {n20 : Int} {sv : Int} {x : Int} {y : Int} {z : Int} {e : Int} {Q : Exit → Act → World → Prop} {ls : Array Bool} (hQ : DwQ Q G B rb u b2 fr st) (hC : ∀ (c : List PanicEntry) (d : Option Nat) (v : Value) (a : Act) (w : World), Q (.panic c) (a.put d v) w → Q (.panic c) a w) (D : Dw G B rb p u w b2) (hp : p < 506000) (hst : 0 ≤ st ∧ st ≤ 1) (hl : ls = #[true, true, true, true, true, true, true, true, true, true, true, true, true, true, true, true, true, true, true, true, true, true, true, true, true, false, false, false, false]) :
    wpAnyH Tryz.prog .any wops Q (fun _ => True) 4 ls { tmps := #[.pointer (some ⟨rb, 0, none⟩), undef, .pointer (some ⟨b2, 0, none⟩), .int .i64 fr, .int .i64 st, undef, .pointer (some ⟨rb, 0, none⟩), .int .i64 fr, .int .i64 fr, .int .i64 st, .pointer (some ⟨rb, 0, none⟩), .int .i64 k1, .int .i64 n2, .int .i64 fr, .int .i64 st, .int .i64 n5, .pointer (some ⟨rb, 0, none⟩), .int .i64 k2, .int .i64 n8, .pointer (some ⟨rb, 0, none⟩), .int .i64 k3, .slice (some ⟨sl, 0, none⟩) 3 3, .pointer (some ⟨rb, 0, none⟩), .int .i64 k4, .pointer (some ⟨sl, o4, none⟩), .int .i64 sv, .int .i64 st, .int .i64 n17, .pointer (some ⟨rb, 0, none⟩), .int .i64 k5, .int .i64 n20, .pointer (some ⟨rb, 0, none⟩), .agg #[.int .i64 x, .int .i64 y, .int .i64 z, .int .i64 e], .pointer (some ⟨rb, 0, none⟩), .int .i64 st, undef, undef, undef, undef, undef, undef, undef, undef, undef, undef, undef, undef, undef, undef, undef, undef, undef, undef, undef, undef, undef, undef], defers := [] } w := by
  subst hl
  refine wpAnyH_ready (rs := [25, 27]) (by kernel_rfl) (by simp) ?_
  refine (AllReadyH.cons (o := { dst := some 35, op := .call { callee := .value (.func 32), args := #[.tmp 33, .tmp 34], argTypes := #[44, 3] }, type := 24, pos := "l61_draw.go:286", after := #[{ on := 23, ground := .data }, { on := 24, ground := .data }, { on := 22, ground := .chain }], guard := none }) rfl (fun K hK => ?_) (AllReadyH.cons (o := { dst := some 5, op := .alloc 35, type := 0, pos := "l61_draw.go:286", after := #[], guard := none }) rfl (fun K hK => ?_) AllReadyH.nil))
  · go_simp
    refine (table_any B rb p st _ D.r (by omega) (Or.inr hst)).mono ?_
    rintro r w1 ⟨ad, cap, T, q, rfl, hnil, hown, -, hT, hq, r1, o1⟩
    have hR : RwT u w1 b2 ad cap T := ⟨own_mono D.o.size hown, hT, own_fresh hown (Or.inl D.x2.lt), hnil⟩
    have D1 := D.step r1 o1
    go_wp2_with fail
    refine hK.out _ _ trivial (fun _ => ?_)
    clear hK K
    (try simp only [pq])
    refine wpAnyH_take (i := 26) (oi := { dst := some 36, op := .build 35 #[(0, .const (.int .i64 1)), (1, .tmp 12), (2, .tmp 13), (3, .tmp 18), (4, .tmp 25), (5, .tmp 30), (6, .tmp 32), (7, .tmp 35)], type := 35, pos := "l61_draw.go:286", after := #[{ on := 2, ground := .data }, { on := 3, ground := .data }, { on := 8, ground := .data }, { on := 15, ground := .data }, { on := 20, ground := .data }, { on := 22, ground := .data }, { on := 25, ground := .data }], guard := none }) (v := ?_) rfl (by kernel_rfl) (by kernel_rfl) (by kernel_rfl) (fun _ _ _ h => hC _ _ _ _ _ h) (Or.inl ⟨by rfl, ?_⟩) (by assumption) ?_
    rotate_left 1
    · (intro w hSw; (try dsimp only at hSw); go_simp; try with_reducible rfl)
    (try simp only [pq])
    exact dw_7011 hQ hC D1 (by omega) hst hR (by first | rfl | kernel_rfl)
  · go_simp
    refine hK.out _ _ trivial (fun _ => ?_)
    clear hK K
    (try simp only [pq])
    have o1 : Off rb w (w.alloc (.cells #[.int .i64 0, .int .i64 0, .int .i64 0, .int .i64 0, .int .i64 0, .int .i64 0, .int .i64 0, .int .i64 0, .int .i64 0, .int .i64 0, .slice none 0 0] 35)) := (Off.refl rb w).alloc _
    have D1 := D.alloc (.cells #[.int .i64 0, .int .i64 0, .int .i64 0, .int .i64 0, .int .i64 0, .int .i64 0, .int .i64 0, .int .i64 0, .int .i64 0, .int .i64 0, .slice none 0 0] 35)
    have E1 : B5 u (w.alloc (.cells #[.int .i64 0, .int .i64 0, .int .i64 0, .int .i64 0, .int .i64 0, .int .i64 0, .int .i64 0, .int .i64 0, .int .i64 0, .int .i64 0, .slice none 0 0] 35)) rb b2 w.heap.size := ⟨(Ws.new (heap_alloc_new w (.cells #[.int .i64 0, .int .i64 0, .int .i64 0, .int .i64 0, .int .i64 0, .int .i64 0, .int .i64 0, .int .i64 0, .int .i64 0, .int .i64 0, .slice none 0 0] 35)) : Ws _ w.heap.size zW), by have := D.r.lt; omega, by have := D.x2.lt; omega, D.o.size⟩
    generalize w.alloc (.cells #[.int .i64 0, .int .i64 0, .int .i64 0, .int .i64 0, .int .i64 0, .int .i64 0, .int .i64 0, .int .i64 0, .int .i64 0, .int .i64 0, .slice none 0 0] 35) = w1 at *
    exact dw_6111 hQ hC D1 hp hst E1 (by first | rfl | kernel_rfl)
set_option maxRecDepth 20000 in
set_option maxHeartbeats 4000000 in
theorem dw_6110 {G : Cd} {B : Nat} {rb : Nat} {p : Nat} {b2 : Nat} {b5 : Nat} {sl : Nat} {o4 : Nat} {u : World} {w : World} {fr : Int} {st : Int} {k1 : Int} {k2 : Int} {k3 : Int} {k4 : Int} {k5 : Int} {n2 : Int} {n5 : Int} {n8 : Int} {n17 : Int} {n20 : Int} {x : Int} {y : Int} {z : Int} {e : Int} {Q : Exit → Act → World → Prop} {ls : Array Bool} (hQ : DwQ Q G B rb u b2 fr st) (hC : ∀ (c : List PanicEntry) (d : Option Nat) (v : Value) (a : Act) (w : World), Q (.panic c) (a.put d v) w → Q (.panic c) a w) (D : Dw G B rb p u w b2) (hp : p < 506000) (hst : 0 ≤ st ∧ st ≤ 1) (E : B5 u w rb b2 b5) (F : Sl3 w rb sl) (ho4 : o4 < 3) (hl : ls = #[true, true, true, true, true, true, true, true, true, true, true, true, true, true, true, false, true, true, true, true, true, true, true, true, true, false, false, true, false]) :
    wpAnyH Tryz.prog .any wops Q (fun _ => True) 4 ls { tmps := #[.pointer (some ⟨rb, 0, none⟩), undef, .pointer (some ⟨b2, 0, none⟩), .int .i64 fr, .int .i64 st, .pointer (some ⟨b5, 0, none⟩), .pointer (some ⟨rb, 0, none⟩), .int .i64 fr, .int .i64 fr, .int .i64 st, .pointer (some ⟨rb, 0, none⟩), .int .i64 k1, .int .i64 n2, .int .i64 fr, .int .i64 st, .int .i64 n5, .pointer (some ⟨rb, 0, none⟩), .int .i64 k2, .int .i64 n8, .pointer (some ⟨rb, 0, none⟩), .int .i64 k3, .slice (some ⟨sl, 0, none⟩) 3 3, .pointer (some ⟨rb, 0, none⟩), .int .i64 k4, .pointer (some ⟨sl, o4, none⟩), undef, .int .i64 st, .int .i64 n17, .pointer (some ⟨rb, 0, none⟩), .int .i64 k5, .int .i64 n20, .pointer (some ⟨rb, 0, none⟩), .agg #[.int .i64 x, .int .i64 y, .int .i64 z, .int .i64 e], .pointer (some ⟨rb, 0, none⟩), .int .i64 st, undef, undef, undef, undef, undef, undef, undef, undef, undef, undef, undef, undef, undef, undef, undef, undef, undef, undef, undef, undef, undef, undef], defers := [] } w := by
  subst hl
  refine wpAnyH_ready (rs := [15, 25]) (by kernel_rfl) (by simp) ?_
  refine (AllReadyH.cons (o := { dst := some 25, op := .load 3 (.tmp 24), type := 3, pos := "l61_draw.go:286", after := #[{ on := 14, ground := .data }], guard := none }) rfl (fun K hK => ?_) (AllReadyH.cons (o := { dst := some 35, op := .call { callee := .value (.func 32), args := #[.tmp 33, .tmp 34], argTypes := #[44, 3] }, type := 24, pos := "l61_draw.go:286", after := #[{ on := 23, ground := .data }, { on := 24, ground := .data }, { on := 22, ground := .chain }], guard := none }) rfl (fun K hK => ?_) AllReadyH.nil))
  · obtain ⟨sv, hsv⟩ := F.c o4 ho4
    go_simp
    refine hK.out _ _ trivial (fun _ => ?_)
    clear hK K
    (try simp only [pq])
    exact dw_6111 hQ hC D hp hst E (by first | rfl | kernel_rfl)
  · go_simp
    refine (table_any B rb p st _ D.r (by omega) (Or.inr hst)).mono ?_
    rintro r w1 ⟨ad, cap, T, q, rfl, hnil, hown, -, hT, hq, r1, o1⟩
    have hR : RwT u w1 b2 ad cap T := ⟨own_mono D.o.size hown, hT, own_fresh hown (Or.inl D.x2.lt), hnil⟩
    have D1 := D.step r1 o1
    go_wp2_with fail
    refine hK.out _ _ trivial (fun _ => ?_)
    clear hK K
    (try simp only [pq])
    have E1 := E.step o1
    have F1 := F.step o1
    have hn5 := own_fresh hown (Or.inl E.x.lt)
    exact dw_7110 hQ hC D1 (by omega) hst E1 F1 ho4 hR hn5 (by first | rfl | kernel_rfl)
set_option maxRecDepth 20000 in
set_option maxHeartbeats 4000000 in
theorem dw_7010 {G : Cd} {B : Nat} {rb : Nat} {p : Nat} {b2 : Nat} {sl : Nat} {o4 : Nat} {cap : Nat} {u : World} {w : World} {fr : Int} {st : Int} {k1 : Int} {k2 : Int} {k3 : Int} {k4 : Int} {k5 : Int} {n2 : Int} {n5 : Int} {n8 : Int} {n17 : Int} {n20 : Int} {x : Int} {y : Int} {z : Int} {e : Int} {ad : Option Addr} {T : List Fc} {Q : Exit → Act → World → Prop} {ls : Array Bool} (hQ : DwQ Q G B rb u b2 fr st) (hC : ∀ (c : List PanicEntry) (d : Option Nat) (v : Value) (a : Act) (w : World), Q (.panic c) (a.put d v) w → Q (.panic c) a w) (D : Dw G B rb p u w b2) (hp : p < 507000) (hst : 0 ≤ st ∧ st ≤ 1) (F : Sl3 w rb sl) (ho4 : o4 < 3) (R : RwT u w b2 ad cap T) (hl : ls = #[true, true, true, true, true, true, true, true, true, true, true, true, true, true, true, false, true, true, true, true, true, true, true, true, true, true, false, false, false]) :
    wpAnyH Tryz.prog .any wops Q (fun _ => True) 4 ls { tmps := #[.pointer (some ⟨rb, 0, none⟩), undef, .pointer (some ⟨b2, 0, none⟩), .int .i64 fr, .int .i64 st, undef, .pointer (some ⟨rb, 0, none⟩), .int .i64 fr, .int .i64 fr, .int .i64 st, .pointer (some ⟨rb, 0, none⟩), .int .i64 k1, .int .i64 n2, .int .i64 fr, .int .i64 st, .int .i64 n5, .pointer (some ⟨rb, 0, none⟩), .int .i64 k2, .int .i64 n8, .pointer (some ⟨rb, 0, none⟩), .int .i64 k3, .slice (some ⟨sl, 0, none⟩) 3 3, .pointer (some ⟨rb, 0, none⟩), .int .i64 k4, .pointer (some ⟨sl, o4, none⟩), undef, .int .i64 st, .int .i64 n17, .pointer (some ⟨rb, 0, none⟩), .int .i64 k5, .int .i64 n20, .pointer (some ⟨rb, 0, none⟩), .agg #[.int .i64 x, .int .i64 y, .int .i64 z, .int .i64 e], .pointer (some ⟨rb, 0, none⟩), .int .i64 st, .slice ad T.length cap, undef, undef, undef, undef, undef, undef, undef, undef, undef, undef, undef, undef, undef, undef, undef, undef, undef, undef, undef, undef, undef], defers := [] } w := by
  subst hl
  refine wpAnyH_ready (rs := [15, 27]) (by kernel_rfl) (by simp) ?_
  refine (AllReadyH.cons (o := { dst := some 25, op := .load 3 (.tmp 24), type := 3, pos := "l61_draw.go:286", after := #[{ on := 14, ground := .data }], guard := none }) rfl (fun K hK => ?_) (AllReadyH.cons (o := { dst := some 5, op := .alloc 35, type := 0, pos := "l61_draw.go:286", after := #[], guard := none }) rfl (fun K hK => ?_) AllReadyH.nil))
  · obtain ⟨sv, hsv⟩ := F.c o4 ho4
    go_simp
    refine hK.out _ _ trivial (fun _ => ?_)
    clear hK K
    (try simp only [pq])
    refine wpAnyH_take (i := 26) (oi := { dst := some 36, op := .build 35 #[(0, .const (.int .i64 1)), (1, .tmp 12), (2, .tmp 13), (3, .tmp 18), (4, .tmp 25), (5, .tmp 30), (6, .tmp 32), (7, .tmp 35)], type := 35, pos := "l61_draw.go:286", after := #[{ on := 2, ground := .data }, { on := 3, ground := .data }, { on := 8, ground := .data }, { on := 15, ground := .data }, { on := 20, ground := .data }, { on := 22, ground := .data }, { on := 25, ground := .data }], guard := none }) (v := ?_) rfl (by kernel_rfl) (by kernel_rfl) (by kernel_rfl) (fun _ _ _ h => hC _ _ _ _ _ h) (Or.inl ⟨by rfl, ?_⟩) (by assumption) ?_
    rotate_left 1
    · (intro w hSw; (try dsimp only at hSw); go_simp; try with_reducible rfl)
    (try simp only [pq])
    exact dw_7011 hQ hC D hp hst R (by first | rfl | kernel_rfl)
  · go_simp
    refine hK.out _ _ trivial (fun _ => ?_)
    clear hK K
    (try simp only [pq])
    have o1 : Off rb w (w.alloc (.cells #[.int .i64 0, .int .i64 0, .int .i64 0, .int .i64 0, .int .i64 0, .int .i64 0, .int .i64 0, .int .i64 0, .int .i64 0, .int .i64 0, .slice none 0 0] 35)) := (Off.refl rb w).alloc _
    have D1 := D.alloc (.cells #[.int .i64 0, .int .i64 0, .int .i64 0, .int .i64 0, .int .i64 0, .int .i64 0, .int .i64 0, .int .i64 0, .int .i64 0, .int .i64 0, .slice none 0 0] 35)
    have E1 : B5 u (w.alloc (.cells #[.int .i64 0, .int .i64 0, .int .i64 0, .int .i64 0, .int .i64 0, .int .i64 0, .int .i64 0, .int .i64 0, .int .i64 0, .int .i64 0, .slice none 0 0] 35)) rb b2 w.heap.size := ⟨(Ws.new (heap_alloc_new w (.cells #[.int .i64 0, .int .i64 0, .int .i64 0, .int .i64 0, .int .i64 0, .int .i64 0, .int .i64 0, .int .i64 0, .int .i64 0, .int .i64 0, .slice none 0 0] 35)) : Ws _ w.heap.size zW), by have := D.r.lt; omega, by have := D.x2.lt; omega, D.o.size⟩
    have F1 := F.step o1
    have R1 := R.step o1 D.hr
    have hn5 := own_fresh R.o (Or.inr (Nat.le_refl w.heap.size))
    generalize w.alloc (.cells #[.int .i64 0, .int .i64 0, .int .i64 0, .int .i64 0, .int .i64 0, .int .i64 0, .int .i64 0, .int .i64 0, .int .i64 0, .int .i64 0, .slice none 0 0] 35) = w1 at *
    exact dw_7110 hQ hC D1 hp hst E1 F1 ho4 R1 hn5 (by first | rfl | kernel_rfl)
set_option maxRecDepth 20000 in
set_option maxHeartbeats 4000000 in
theorem dw_7100 {G : Cd} {B : Nat} {rb : Nat} {p : Nat} {b2 : Nat} {b5 : Nat} {cap : Nat} {u : World} {w : World} {fr : Int} {st : Int} {k1 : Int} {k2 : Int} {k3 : Int} {k4 : Int} {k5 : Int} {n2 : Int} {n5 : Int} {n8 : Int} {n17 : Int} {n20 : Int} {x : Int} {y : Int} {z : Int} {e : Int} {ad : Option Addr} {T : List Fc} {Q : Exit → Act → World → Prop} {ls : Array Bool} (hQ : DwQ Q G B rb u b2 fr st) (hC : ∀ (c : List PanicEntry) (d : Option Nat) (v : Value) (a : Act) (w : World), Q (.panic c) (a.put d v) w → Q (.panic c) a w) (D : Dw G B rb p u w b2) (hp : p < 507000) (hst : 0 ≤ st ∧ st ≤ 1) (E : B5 u w rb b2 b5) (hk4 : 0 ≤ k4 ∧ k4 < 3) (R : RwT u w b2 ad cap T) (hn5 : some b5 ≠ (Value.slice ad T.length cap).ownBlock) (hl : ls = #[true, true, true, true, true, true, true, true, true, true, true, false, true, true, false, false, true, true, true, true, true, true, true, true, true, true, false, true, false]) :
    wpAnyH Tryz.prog .any wops Q (fun _ => True) 5 ls { tmps := #[.pointer (some ⟨rb, 0, none⟩), undef, .pointer (some ⟨b2, 0, none⟩), .int .i64 fr, .int .i64 st, .pointer (some ⟨b5, 0, none⟩), .pointer (some ⟨rb, 0, none⟩), .int .i64 fr, .int .i64 fr, .int .i64 st, .pointer (some ⟨rb, 0, none⟩), .int .i64 k1, .int .i64 n2, .int .i64 fr, .int .i64 st, .int .i64 n5, .pointer (some ⟨rb, 0, none⟩), .int .i64 k2, .int .i64 n8, .pointer (some ⟨rb, 0, none⟩), .int .i64 k3, undef, .pointer (some ⟨rb, 0, none⟩), .int .i64 k4, undef, undef, .int .i64 st, .int .i64 n17, .pointer (some ⟨rb, 0, none⟩), .int .i64 k5, .int .i64 n20, .pointer (some ⟨rb, 0, none⟩), .agg #[.int .i64 x, .int .i64 y, .int .i64 z, .int .i64 e], .pointer (some ⟨rb, 0, none⟩), .int .i64 st, .slice ad T.length cap, undef, undef, undef, undef, undef, undef, undef, undef, undef, undef, undef, undef, undef, undef, undef, undef, undef, undef, undef, undef, undef], defers := [] } w := by
  subst hl
  refine wpAnyH_ready (rs := [11]) (by kernel_rfl) (by simp) ?_
  refine (AllReadyH.cons (o := { dst := some 21, op := .buildSlice 90 3 #[(0, .tmp 20), (1, .const (.int .i64 999999)), (2, .const (.int .i64 0))], type := 90, pos := "l61_draw.go:286", after := #[{ on := 10, ground := .data }], guard := none }) rfl (fun K hK => ?_) AllReadyH.nil)
  · go_simp
    refine hK.out _ _ trivial (fun _ => ?_)
    clear hK K
    (try simp only [pq])
    have o1 : Off rb w (w.alloc (.cells #[.int .i64 k3, .int .i64 999999, .int .i64 0] 3)) := (Off.refl rb w).alloc _
    have D1 := D.alloc (.cells #[.int .i64 k3, .int .i64 999999, .int .i64 0] 3)
    have F1 : Sl3 (w.alloc (.cells #[.int .i64 k3, .int .i64 999999, .int .i64 0] 3)) rb w.heap.size := ⟨lt_of_block (heap_alloc_new w _), by have := D.r.lt; omega, fun m hm => three w k3 999999 0 m hm⟩
    have E1 := E.step o1
    obtain ⟨m4, rfl⟩ : ∃ m4 : Nat, k4 = m4 := ⟨k4.toNat, by omega⟩
    have hm4 : m4 < 3 := by omega
    have i0 := hk4.1
    have i1 := hk4.2
    have R1 := R.step o1 D.hr
    generalize w.alloc (.cells #[.int .i64 k3, .int .i64 999999, .int .i64 0] 3) = w1 at *
    generalize w.heap.size = s1 at *
    refine wpAnyH_take (i := 14) (oi := { dst := some 24, op := .indexAddr 90 (.tmp 21) (.tmp 23), type := 0, pos := "l61_draw.go:286", after := #[{ on := 11, ground := .data }, { on := 13, ground := .data }], guard := none }) (v := ?_) rfl (by kernel_rfl) (by kernel_rfl) (by kernel_rfl) (fun _ _ _ h => hC _ _ _ _ _ h) (Or.inl ⟨by rfl, ?_⟩) (by assumption) ?_
    rotate_left 1
    · (intro w hSw; (try dsimp only at hSw); go_simp; try with_reducible rfl)
    (try simp only [pq])
    exact dw_7110 hQ hC D1 hp hst E1 F1 hm4 R1 hn5 (by first | rfl | kernel_rfl)
set_option maxRecDepth 20000 in
set_option maxHeartbeats 4000000 in
theorem dw_4111 {G : Cd} {B : Nat} {rb : Nat} {p : Nat} {b2 : Nat} {b5 : Nat} {sl : Nat} {o4 : Nat} {u : World} {w : World} {fr : Int} {st : Int} {k1 : Int} {k2 : Int} {k3 : Int} {k4 : Int} {n2 : Int} {n5 : Int} {n8 : Int} {n17 : Int} {sv : Int} {Q : Exit → Act → World → Prop} {ls : Array Bool} (hQ : DwQ Q G B rb u b2 fr st) (hC : ∀ (c : List PanicEntry) (d : Option Nat) (v : Value) (a : Act) (w : World), Q (.panic c) (a.put d v) w → Q (.panic c) a w) (D : Dw G B rb p u w b2) (hp : p < 504000) (hst : 0 ≤ st ∧ st ≤ 1) (E : B5 u w rb b2 b5) (hl : ls = #[true, true, true, true, true, true, true, true, true, true, true, true, true, true, true, true, true, true, true, false, false, true, false, true, true, false, false, true, false]) :
    wpAnyH Tryz.prog .any wops Q (fun _ => True) 6 ls { tmps := #[.pointer (some ⟨rb, 0, none⟩), undef, .pointer (some ⟨b2, 0, none⟩), .int .i64 fr, .int .i64 st, .pointer (some ⟨b5, 0, none⟩), .pointer (some ⟨rb, 0, none⟩), .int .i64 fr, .int .i64 fr, .int .i64 st, .pointer (some ⟨rb, 0, none⟩), .int .i64 k1, .int .i64 n2, .int .i64 fr, .int .i64 st, .int .i64 n5, .pointer (some ⟨rb, 0, none⟩), .int .i64 k2, .int .i64 n8, .pointer (some ⟨rb, 0, none⟩), .int .i64 k3, .slice (some ⟨sl, 0, none⟩) 3 3, .pointer (some ⟨rb, 0, none⟩), .int .i64 k4, .pointer (some ⟨sl, o4, none⟩), .int .i64 sv, .int .i64 st, .int .i64 n17, .pointer (some ⟨rb, 0, none⟩), undef, undef, .pointer (some ⟨rb, 0, none⟩), undef, .pointer (some ⟨rb, 0, none⟩), .int .i64 st, undef, undef, undef, undef, undef, undef, undef, undef, undef, undef, undef, undef, undef, undef, undef, undef, undef, undef, undef, undef, undef, undef], defers := [] } w := by
  subst hl
  refine wpAnyH_ready (rs := [19]) (by kernel_rfl) (by simp) ?_
  refine (AllReadyH.cons (o := { dst := some 29, op := .call { callee := .value (.func 29), args := #[.tmp 28, .const (.int .i64 4)], argTypes := #[44, 3] }, type := 3, pos := "l61_draw.go:286", after := #[{ on := 18, ground := .data }, { on := 13, ground := .chain }], guard := none }) rfl (fun K hK => ?_) AllReadyH.nil)
  · go_simp
    refine (pick_any B rb p 4 _ D.r (by omega)).mono ?_
    rintro r w1 ⟨rfl, hk, r1, o1'⟩
    have o1 := o1'.off
    generalize G.pk p 4 = k5 at *
    have D1 := D.step r1 o1
    go_wp2_with fail
    refine hK.out _ _ trivial (fun _ => ?_)
    clear hK K
    (try simp only [pq])
    have E1 := E.step o1
    refine wpAnyH_take (i := 20) (oi := { dst := some 30, op := .binOp .add 3 (.tmp 27) (.tmp 29) 3, type := 3, pos := "l61_draw.go:286", after := #[{ on := 17, ground := .data }, { on := 19, ground := .data }], guard := none }) (v := ?_) rfl (by kernel_rfl) (by kernel_rfl) (by kernel_rfl) (fun _ _ _ h => hC _ _ _ _ _ h) (Or.inl ⟨by rfl, ?_⟩) (by assumption) ?_
    rotate_left 1
    · (intro w hSw; (try dsimp only at hSw); go_simp; try with_reducible rfl)
    (try simp only [pq])
    exact dw_5111 hQ hC D1 (by omega) hst E1 (by first | rfl | kernel_rfl)
set_option maxRecDepth 20000 in
set_option maxHeartbeats 4000000 in
theorem dw_5011 {G : Cd} {B : Nat} {rb : Nat} {p : Nat} {b2 : Nat} {sl : Nat} {o4 : Nat} {u : World} {w : World} {fr : Int} {st : Int} {k1 : Int} {k2 : Int} {k3 : Int} {k4 : Int} {k5 : Int} {n2 : Int} {n5 : Int} {n8 : Int} {n17 : Int} {n20 : Int} {sv : Int} {Q : Exit → Act → World → Prop} {ls : Array Bool} (hQ : DwQ Q G B rb u b2 fr st) (hC : ∀ (c : List PanicEntry) (d : Option Nat) (v : Value) (a : Act) (w : World), Q (.panic c) (a.put d v) w → Q (.panic c) a w) (D : Dw G B rb p u w b2) (hp : p < 505000) (hst : 0 ≤ st ∧ st ≤ 1) (hl : ls = #[true, true, true, true, true, true, true, true, true, true, true, true, true, true, true, true, true, true, true, true, true, true, false, true, true, false, false, false, false]) :
    wpAnyH Tryz.prog .any wops Q (fun _ => True) 5 ls { tmps := #[.pointer (some ⟨rb, 0, none⟩), undef, .pointer (some ⟨b2, 0, none⟩), .int .i64 fr, .int .i64 st, undef, .pointer (some ⟨rb, 0, none⟩), .int .i64 fr, .int .i64 fr, .int .i64 st, .pointer (some ⟨rb, 0, none⟩), .int .i64 k1, .int .i64 n2, .int .i64 fr, .int .i64 st, .int .i64 n5, .pointer (some ⟨rb, 0, none⟩), .int .i64 k2, .int .i64 n8, .pointer (some ⟨rb, 0, none⟩), .int .i64 k3, .slice (some ⟨sl, 0, none⟩) 3 3, .pointer (some ⟨rb, 0, none⟩), .int .i64 k4, .pointer (some ⟨sl, o4, none⟩), .int .i64 sv, .int .i64 st, .int .i64 n17, .pointer (some ⟨rb, 0, none⟩), .int .i64 k5, .int .i64 n20, .pointer (some ⟨rb, 0, none⟩), undef, .pointer (some ⟨rb, 0, none⟩), .int .i64 st, undef, undef, undef, undef, undef, undef, undef, undef, undef, undef, undef, undef, undef, undef, undef, undef, undef, undef, undef, undef, undef, undef], defers := [] } w := by
  subst hl
  refine wpAnyH_ready (rs := [22, 27]) (by kernel_rfl) (by simp) ?_
  refine (AllReadyH.cons (o := { dst := some 32, op := .call { callee := .value (.func 83), args := #[.tmp 31], argTypes := #[44] }, type := 33, pos := "l61_draw.go:286", after := #[{ on := 21, ground := .data }, { on := 19, ground := .chain }], guard := none }) rfl (fun K hK => ?_) (AllReadyH.cons (o := { dst := some 5, op := .alloc 35, type := 0, pos := "l61_draw.go:286", after := #[], guard := none }) rfl (fun K hK => ?_) AllReadyH.nil))
  · go_simp
    refine (coord_any B rb p _ D.r (by omega)).mono ?_
    rintro r w1 ⟨x, y, z, e, q, rfl, hq, r1, o1⟩
    have D1 := D.step r1 o1
    go_wp2_with fail
    refine hK.out _ _ trivial (fun _ => ?_)
    clear hK K
    (try simp only [pq])
    exact dw_6011 hQ hC D1 (by omega) hst (by first | rfl | kernel_rfl)
  · go_simp
    refine hK.out _ _ trivial (fun _ => ?_)
    clear hK K
    (try simp only [pq])
    have o1 : Off rb w (w.alloc (.cells #[.int .i64 0, .int .i64 0, .int .i64 0, .int .i64 0, .int .i64 0, .int .i64 0, .int .i64 0, .int .i64 0, .int .i64 0, .int .i64 0, .slice none 0 0] 35)) := (Off.refl rb w).alloc _
    have D1 := D.alloc (.cells #[.int .i64 0, .int .i64 0, .int .i64 0, .int .i64 0, .int .i64 0, .int .i64 0, .int .i64 0, .int .i64 0, .int .i64 0, .int .i64 0, .slice none 0 0] 35)
    have E1 : B5 u (w.alloc (.cells #[.int .i64 0, .int .i64 0, .int .i64 0, .int .i64 0, .int .i64 0, .int .i64 0, .int .i64 0, .int .i64 0, .int .i64 0, .int .i64 0, .slice none 0 0] 35)) rb b2 w.heap.size := ⟨(Ws.new (heap_alloc_new w (.cells #[.int .i64 0, .int .i64 0, .int .i64 0, .int .i64 0, .int .i64 0, .int .i64 0, .int .i64 0, .int .i64 0, .int .i64 0, .int .i64 0, .slice none 0 0] 35)) : Ws _ w.heap.size zW), by have := D.r.lt; omega, by have := D.x2.lt; omega, D.o.size⟩
    generalize w.alloc (.cells #[.int .i64 0, .int .i64 0, .int .i64 0, .int .i64 0, .int .i64 0, .int .i64 0, .int .i64 0, .int .i64 0, .int .i64 0, .int .i64 0, .slice none 0 0] 35) = w1 at *
    exact dw_5111 hQ hC D1 hp hst E1 (by first | rfl | kernel_rfl)
set_option maxRecDepth 20000 in
set_option maxHeartbeats 4000000 in
theorem dw_5110 {G : Cd} {B : Nat} {rb : Nat} {p : Nat} {b2 : Nat} {b5 : Nat} {sl : Nat} {o4 : Nat} {u : World} {w : World} {fr : Int} {st : Int} {k1 : Int} {k2 : Int} {k3 : Int} {k4 : Int} {k5 : Int} {n2 : Int} {n5 : Int} {n8 : Int} {n17 : Int} {n20 : Int} {Q : Exit → Act → World → Prop} {ls : Array Bool} (hQ : DwQ Q G B rb u b2 fr st) (hC : ∀ (c : List PanicEntry) (d : Option Nat) (v : Value) (a : Act) (w : World), Q (.panic c) (a.put d v) w → Q (.panic c) a w) (D : Dw G B rb p u w b2) (hp : p < 505000) (hst : 0 ≤ st ∧ st ≤ 1) (E : B5 u w rb b2 b5) (F : Sl3 w rb sl) (ho4 : o4 < 3) (hl : ls = #[true, true, true, true, true, true, true, true, true, true, true, true, true, true, true, false, true, true, true, true, true, true, false, true, true, false, false, true, false]) :
    wpAnyH Tryz.prog .any wops Q (fun _ => True) 5 ls { tmps := #[.pointer (some ⟨rb, 0, none⟩), undef, .pointer (some ⟨b2, 0, none⟩), .int .i64 fr, .int .i64 st, .pointer (some ⟨b5, 0, none⟩), .pointer (some ⟨rb, 0, none⟩), .int .i64 fr, .int .i64 fr, .int .i64 st, .pointer (some ⟨rb, 0, none⟩), .int .i64 k1, .int .i64 n2, .int .i64 fr, .int .i64 st, .int .i64 n5, .pointer (some ⟨rb, 0, none⟩), .int .i64 k2, .int .i64 n8, .pointer (some ⟨rb, 0, none⟩), .int .i64 k3, .slice (some ⟨sl, 0, none⟩) 3 3, .pointer (some ⟨rb, 0, none⟩), .int .i64 k4, .pointer (some ⟨sl, o4, none⟩), undef, .int .i64 st, .int .i64 n17, .pointer (some ⟨rb, 0, none⟩), .int .i64 k5, .int .i64 n20, .pointer (some ⟨rb, 0, none⟩), undef, .pointer (some ⟨rb, 0, none⟩), .int .i64 st, undef, undef, undef, undef, undef, undef, undef, undef, undef, undef, undef, undef, undef, undef, undef, undef, undef, undef, undef, undef, undef, undef], defers := [] } w := by
  subst hl
  refine wpAnyH_ready (rs := [15, 22]) (by kernel_rfl) (by simp) ?_
  refine (AllReadyH.cons (o := { dst := some 25, op := .load 3 (.tmp 24), type := 3, pos := "l61_draw.go:286", after := #[{ on := 14, ground := .data }], guard := none }) rfl (fun K hK => ?_) (AllReadyH.cons (o := { dst := some 32, op := .call { callee := .value (.func 83), args := #[.tmp 31], argTypes := #[44] }, type := 33, pos := "l61_draw.go:286", after := #[{ on := 21, ground := .data }, { on := 19, ground := .chain }], guard := none }) rfl (fun K hK => ?_) AllReadyH.nil))
  · obtain ⟨sv, hsv⟩ := F.c o4 ho4
    go_simp
    refine hK.out _ _ trivial (fun _ => ?_)
    clear hK K
    (try simp only [pq])
    exact dw_5111 hQ hC D hp hst E (by first | rfl | kernel_rfl)
  · go_simp
    refine (coord_any B rb p _ D.r (by omega)).mono ?_
    rintro r w1 ⟨x, y, z, e, q, rfl, hq, r1, o1⟩
    have D1 := D.step r1 o1
    go_wp2_with fail
    refine hK.out _ _ trivial (fun _ => ?_)
    clear hK K
    (try simp only [pq])
    have E1 := E.step o1
    have F1 := F.step o1
    exact dw_6110 hQ hC D1 (by omega) hst E1 F1 ho4 (by first | rfl | kernel_rfl)
set_option maxRecDepth 20000 in
set_option maxHeartbeats 4000000 in
theorem dw_6010 {G : Cd} {B : Nat} {rb : Nat} {p : Nat} {b2 : Nat} {sl : Nat} {o4 : Nat} {u : World} {w : World} {fr : Int} {st : Int} {k1 : Int} {k2 : Int} {k3 : Int} {k4 : Int} {k5 : Int} {n2 : Int} {n5 : Int} {n8 : Int} {n17 : Int} {n20 : Int} {x : Int} {y : Int} {z : Int} {e : Int} {Q : Exit → Act → World → Prop} {ls : Array Bool} (hQ : DwQ Q G B rb u b2 fr st) (hC : ∀ (c : List PanicEntry) (d : Option Nat) (v : Value) (a : Act) (w : World), Q (.panic c) (a.put d v) w → Q (.panic c) a w) (D : Dw G B rb p u w b2) (hp : p < 506000) (hst : 0 ≤ st ∧ st ≤ 1) (F : Sl3 w rb sl) (ho4 : o4 < 3) (hl : ls = #[true, true, true, true, true, true, true, true, true, true, true, true, true, true, true, false, true, true, true, true, true, true, true, true, true, false, false, false, false]) :
    wpAnyH Tryz.prog .any wops Q (fun _ => True) 5 ls { tmps := #[.pointer (some ⟨rb, 0, none⟩), undef, .pointer (some ⟨b2, 0, none⟩), .int .i64 fr, .int .i64 st, undef, .pointer (some ⟨rb, 0, none⟩), .int .i64 fr, .int .i64 fr, .int .i64 st, .pointer (some ⟨rb, 0, none⟩), .int .i64 k1, .int .i64 n2, .int .i64 fr, .int .i64 st, .int .i64 n5, .pointer (some ⟨rb, 0, none⟩), .int .i64 k2, .int .i64 n8, .pointer (some ⟨rb, 0, none⟩), .int .i64 k3, .slice (some ⟨sl, 0, none⟩) 3 3, .pointer (some ⟨rb, 0, none⟩), .int .i64 k4, .pointer (some ⟨sl, o4, none⟩), undef, .int .i64 st, .int .i64 n17, .pointer (some ⟨rb, 0, none⟩), .int .i64 k5, .int .i64 n20, .pointer (some ⟨rb, 0, none⟩), .agg #[.int .i64 x, .int .i64 y, .int .i64 z, .int .i64 e], .pointer (some ⟨rb, 0, none⟩), .int .i64 st, undef, undef, undef, undef, undef, undef, undef, undef, undef, undef, undef, undef, undef, undef, undef, undef, undef, undef, undef, undef, undef, undef], defers := [] } w := by
  subst hl
  refine wpAnyH_ready (rs := [15, 25, 27]) (by kernel_rfl) (by simp) ?_
  refine (AllReadyH.cons (o := { dst := some 25, op := .load 3 (.tmp 24), type := 3, pos := "l61_draw.go:286", after := #[{ on := 14, ground := .data }], guard := none }) rfl (fun K hK => ?_) (AllReadyH.cons (o := { dst := some 35, op := .call { callee := .value (.func 32), args := #[.tmp 33, .tmp 34], argTypes := #[44, 3] }, type := 24, pos := "l61_draw.go:286", after := #[{ on := 23, ground := .data }, { on := 24, ground := .data }, { on := 22, ground := .chain }], guard := none }) rfl (fun K hK => ?_) (AllReadyH.cons (o := { dst := some 5, op := .alloc 35, type := 0, pos := "l61_draw.go:286", after := #[], guard := none }) rfl (fun K hK => ?_) AllReadyH.nil)))
  · obtain ⟨sv, hsv⟩ := F.c o4 ho4
    go_simp
    refine hK.out _ _ trivial (fun _ => ?_)
    clear hK K
    (try simp only [pq])
    exact dw_6011 hQ hC D hp hst (by first | rfl | kernel_rfl)
  · go_simp
    refine (table_any B rb p st _ D.r (by omega) (Or.inr hst)).mono ?_
    rintro r w1 ⟨ad, cap, T, q, rfl, hnil, hown, -, hT, hq, r1, o1⟩
    have hR : RwT u w1 b2 ad cap T := ⟨own_mono D.o.size hown, hT, own_fresh hown (Or.inl D.x2.lt), hnil⟩
    have D1 := D.step r1 o1
    go_wp2_with fail
    refine hK.out _ _ trivial (fun _ => ?_)
    clear hK K
    (try simp only [pq])
    have F1 := F.step o1
    exact dw_7010 hQ hC D1 (by omega) hst F1 ho4 hR (by first | rfl | kernel_rfl)
  · go_simp
    refine hK.out _ _ trivial (fun _ => ?_)
    clear hK K
    (try simp only [pq])
    have o1 : Off rb w (w.alloc (.cells #[.int .i64 0, .int .i64 0, .int .i64 0, .int .i64 0, .int .i64 0, .int .i64 0, .int .i64 0, .int .i64 0, .int .i64 0, .int .i64 0, .slice none 0 0] 35)) := (Off.refl rb w).alloc _
    have D1 := D.alloc (.cells #[.int .i64 0, .int .i64 0, .int .i64 0, .int .i64 0, .int .i64 0, .int .i64 0, .int .i64 0, .int .i64 0, .int .i64 0, .int .i64 0, .slice none 0 0] 35)
    have E1 : B5 u (w.alloc (.cells #[.int .i64 0, .int .i64 0, .int .i64 0, .int .i64 0, .int .i64 0, .int .i64 0, .int .i64 0, .int .i64 0, .int .i64 0, .int .i64 0, .slice none 0 0] 35)) rb b2 w.heap.size := ⟨(Ws.new (heap_alloc_new w (.cells #[.int .i64 0, .int .i64 0, .int .i64 0, .int .i64 0, .int .i64 0, .int .i64 0, .int .i64 0, .int .i64 0, .int .i64 0, .int .i64 0, .slice none 0 0] 35)) : Ws _ w.heap.size zW), by have := D.r.lt; omega, by have := D.x2.lt; omega, D.o.size⟩
    have F1 := F.step o1
    generalize w.alloc (.cells #[.int .i64 0, .int .i64 0, .int .i64 0, .int .i64 0, .int .i64 0, .int .i64 0, .int .i64 0, .int .i64 0, .int .i64 0, .int .i64 0, .slice none 0 0] 35) = w1 at *
    exact dw_6110 hQ hC D1 hp hst E1 F1 ho4 (by first | rfl | kernel_rfl)
set_option maxRecDepth 20000 in
set_option maxHeartbeats 4000000 in
theorem dw_6100 {G : Cd} {B : Nat} {rb : Nat} {p : Nat} {b2 : Nat} {b5 : Nat} {u : World} {w : World} {fr : Int} {st : Int} {k1 : Int} {k2 : Int} {k3 : Int} {k4 : Int} {k5 : Int} {n2 : Int} {n5 : Int} {n8 : Int} {n17 : Int} {n20 : Int} {x : Int} {y : Int} {z : Int} {e : Int} {Q : Exit → Act → World → Prop} {ls : Array Bool} (hQ : DwQ Q G B rb u b2 fr st) (hC : ∀ (c : List PanicEntry) (d : Option Nat) (v : Value) (a : Act) (w : World), Q (.panic c) (a.put d v) w → Q (.panic c) a w) (D : Dw G B rb p u w b2) (hp : p < 506000) (hst : 0 ≤ st ∧ st ≤ 1) (E : B5 u w rb b2 b5) (hk4 : 0 ≤ k4 ∧ k4 < 3) (hl : ls = #[true, true, true, true, true, true, true, true, true, true, true, false, true, true, false, false, true, true, true, true, true, true, true, true, true, false, false, true, false]) :
    wpAnyH Tryz.prog .any wops Q (fun _ => True) 6 ls { tmps := #[.pointer (some ⟨rb, 0, none⟩), undef, .pointer (some ⟨b2, 0, none⟩), .int .i64 fr, .int .i64 st, .pointer (some ⟨b5, 0, none⟩), .pointer (some ⟨rb, 0, none⟩), .int .i64 fr, .int .i64 fr, .int .i64 st, .pointer (some ⟨rb, 0, none⟩), .int .i64 k1, .int .i64 n2, .int .i64 fr, .int .i64 st, .int .i64 n5, .pointer (some ⟨rb, 0, none⟩), .int .i64 k2, .int .i64 n8, .pointer (some ⟨rb, 0, none⟩), .int .i64 k3, undef, .pointer (some ⟨rb, 0, none⟩), .int .i64 k4, undef, undef, .int .i64 st, .int .i64 n17, .pointer (some ⟨rb, 0, none⟩), .int .i64 k5, .int .i64 n20, .pointer (some ⟨rb, 0, none⟩), .agg #[.int .i64 x, .int .i64 y, .int .i64 z, .int .i64 e], .pointer (some ⟨rb, 0, none⟩), .int .i64 st, undef, undef, undef, undef, undef, undef, undef, undef, undef, undef, undef, undef, undef, undef, undef, undef, undef, undef, undef, undef, undef, undef], defers := [] } w := by
  subst hl
  refine wpAnyH_ready (rs := [11, 25]) (by kernel_rfl) (by simp) ?_
  refine (AllReadyH.cons (o := { dst := some 21, op := .buildSlice 90 3 #[(0, .tmp 20), (1, .const (.int .i64 999999)), (2, .const (.int .i64 0))], type := 90, pos := "l61_draw.go:286", after := #[{ on := 10, ground := .data }], guard := none }) rfl (fun K hK => ?_) (AllReadyH.cons (o := { dst := some 35, op := .call { callee := .value (.func 32), args := #[.tmp 33, .tmp 34], argTypes := #[44, 3] }, type := 24, pos := "l61_draw.go:286", after := #[{ on := 23, ground := .data }, { on := 24, ground := .data }, { on := 22, ground := .chain }], guard := none }) rfl (fun K hK => ?_) AllReadyH.nil))
  · go_simp
    refine hK.out _ _ trivial (fun _ => ?_)
    clear hK K
    (try simp only [pq])
    have o1 : Off rb w (w.alloc (.cells #[.int .i64 k3, .int .i64 999999, .int .i64 0] 3)) := (Off.refl rb w).alloc _
    have D1 := D.alloc (.cells #[.int .i64 k3, .int .i64 999999, .int .i64 0] 3)
    have F1 : Sl3 (w.alloc (.cells #[.int .i64 k3, .int .i64 999999, .int .i64 0] 3)) rb w.heap.size := ⟨lt_of_block (heap_alloc_new w _), by have := D.r.lt; omega, fun m hm => three w k3 999999 0 m hm⟩
    have E1 := E.step o1
    obtain ⟨m4, rfl⟩ : ∃ m4 : Nat, k4 = m4 := ⟨k4.toNat, by omega⟩
    have hm4 : m4 < 3 := by omega
    have i0 := hk4.1
    have i1 := hk4.2
    generalize w.alloc (.cells #[.int .i64 k3, .int .i64 999999, .int .i64 0] 3) = w1 at *
    generalize w.heap.size = s1 at *
    refine wpAnyH_take (i := 14) (oi := { dst := some 24, op := .indexAddr 90 (.tmp 21) (.tmp 23), type := 0, pos := "l61_draw.go:286", after := #[{ on := 11, ground := .data }, { on := 13, ground := .data }], guard := none }) (v := ?_) rfl (by kernel_rfl) (by kernel_rfl) (by kernel_rfl) (fun _ _ _ h => hC _ _ _ _ _ h) (Or.inl ⟨by rfl, ?_⟩) (by assumption) ?_
    rotate_left 1
    · (intro w hSw; (try dsimp only at hSw); go_simp; try with_reducible rfl)
    (try simp only [pq])
    exact dw_6110 hQ hC D1 hp hst E1 F1 hm4 (by first | rfl | kernel_rfl)
  · go_simp
    refine (table_any B rb p st _ D.r (by omega) (Or.inr hst)).mono ?_
    rintro r w1 ⟨ad, cap, T, q, rfl, hnil, hown, -, hT, hq, r1, o1⟩
    have hR : RwT u w1 b2 ad cap T := ⟨own_mono D.o.size hown, hT, own_fresh hown (Or.inl D.x2.lt), hnil⟩
    have D1 := D.step r1 o1
    go_wp2_with fail
    refine hK.out _ _ trivial (fun _ => ?_)
    clear hK K
    (try simp only [pq])
    have E1 := E.step o1
    have hn5 := own_fresh hown (Or.inl E.x.lt)
    exact dw_7100 hQ hC D1 (by omega) hst E1 hk4 hR hn5 (by first | rfl | kernel_rfl)
set_option maxRecDepth 20000 in
set_option maxHeartbeats 4000000 in
theorem dw_7000 {G : Cd} {B : Nat} {rb : Nat} {p : Nat} {b2 : Nat} {cap : Nat} {u : World} {w : World} {fr : Int} {st : Int} {k1 : Int} {k2 : Int} {k3 : Int} {k4 : Int} {k5 : Int} {n2 : Int} {n5 : Int} {n8 : Int} {n17 : Int} {n20 : Int} {x : Int} {y : Int} {z : Int} {e : Int} {ad : Option Addr} {T : List Fc} {Q : Exit → Act → World → Prop} {ls : Array Bool} (hQ : DwQ Q G B rb u b2 fr st) (hC : ∀ (c : List PanicEntry) (d : Option Nat) (v : Value) (a : Act) (w : World), Q (.panic c) (a.put d v) w → Q (.panic c) a w) (D : Dw G B rb p u w b2) (hp : p < 507000) (hst : 0 ≤ st ∧ st ≤ 1) (hk4 : 0 ≤ k4 ∧ k4 < 3) (R : RwT u w b2 ad cap T) (hl : ls = #[true, true, true, true, true, true, true, true, true, true, true, false, true, true, false, false, true, true, true, true, true, true, true, true, true, true, false, false, false]) :
    wpAnyH Tryz.prog .any wops Q (fun _ => True) 6 ls { tmps := #[.pointer (some ⟨rb, 0, none⟩), undef, .pointer (some ⟨b2, 0, none⟩), .int .i64 fr, .int .i64 st, undef, .pointer (some ⟨rb, 0, none⟩), .int .i64 fr, .int .i64 fr, .int .i64 st, .pointer (some ⟨rb, 0, none⟩), .int .i64 k1, .int .i64 n2, .int .i64 fr, .int .i64 st, .int .i64 n5, .pointer (some ⟨rb, 0, none⟩), .int .i64 k2, .int .i64 n8, .pointer (some ⟨rb, 0, none⟩), .int .i64 k3, undef, .pointer (some ⟨rb, 0, none⟩), .int .i64 k4, undef, undef, .int .i64 st, .int .i64 n17, .pointer (some ⟨rb, 0, none⟩), .int .i64 k5, .int .i64 n20, .pointer (some ⟨rb, 0, none⟩), .agg #[.int .i64 x, .int .i64 y, .int .i64 z, .int .i64 e], .pointer (some ⟨rb, 0, none⟩), .int .i64 st, .slice ad T.length cap, undef, undef, undef, undef, undef, undef, undef, undef, undef, undef, undef, undef, undef, undef, undef, undef, undef, undef, undef, undef, undef], defers := [] } w := by
  subst hl
  refine wpAnyH_ready (rs := [11, 27]) (by kernel_rfl) (by simp) ?_
  refine (AllReadyH.cons (o := { dst := some 21, op := .buildSlice 90 3 #[(0, .tmp 20), (1, .const (.int .i64 999999)), (2, .const (.int .i64 0))], type := 90, pos := "l61_draw.go:286", after := #[{ on := 10, ground := .data }], guard := none }) rfl (fun K hK => ?_) (AllReadyH.cons (o := { dst := some 5, op := .alloc 35, type := 0, pos := "l61_draw.go:286", after := #[], guard := none }) rfl (fun K hK => ?_) AllReadyH.nil))
  · go_simp
    refine hK.out _ _ trivial (fun _ => ?_)
    clear hK K
    (try simp only [pq])
    have o1 : Off rb w (w.alloc (.cells #[.int .i64 k3, .int .i64 999999, .int .i64 0] 3)) := (Off.refl rb w).alloc _
    have D1 := D.alloc (.cells #[.int .i64 k3, .int .i64 999999, .int .i64 0] 3)
    have F1 : Sl3 (w.alloc (.cells #[.int .i64 k3, .int .i64 999999, .int .i64 0] 3)) rb w.heap.size := ⟨lt_of_block (heap_alloc_new w _), by have := D.r.lt; omega, fun m hm => three w k3 999999 0 m hm⟩
    obtain ⟨m4, rfl⟩ : ∃ m4 : Nat, k4 = m4 := ⟨k4.toNat, by omega⟩
    have hm4 : m4 < 3 := by omega
    have i0 := hk4.1
    have i1 := hk4.2
    have R1 := R.step o1 D.hr
    generalize w.alloc (.cells #[.int .i64 k3, .int .i64 999999, .int .i64 0] 3) = w1 at *
    generalize w.heap.size = s1 at *
    refine wpAnyH_take (i := 14) (oi := { dst := some 24, op := .indexAddr 90 (.tmp 21) (.tmp 23), type := 0, pos := "l61_draw.go:286", after := #[{ on := 11, ground := .data }, { on := 13, ground := .data }], guard := none }) (v := ?_) rfl (by kernel_rfl) (by kernel_rfl) (by kernel_rfl) (fun _ _ _ h => hC _ _ _ _ _ h) (Or.inl ⟨by rfl, ?_⟩) (by assumption) ?_
    rotate_left 1
    · (intro w hSw; (try dsimp only at hSw); go_simp; try with_reducible rfl)
    (try simp only [pq])
    exact dw_7010 hQ hC D1 hp hst F1 hm4 R1 (by first | rfl | kernel_rfl)
  · go_simp
    refine hK.out _ _ trivial (fun _ => ?_)
    clear hK K
    (try simp only [pq])
    have o1 : Off rb w (w.alloc (.cells #[.int .i64 0, .int .i64 0, .int .i64 0, .int .i64 0, .int .i64 0, .int .i64 0, .int .i64 0, .int .i64 0, .int .i64 0, .int .i64 0, .slice none 0 0] 35)) := (Off.refl rb w).alloc _
    have D1 := D.alloc (.cells #[.int .i64 0, .int .i64 0, .int .i64 0, .int .i64 0, .int .i64 0, .int .i64 0, .int .i64 0, .int .i64 0, .int .i64 0, .int .i64 0, .slice none 0 0] 35)
    have E1 : B5 u (w.alloc (.cells #[.int .i64 0, .int .i64 0, .int .i64 0, .int .i64 0, .int .i64 0, .int .i64 0, .int .i64 0, .int .i64 0, .int .i64 0, .int .i64 0, .slice none 0 0] 35)) rb b2 w.heap.size := ⟨(Ws.new (heap_alloc_new w (.cells #[.int .i64 0, .int .i64 0, .int .i64 0, .int .i64 0, .int .i64 0, .int .i64 0, .int .i64 0, .int .i64 0, .int .i64 0, .int .i64 0, .slice none 0 0] 35)) : Ws _ w.heap.size zW), by have := D.r.lt; omega, by have := D.x2.lt; omega, D.o.size⟩
    have R1 := R.step o1 D.hr
    have hn5 := own_fresh R.o (Or.inr (Nat.le_refl w.heap.size))
    generalize w.alloc (.cells #[.int .i64 0, .int .i64 0, .int .i64 0, .int .i64 0, .int .i64 0, .int .i64 0, .int .i64 0, .int .i64 0, .int .i64 0, .int .i64 0, .slice none 0 0] 35) = w1 at *
    exact dw_7100 hQ hC D1 hp hst E1 hk4 R1 hn5 (by first | rfl | kernel_rfl)
set_option maxRecDepth 20000 in
set_option maxHeartbeats 4000000 in
theorem dw_4011 {G : Cd} {B : Nat} {rb : Nat} {p : Nat} {b2 : Nat} {sl : Nat} {o4 : Nat} {u : World} {w : World} {fr : Int} {st : Int} {k1 : Int} {k2 : Int} {k3 : Int} {k4 : Int} {n2 : Int} {n5 : Int} {n8 : Int} {n17 : Int} {sv : Int} {Q : Exit → Act → World → Prop} {ls : Array Bool} (hQ : DwQ Q G B rb u b2 fr st) (hC : ∀ (c : List PanicEntry) (d : Option Nat) (v : Value) (a : Act) (w : World), Q (.panic c) (a.put d v) w → Q (.panic c) a w) (D : Dw G B rb p u w b2) (hp : p < 504000) (hst : 0 ≤ st ∧ st ≤ 1) (hl : ls = #[true, true, true, true, true, true, true, true, true, true, true, true, true, true, true, true, true, true, true, false, false, true, false, true, true, false, false, false, false]) :
    wpAnyH Tryz.prog .any wops Q (fun _ => True) 7 ls { tmps := #[.pointer (some ⟨rb, 0, none⟩), undef, .pointer (some ⟨b2, 0, none⟩), .int .i64 fr, .int .i64 st, undef, .pointer (some ⟨rb, 0, none⟩), .int .i64 fr, .int .i64 fr, .int .i64 st, .pointer (some ⟨rb, 0, none⟩), .int .i64 k1, .int .i64 n2, .int .i64 fr, .int .i64 st, .int .i64 n5, .pointer (some ⟨rb, 0, none⟩), .int .i64 k2, .int .i64 n8, .pointer (some ⟨rb, 0, none⟩), .int .i64 k3, .slice (some ⟨sl, 0, none⟩) 3 3, .pointer (some ⟨rb, 0, none⟩), .int .i64 k4, .pointer (some ⟨sl, o4, none⟩), .int .i64 sv, .int .i64 st, .int .i64 n17, .pointer (some ⟨rb, 0, none⟩), undef, undef, .pointer (some ⟨rb, 0, none⟩), undef, .pointer (some ⟨rb, 0, none⟩), .int .i64 st, undef, undef, undef, undef, undef, undef, undef, undef, undef, undef, undef, undef, undef, undef, undef, undef, undef, undef, undef, undef, undef, undef], defers := [] } w := by
  subst hl
  refine wpAnyH_ready (rs := [19, 27]) (by kernel_rfl) (by simp) ?_
  refine (AllReadyH.cons (o := { dst := some 29, op := .call { callee := .value (.func 29), args := #[.tmp 28, .const (.int .i64 4)], argTypes := #[44, 3] }, type := 3, pos := "l61_draw.go:286", after := #[{ on := 18, ground := .data }, { on := 13, ground := .chain }], guard := none }) rfl (fun K hK => ?_) (AllReadyH.cons (o := { dst := some 5, op := .alloc 35, type := 0, pos := "l61_draw.go:286", after := #[], guard := none }) rfl (fun K hK => ?_) AllReadyH.nil))
  · go_simp
    refine (pick_any B rb p 4 _ D.r (by omega)).mono ?_
    rintro r w1 ⟨rfl, hk, r1, o1'⟩
    have o1 := o1'.off
    generalize G.pk p 4 = k5 at *
    have D1 := D.step r1 o1
    go_wp2_with fail
    refine hK.out _ _ trivial (fun _ => ?_)
    clear hK K
    (try simp only [pq])
    refine wpAnyH_take (i := 20) (oi := { dst := some 30, op := .binOp .add 3 (.tmp 27) (.tmp 29) 3, type := 3, pos := "l61_draw.go:286", after := #[{ on := 17, ground := .data }, { on := 19, ground := .data }], guard := none }) (v := ?_) rfl (by kernel_rfl) (by kernel_rfl) (by kernel_rfl) (fun _ _ _ h => hC _ _ _ _ _ h) (Or.inl ⟨by rfl, ?_⟩) (by assumption) ?_
    rotate_left 1
    · (intro w hSw; (try dsimp only at hSw); go_simp; try with_reducible rfl)
    (try simp only [pq])
    exact dw_5011 hQ hC D1 (by omega) hst (by first | rfl | kernel_rfl)
  · go_simp
    refine hK.out _ _ trivial (fun _ => ?_)
    clear hK K
    (try simp only [pq])
    have o1 : Off rb w (w.alloc (.cells #[.int .i64 0, .int .i64 0, .int .i64 0, .int .i64 0, .int .i64 0, .int .i64 0, .int .i64 0, .int .i64 0, .int .i64 0, .int .i64 0, .slice none 0 0] 35)) := (Off.refl rb w).alloc _
    have D1 := D.alloc (.cells #[.int .i64 0, .int .i64 0, .int .i64 0, .int .i64 0, .int .i64 0, .int .i64 0, .int .i64 0, .int .i64 0, .int .i64 0, .int .i64 0, .slice none 0 0] 35)
    have E1 : B5 u (w.alloc (.cells #[.int .i64 0, .int .i64 0, .int .i64 0, .int .i64 0, .int .i64 0, .int .i64 0, .int .i64 0, .int .i64 0, .int .i64 0, .int .i64 0, .slice none 0 0] 35)) rb b2 w.heap.size := ⟨(Ws.new (heap_alloc_new w (.cells #[.int .i64 0, .int .i64 0, .int .i64 0, .int .i64 0, .int .i64 0, .int .i64 0, .int .i64 0, .int .i64 0, .int .i64 0, .int .i64 0, .slice none 0 0] 35)) : Ws _ w.heap.size zW), by have := D.r.lt; omega, by have := D.x2.lt; omega, D.o.size⟩
    generalize w.alloc (.cells #[.int .i64 0, .int .i64 0, .int .i64 0, .int .i64 0, .int .i64 0, .int .i64 0, .int .i64 0, .int .i64 0, .int .i64 0, .int .i64 0, .slice none 0 0] 35) = w1 at *
    exact dw_4111 hQ hC D1 hp hst E1 (by first | rfl | kernel_rfl)
set_option maxRecDepth 20000 in
set_option maxHeartbeats 4000000 in
theorem dw_4110 {G : Cd} {B : Nat} {rb : Nat} {p : Nat} {b2 : Nat} {b5 : Nat} {sl : Nat} {o4 : Nat} {u : World} {w : World} {fr : Int} {st : Int} {k1 : Int} {k2 : Int} {k3 : Int} {k4 : Int} {n2 : Int} {n5 : Int} {n8 : Int} {n17 : Int} {Q : Exit → Act → World → Prop} {ls : Array Bool} (hQ : DwQ Q G B rb u b2 fr st) (hC : ∀ (c : List PanicEntry) (d : Option Nat) (v : Value) (a : Act) (w : World), Q (.panic c) (a.put d v) w → Q (.panic c) a w) (D : Dw G B rb p u w b2) (hp : p < 504000) (hst : 0 ≤ st ∧ st ≤ 1) (E : B5 u w rb b2 b5) (F : Sl3 w rb sl) (ho4 : o4 < 3) (hl : ls = #[true, true, true, true, true, true, true, true, true, true, true, true, true, true, true, false, true, true, true, false, false, true, false, true, true, false, false, true, false]) :
    wpAnyH Tryz.prog .any wops Q (fun _ => True) 7 ls { tmps := #[.pointer (some ⟨rb, 0, none⟩), undef, .pointer (some ⟨b2, 0, none⟩), .int .i64 fr, .int .i64 st, .pointer (some ⟨b5, 0, none⟩), .pointer (some ⟨rb, 0, none⟩), .int .i64 fr, .int .i64 fr, .int .i64 st, .pointer (some ⟨rb, 0, none⟩), .int .i64 k1, .int .i64 n2, .int .i64 fr, .int .i64 st, .int .i64 n5, .pointer (some ⟨rb, 0, none⟩), .int .i64 k2, .int .i64 n8, .pointer (some ⟨rb, 0, none⟩), .int .i64 k3, .slice (some ⟨sl, 0, none⟩) 3 3, .pointer (some ⟨rb, 0, none⟩), .int .i64 k4, .pointer (some ⟨sl, o4, none⟩), undef, .int .i64 st, .int .i64 n17, .pointer (some ⟨rb, 0, none⟩), undef, undef, .pointer (some ⟨rb, 0, none⟩), undef, .pointer (some ⟨rb, 0, none⟩), .int .i64 st, undef, undef, undef, undef, undef, undef, undef, undef, undef, undef, undef, undef, undef, undef, undef, undef, undef, undef, undef, undef, undef, undef], defers := [] } w := by
  subst hl
  refine wpAnyH_ready (rs := [15, 19]) (by kernel_rfl) (by simp) ?_
  refine (AllReadyH.cons (o := { dst := some 25, op := .load 3 (.tmp 24), type := 3, pos := "l61_draw.go:286", after := #[{ on := 14, ground := .data }], guard := none }) rfl (fun K hK => ?_) (AllReadyH.cons (o := { dst := some 29, op := .call { callee := .value (.func 29), args := #[.tmp 28, .const (.int .i64 4)], argTypes := #[44, 3] }, type := 3, pos := "l61_draw.go:286", after := #[{ on := 18, ground := .data }, { on := 13, ground := .chain }], guard := none }) rfl (fun K hK => ?_) AllReadyH.nil))
  · obtain ⟨sv, hsv⟩ := F.c o4 ho4
    go_simp
    refine hK.out _ _ trivial (fun _ => ?_)
    clear hK K
    (try simp only [pq])
    exact dw_4111 hQ hC D hp hst E (by first | rfl | kernel_rfl)
  · go_simp
    refine (pick_any B rb p 4 _ D.r (by omega)).mono ?_
    rintro r w1 ⟨rfl, hk, r1, o1'⟩
    have o1 := o1'.off
    generalize G.pk p 4 = k5 at *
    have D1 := D.step r1 o1
    go_wp2_with fail
    refine hK.out _ _ trivial (fun _ => ?_)
    clear hK K
    (try simp only [pq])
    have E1 := E.step o1
    have F1 := F.step o1
    refine wpAnyH_take (i := 20) (oi := { dst := some 30, op := .binOp .add 3 (.tmp 27) (.tmp 29) 3, type := 3, pos := "l61_draw.go:286", after := #[{ on := 17, ground := .data }, { on := 19, ground := .data }], guard := none }) (v := ?_) rfl (by kernel_rfl) (by kernel_rfl) (by kernel_rfl) (fun _ _ _ h => hC _ _ _ _ _ h) (Or.inl ⟨by rfl, ?_⟩) (by assumption) ?_
    rotate_left 1
    · (intro w hSw; (try dsimp only at hSw); go_simp; try with_reducible rfl)
    (try simp only [pq])
    exact dw_5110 hQ hC D1 (by omega) hst E1 F1 ho4 (by first | rfl | kernel_rfl)
set_option maxRecDepth 20000 in
set_option maxHeartbeats 4000000 in
theorem dw_5010 {G : Cd} {B : Nat} {rb : Nat} {p : Nat} {b2 : Nat} {sl : Nat} {o4 : Nat} {u : World} {w : World} {fr : Int} {st : Int} {k1 : Int} {k2 : Int} {k3 : Int} {k4 : Int} {k5 : Int} {n2 : Int} {n5 : Int} {n8 : Int} {n17 : Int} {n20 : Int} {Q : Exit → Act → World → Prop} {ls : Array Bool} (hQ : DwQ Q G B rb u b2 fr st) (hC : ∀ (c : List PanicEntry) (d : Option Nat) (v : Value) (a : Act) (w : World), Q (.panic c) (a.put d v) w → Q (.panic c) a w) (D : Dw G B rb p u w b2) (hp : p < 505000) (hst : 0 ≤ st ∧ st ≤ 1) (F : Sl3 w rb sl) (ho4 : o4 < 3) (hl : ls = #[true, true, true, true, true, true, true, true, true, true, true, true, true, true, true, false, true, true, true, true, true, true, false, true, true, false, false, false, false]) :
    wpAnyH Tryz.prog .any wops Q (fun _ => True) 6 ls { tmps := #[.pointer (some ⟨rb, 0, none⟩), undef, .pointer (some ⟨b2, 0, none⟩), .int .i64 fr, .int .i64 st, undef, .pointer (some ⟨rb, 0, none⟩), .int .i64 fr, .int .i64 fr, .int .i64 st, .pointer (some ⟨rb, 0, none⟩), .int .i64 k1, .int .i64 n2, .int .i64 fr, .int .i64 st, .int .i64 n5, .pointer (some ⟨rb, 0, none⟩), .int .i64 k2, .int .i64 n8, .pointer (some ⟨rb, 0, none⟩), .int .i64 k3, .slice (some ⟨sl, 0, none⟩) 3 3, .pointer (some ⟨rb, 0, none⟩), .int .i64 k4, .pointer (some ⟨sl, o4, none⟩), undef, .int .i64 st, .int .i64 n17, .pointer (some ⟨rb, 0, none⟩), .int .i64 k5, .int .i64 n20, .pointer (some ⟨rb, 0, none⟩), undef, .pointer (some ⟨rb, 0, none⟩), .int .i64 st, undef, undef, undef, undef, undef, undef, undef, undef, undef, undef, undef, undef, undef, undef, undef, undef, undef, undef, undef, undef, undef, undef], defers := [] } w := by
  subst hl
  refine wpAnyH_ready (rs := [15, 22, 27]) (by kernel_rfl) (by simp) ?_
  refine (AllReadyH.cons (o := { dst := some 25, op := .load 3 (.tmp 24), type := 3, pos := "l61_draw.go:286", after := #[{ on := 14, ground := .data }], guard := none }) rfl (fun K hK => ?_) (AllReadyH.cons (o := { dst := some 32, op := .call { callee := .value (.func 83), args := #[.tmp 31], argTypes := #[44] }, type := 33, pos := "l61_draw.go:286", after := #[{ on := 21, ground := .data }, { on := 19, ground := .chain }], guard := none }) rfl (fun K hK => ?_) (AllReadyH.cons (o := { dst := some 5, op := .alloc 35, type := 0, pos := "l61_draw.go:286", after := #[], guard := none }) rfl (fun K hK => ?_) AllReadyH.nil)))
  · obtain ⟨sv, hsv⟩ := F.c o4 ho4
    go_simp
    refine hK.out _ _ trivial (fun _ => ?_)
    clear hK K
    (try simp only [pq])
    exact dw_5011 hQ hC D hp hst (by first | rfl | kernel_rfl)
  · go_simp
    refine (coord_any B rb p _ D.r (by omega)).mono ?_
    rintro r w1 ⟨x, y, z, e, q, rfl, hq, r1, o1⟩
    have D1 := D.step r1 o1
    go_wp2_with fail
    refine hK.out _ _ trivial (fun _ => ?_)
    clear hK K
    (try simp only [pq])
    have F1 := F.step o1
    exact dw_6010 hQ hC D1 (by omega) hst F1 ho4 (by first | rfl | kernel_rfl)
  · go_simp
    refine hK.out _ _ trivial (fun _ => ?_)
    clear hK K
    (try simp only [pq])
    have o1 : Off rb w (w.alloc (.cells #[.int .i64 0, .int .i64 0, .int .i64 0, .int .i64 0, .int .i64 0, .int .i64 0, .int .i64 0, .int .i64 0, .int .i64 0, .int .i64 0, .slice none 0 0] 35)) := (Off.refl rb w).alloc _
    have D1 := D.alloc (.cells #[.int .i64 0, .int .i64 0, .int .i64 0, .int .i64 0, .int .i64 0, .int .i64 0, .int .i64 0, .int .i64 0, .int .i64 0, .int .i64 0, .slice none 0 0] 35)
    have E1 : B5 u (w.alloc (.cells #[.int .i64 0, .int .i64 0, .int .i64 0, .int .i64 0, .int .i64 0, .int .i64 0, .int .i64 0, .int .i64 0, .int .i64 0, .int .i64 0, .slice none 0 0] 35)) rb b2 w.heap.size := ⟨(Ws.new (heap_alloc_new w (.cells #[.int .i64 0, .int .i64 0, .int .i64 0, .int .i64 0, .int .i64 0, .int .i64 0, .int .i64 0, .int .i64 0, .int .i64 0, .int .i64 0, .slice none 0 0] 35)) : Ws _ w.heap.size zW), by have := D.r.lt; omega, by have := D.x2.lt; omega, D.o.size⟩
    have F1 := F.step o1
    generalize w.alloc (.cells #[.int .i64 0, .int .i64 0, .int .i64 0, .int .i64 0, .int .i64 0, .int .i64 0, .int .i64 0, .int .i64 0, .int .i64 0, .int .i64 0, .slice none 0 0] 35) = w1 at *
    exact dw_5110 hQ hC D1 hp hst E1 F1 ho4 (by first | rfl | kernel_rfl)
set_option maxRecDepth 20000 in
set_option maxHeartbeats 4000000 in
theorem dw_5100 {G : Cd} {B : Nat} {rb : Nat} {p : Nat} {b2 : Nat} {b5 : Nat} {u : World} {w : World} {fr : Int} {st : Int} {k1 : Int} {k2 : Int} {k3 : Int} {k4 : Int} {k5 : Int} {n2 : Int} {n5 : Int} {n8 : Int} {n17 : Int} {n20 : Int} {Q : Exit → Act → World → Prop} {ls : Array Bool} (hQ : DwQ Q G B rb u b2 fr st) (hC : ∀ (c : List PanicEntry) (d : Option Nat) (v : Value) (a : Act) (w : World), Q (.panic c) (a.put d v) w → Q (.panic c) a w) (D : Dw G B rb p u w b2) (hp : p < 505000) (hst : 0 ≤ st ∧ st ≤ 1) (E : B5 u w rb b2 b5) (hk4 : 0 ≤ k4 ∧ k4 < 3) (hl : ls = #[true, true, true, true, true, true, true, true, true, true, true, false, true, true, false, false, true, true, true, true, true, true, false, true, true, false, false, true, false]) :
    wpAnyH Tryz.prog .any wops Q (fun _ => True) 7 ls { tmps := #[.pointer (some ⟨rb, 0, none⟩), undef, .pointer (some ⟨b2, 0, none⟩), .int .i64 fr, .int .i64 st, .pointer (some ⟨b5, 0, none⟩), .pointer (some ⟨rb, 0, none⟩), .int .i64 fr, .int .i64 fr, .int .i64 st, .pointer (some ⟨rb, 0, none⟩), .int .i64 k1, .int .i64 n2, .int .i64 fr, .int .i64 st, .int .i64 n5, .pointer (some ⟨rb, 0, none⟩), .int .i64 k2, .int .i64 n8, .pointer (some ⟨rb, 0, none⟩), .int .i64 k3, undef, .pointer (some ⟨rb, 0, none⟩), .int .i64 k4, undef, undef, .int .i64 st, .int .i64 n17, .pointer (some ⟨rb, 0, none⟩), .int .i64 k5, .int .i64 n20, .pointer (some ⟨rb, 0, none⟩), undef, .pointer (some ⟨rb, 0, none⟩), .int .i64 st, undef, undef, undef, undef, undef, undef, undef, undef, undef, undef, undef, undef, undef, undef, undef, undef, undef, undef, undef, undef, undef, undef], defers := [] } w := by
  subst hl
  refine wpAnyH_ready (rs := [11, 22]) (by kernel_rfl) (by simp) ?_
  refine (AllReadyH.cons (o := { dst := some 21, op := .buildSlice 90 3 #[(0, .tmp 20), (1, .const (.int .i64 999999)), (2, .const (.int .i64 0))], type := 90, pos := "l61_draw.go:286", after := #[{ on := 10, ground := .data }], guard := none }) rfl (fun K hK => ?_) (AllReadyH.cons (o := { dst := some 32, op := .call { callee := .value (.func 83), args := #[.tmp 31], argTypes := #[44] }, type := 33, pos := "l61_draw.go:286", after := #[{ on := 21, ground := .data }, { on := 19, ground := .chain }], guard := none }) rfl (fun K hK => ?_) AllReadyH.nil))
  · go_simp
    refine hK.out _ _ trivial (fun _ => ?_)
    clear hK K
    (try simp only [pq])
    have o1 : Off rb w (w.alloc (.cells #[.int .i64 k3, .int .i64 999999, .int .i64 0] 3)) := (Off.refl rb w).alloc _
    have D1 := D.alloc (.cells #[.int .i64 k3, .int .i64 999999, .int .i64 0] 3)
    have F1 : Sl3 (w.alloc (.cells #[.int .i64 k3, .int .i64 999999, .int .i64 0] 3)) rb w.heap.size := ⟨lt_of_block (heap_alloc_new w _), by have := D.r.lt; omega, fun m hm => three w k3 999999 0 m hm⟩
    have E1 := E.step o1
    obtain ⟨m4, rfl⟩ : ∃ m4 : Nat, k4 = m4 := ⟨k4.toNat, by omega⟩
    have hm4 : m4 < 3 := by omega
    have i0 := hk4.1
    have i1 := hk4.2
    generalize w.alloc (.cells #[.int .i64 k3, .int .i64 999999, .int .i64 0] 3) = w1 at *
    generalize w.heap.size = s1 at *
    refine wpAnyH_take (i := 14) (oi := { dst := some 24, op := .indexAddr 90 (.tmp 21) (.tmp 23), type := 0, pos := "l61_draw.go:286", after := #[{ on := 11, ground := .data }, { on := 13, ground := .data }], guard := none }) (v := ?_) rfl (by kernel_rfl) (by kernel_rfl) (by kernel_rfl) (fun _ _ _ h => hC _ _ _ _ _ h) (Or.inl ⟨by rfl, ?_⟩) (by assumption) ?_
    rotate_left 1
    · (intro w hSw; (try dsimp only at hSw); go_simp; try with_reducible rfl)
    (try simp only [pq])
    exact dw_5110 hQ hC D1 hp hst E1 F1 hm4 (by first | rfl | kernel_rfl)
  · go_simp
    refine (coord_any B rb p _ D.r (by omega)).mono ?_
    rintro r w1 ⟨x, y, z, e, q, rfl, hq, r1, o1⟩
    have D1 := D.step r1 o1
    go_wp2_with fail
    refine hK.out _ _ trivial (fun _ => ?_)
    clear hK K
    (try simp only [pq])
    have E1 := E.step o1
    exact dw_6100 hQ hC D1 (by omega) hst E1 hk4 (by first | rfl | kernel_rfl)
set_option maxRecDepth 20000 in
set_option maxHeartbeats 4000000 in
theorem dw_6000 {G : Cd} {B : Nat} {rb : Nat} {p : Nat} {b2 : Nat} {u : World} {w : World} {fr : Int} {st : Int} {k1 : Int} {k2 : Int} {k3 : Int} {k4 : Int} {k5 : Int} {n2 : Int} {n5 : Int} {n8 : Int} {n17 : Int} {n20 : Int} {x : Int} {y : Int} {z : Int} {e : Int} {Q : Exit → Act → World → Prop} {ls : Array Bool} (hQ : DwQ Q G B rb u b2 fr st) (hC : ∀ (c : List PanicEntry) (d : Option Nat) (v : Value) (a : Act) (w : World), Q (.panic c) (a.put d v) w → Q (.panic c) a w) (D : Dw G B rb p u w b2) (hp : p < 506000) (hst : 0 ≤ st ∧ st ≤ 1) (hk4 : 0 ≤ k4 ∧ k4 < 3) (hl : ls = #[true, true, true, true, true, true, true, true, true, true, true, false, true, true, false, false, true, true, true, true, true, true, true, true, true, false, false, false, false]) :
    wpAnyH Tryz.prog .any wops Q (fun _ => True) 7 ls { tmps := #[.pointer (some ⟨rb, 0, none⟩), undef, .pointer (some ⟨b2, 0, none⟩), .int .i64 fr, .int .i64 st, undef, .pointer (some ⟨rb, 0, none⟩), .int .i64 fr, .int .i64 fr, .int .i64 st, .pointer (some ⟨rb, 0, none⟩), .int .i64 k1, .int .i64 n2, .int .i64 fr, .int .i64 st, .int .i64 n5, .pointer (some ⟨rb, 0, none⟩), .int .i64 k2, .int .i64 n8, .pointer (some ⟨rb, 0, none⟩), .int .i64 k3, undef, .pointer (some ⟨rb, 0, none⟩), .int .i64 k4, undef, undef, .int .i64 st, .int .i64 n17, .pointer (some ⟨rb, 0, none⟩), .int .i64 k5, .int .i64 n20, .pointer (some ⟨rb, 0, none⟩), .agg #[.int .i64 x, .int .i64 y, .int .i64 z, .int .i64 e], .pointer (some ⟨rb, 0, none⟩), .int .i64 st, undef, undef, undef, undef, undef, undef, undef, undef, undef, undef, undef, undef, undef, undef, undef, undef, undef, undef, undef, undef, undef, undef], defers := [] } w := by
  subst hl
  refine wpAnyH_ready (rs := [11, 25, 27]) (by kernel_rfl) (by simp) ?_
  refine (AllReadyH.cons (o := { dst := some 21, op := .buildSlice 90 3 #[(0, .tmp 20), (1, .const (.int .i64 999999)), (2, .const (.int .i64 0))], type := 90, pos := "l61_draw.go:286", after := #[{ on := 10, ground := .data }], guard := none }) rfl (fun K hK => ?_) (AllReadyH.cons (o := { dst := some 35, op := .call { callee := .value (.func 32), args := #[.tmp 33, .tmp 34], argTypes := #[44, 3] }, type := 24, pos := "l61_draw.go:286", after := #[{ on := 23, ground := .data }, { on := 24, ground := .data }, { on := 22, ground := .chain }], guard := none }) rfl (fun K hK => ?_) (AllReadyH.cons (o := { dst := some 5, op := .alloc 35, type := 0, pos := "l61_draw.go:286", after := #[], guard := none }) rfl (fun K hK => ?_) AllReadyH.nil)))
  · go_simp
    refine hK.out _ _ trivial (fun _ => ?_)
    clear hK K
    (try simp only [pq])
    have o1 : Off rb w (w.alloc (.cells #[.int .i64 k3, .int .i64 999999, .int .i64 0] 3)) := (Off.refl rb w).alloc _
    have D1 := D.alloc (.cells #[.int .i64 k3, .int .i64 999999, .int .i64 0] 3)
    have F1 : Sl3 (w.alloc (.cells #[.int .i64 k3, .int .i64 999999, .int .i64 0] 3)) rb w.heap.size := ⟨lt_of_block (heap_alloc_new w _), by have := D.r.lt; omega, fun m hm => three w k3 999999 0 m hm⟩
    obtain ⟨m4, rfl⟩ : ∃ m4 : Nat, k4 = m4 := ⟨k4.toNat, by omega⟩
    have hm4 : m4 < 3 := by omega
    have i0 := hk4.1
    have i1 := hk4.2
    generalize w.alloc (.cells #[.int .i64 k3, .int .i64 999999, .int .i64 0] 3) = w1 at *
    generalize w.heap.size = s1 at *
    refine wpAnyH_take (i := 14) (oi := { dst := some 24, op := .indexAddr 90 (.tmp 21) (.tmp 23), type := 0, pos := "l61_draw.go:286", after := #[{ on := 11, ground := .data }, { on := 13, ground := .data }], guard := none }) (v := ?_) rfl (by kernel_rfl) (by kernel_rfl) (by kernel_rfl) (fun _ _ _ h => hC _ _ _ _ _ h) (Or.inl ⟨by rfl, ?_⟩) (by assumption) ?_
    rotate_left 1
    · (intro w hSw; (try dsimp only at hSw); go_simp; try with_reducible rfl)
    (try simp only [pq])
    exact dw_6010 hQ hC D1 hp hst F1 hm4 (by first | rfl | kernel_rfl)
  · go_simp
    refine (table_any B rb p st _ D.r (by omega) (Or.inr hst)).mono ?_
    rintro r w1 ⟨ad, cap, T, q, rfl, hnil, hown, -, hT, hq, r1, o1⟩
    have hR : RwT u w1 b2 ad cap T := ⟨own_mono D.o.size hown, hT, own_fresh hown (Or.inl D.x2.lt), hnil⟩
    have D1 := D.step r1 o1
    go_wp2_with fail
    refine hK.out _ _ trivial (fun _ => ?_)
    clear hK K
    (try simp only [pq])
    exact dw_7000 hQ hC D1 (by omega) hst hk4 hR (by first | rfl | kernel_rfl)
  · go_simp
    refine hK.out _ _ trivial (fun _ => ?_)
    clear hK K
    (try simp only [pq])
    have o1 : Off rb w (w.alloc (.cells #[.int .i64 0, .int .i64 0, .int .i64 0, .int .i64 0, .int .i64 0, .int .i64 0, .int .i64 0, .int .i64 0, .int .i64 0, .int .i64 0, .slice none 0 0] 35)) := (Off.refl rb w).alloc _
    have D1 := D.alloc (.cells #[.int .i64 0, .int .i64 0, .int .i64 0, .int .i64 0, .int .i64 0, .int .i64 0, .int .i64 0, .int .i64 0, .int .i64 0, .int .i64 0, .slice none 0 0] 35)
    have E1 : B5 u (w.alloc (.cells #[.int .i64 0, .int .i64 0, .int .i64 0, .int .i64 0, .int .i64 0, .int .i64 0, .int .i64 0, .int .i64 0, .int .i64 0, .int .i64 0, .slice none 0 0] 35)) rb b2 w.heap.size := ⟨(Ws.new (heap_alloc_new w (.cells #[.int .i64 0, .int .i64 0, .int .i64 0, .int .i64 0, .int .i64 0, .int .i64 0, .int .i64 0, .int .i64 0, .int .i64 0, .int .i64 0, .slice none 0 0] 35)) : Ws _ w.heap.size zW), by have := D.r.lt; omega, by have := D.x2.lt; omega, D.o.size⟩
    generalize w.alloc (.cells #[.int .i64 0, .int .i64 0, .int .i64 0, .int .i64 0, .int .i64 0, .int .i64 0, .int .i64 0, .int .i64 0, .int .i64 0, .int .i64 0, .slice none 0 0] 35) = w1 at *
    exact dw_6100 hQ hC D1 hp hst E1 hk4 (by first | rfl | kernel_rfl)
set_option maxRecDepth 20000 in
set_option maxHeartbeats 4000000 in
theorem dw_3110 {G : Cd} {B : Nat} {rb : Nat} {p : Nat} {b2 : Nat} {b5 : Nat} {sl : Nat} {u : World} {w : World} {fr : Int} {st : Int} {k1 : Int} {k2 : Int} {k3 : Int} {n2 : Int} {n5 : Int} {n8 : Int} {n17 : Int} {Q : Exit → Act → World → Prop} {ls : Array Bool} (hQ : DwQ Q G B rb u b2 fr st) (hC : ∀ (c : List PanicEntry) (d : Option Nat) (v : Value) (a : Act) (w : World), Q (.panic c) (a.put d v) w → Q (.panic c) a w) (D : Dw G B rb p u w b2) (hp : p < 503000) (hst : 0 ≤ st ∧ st ≤ 1) (E : B5 u w rb b2 b5) (F : Sl3 w rb sl) (hl : ls = #[true, true, true, true, true, true, true, true, true, true, true, true, true, false, false, false, true, true, true, false, false, true, false, true, true, false, false, true, false]) :
    wpAnyH Tryz.prog .any wops Q (fun _ => True) 9 ls { tmps := #[.pointer (some ⟨rb, 0, none⟩), undef, .pointer (some ⟨b2, 0, none⟩), .int .i64 fr, .int .i64 st, .pointer (some ⟨b5, 0, none⟩), .pointer (some ⟨rb, 0, none⟩), .int .i64 fr, .int .i64 fr, .int .i64 st, .pointer (some ⟨rb, 0, none⟩), .int .i64 k1, .int .i64 n2, .int .i64 fr, .int .i64 st, .int .i64 n5, .pointer (some ⟨rb, 0, none⟩), .int .i64 k2, .int .i64 n8, .pointer (some ⟨rb, 0, none⟩), .int .i64 k3, .slice (some ⟨sl, 0, none⟩) 3 3, .pointer (some ⟨rb, 0, none⟩), undef, undef, undef, .int .i64 st, .int .i64 n17, .pointer (some ⟨rb, 0, none⟩), undef, undef, .pointer (some ⟨rb, 0, none⟩), undef, .pointer (some ⟨rb, 0, none⟩), .int .i64 st, undef, undef, undef, undef, undef, undef, undef, undef, undef, undef, undef, undef, undef, undef, undef, undef, undef, undef, undef, undef, undef, undef], defers := [] } w := by
  subst hl
  refine wpAnyH_ready (rs := [13]) (by kernel_rfl) (by simp) ?_
  refine (AllReadyH.cons (o := { dst := some 23, op := .call { callee := .value (.func 29), args := #[.tmp 22, .const (.int .i64 3)], argTypes := #[44, 3] }, type := 3, pos := "l61_draw.go:286", after := #[{ on := 12, ground := .data }, { on := 10, ground := .chain }], guard := none }) rfl (fun K hK => ?_) AllReadyH.nil)
  · go_simp
    refine (pick_any B rb p 3 _ D.r (by omega)).mono ?_
    rintro r w1 ⟨rfl, hk, r1, o1'⟩
    have o1 := o1'.off
    generalize G.pk p 3 = k4 at *
    obtain ⟨m4, rfl⟩ : ∃ m4 : Nat, k4 = m4 := ⟨k4.toNat, by omega⟩
    have hm4 : m4 < 3 := by omega
    have hk4 : (0 : Int) ≤ (m4 : Int) ∧ (m4 : Int) < 3 := ⟨by omega, by omega⟩
    have i0 := hk4.1
    have i1 := hk4.2
    have D1 := D.step r1 o1
    go_wp2_with fail
    refine hK.out _ _ trivial (fun _ => ?_)
    clear hK K
    (try simp only [pq])
    have E1 := E.step o1
    have F1 := F.step o1
    refine wpAnyH_take (i := 14) (oi := { dst := some 24, op := .indexAddr 90 (.tmp 21) (.tmp 23), type := 0, pos := "l61_draw.go:286", after := #[{ on := 11, ground := .data }, { on := 13, ground := .data }], guard := none }) (v := ?_) rfl (by kernel_rfl) (by kernel_rfl) (by kernel_rfl) (fun _ _ _ h => hC _ _ _ _ _ h) (Or.inl ⟨by rfl, ?_⟩) (by assumption) ?_
    rotate_left 1
    · (intro w hSw; (try dsimp only at hSw); go_simp; try with_reducible rfl)
    (try simp only [pq])
    exact dw_4110 hQ hC D1 (by omega) hst E1 F1 hm4 (by first | rfl | kernel_rfl)
set_option maxRecDepth 20000 in
set_option maxHeartbeats 4000000 in
theorem dw_4010 {G : Cd} {B : Nat} {rb : Nat} {p : Nat} {b2 : Nat} {sl : Nat} {o4 : Nat} {u : World} {w : World} {fr : Int} {st : Int} {k1 : Int} {k2 : Int} {k3 : Int} {k4 : Int} {n2 : Int} {n5 : Int} {n8 : Int} {n17 : Int} {Q : Exit → Act → World → Prop} {ls : Array Bool} (hQ : DwQ Q G B rb u b2 fr st) (hC : ∀ (c : List PanicEntry) (d : Option Nat) (v : Value) (a : Act) (w : World), Q (.panic c) (a.put d v) w → Q (.panic c) a w) (D : Dw G B rb p u w b2) (hp : p < 504000) (hst : 0 ≤ st ∧ st ≤ 1) (F : Sl3 w rb sl) (ho4 : o4 < 3) (hl : ls = #[true, true, true, true, true, true, true, true, true, true, true, true, true, true, true, false, true, true, true, false, false, true, false, true, true, false, false, false, false]) :
    wpAnyH Tryz.prog .any wops Q (fun _ => True) 8 ls { tmps := #[.pointer (some ⟨rb, 0, none⟩), undef, .pointer (some ⟨b2, 0, none⟩), .int .i64 fr, .int .i64 st, undef, .pointer (some ⟨rb, 0, none⟩), .int .i64 fr, .int .i64 fr, .int .i64 st, .pointer (some ⟨rb, 0, none⟩), .int .i64 k1, .int .i64 n2, .int .i64 fr, .int .i64 st, .int .i64 n5, .pointer (some ⟨rb, 0, none⟩), .int .i64 k2, .int .i64 n8, .pointer (some ⟨rb, 0, none⟩), .int .i64 k3, .slice (some ⟨sl, 0, none⟩) 3 3, .pointer (some ⟨rb, 0, none⟩), .int .i64 k4, .pointer (some ⟨sl, o4, none⟩), undef, .int .i64 st, .int .i64 n17, .pointer (some ⟨rb, 0, none⟩), undef, undef, .pointer (some ⟨rb, 0, none⟩), undef, .pointer (some ⟨rb, 0, none⟩), .int .i64 st, undef, undef, undef, undef, undef, undef, undef, undef, undef, undef, undef, undef, undef, undef, undef, undef, undef, undef, undef, undef, undef, undef], defers := [] } w := by
  subst hl
  refine wpAnyH_ready (rs := [15, 19, 27]) (by kernel_rfl) (by simp) ?_
  refine (AllReadyH.cons (o := { dst := some 25, op := .load 3 (.tmp 24), type := 3, pos := "l61_draw.go:286", after := #[{ on := 14, ground := .data }], guard := none }) rfl (fun K hK => ?_) (AllReadyH.cons (o := { dst := some 29, op := .call { callee := .value (.func 29), args := #[.tmp 28, .const (.int .i64 4)], argTypes := #[44, 3] }, type := 3, pos := "l61_draw.go:286", after := #[{ on := 18, ground := .data }, { on := 13, ground := .chain }], guard := none }) rfl (fun K hK => ?_) (AllReadyH.cons (o := { dst := some 5, op := .alloc 35, type := 0, pos := "l61_draw.go:286", after := #[], guard := none }) rfl (fun K hK => ?_) AllReadyH.nil)))
  · obtain ⟨sv, hsv⟩ := F.c o4 ho4
    go_simp
    refine hK.out _ _ trivial (fun _ => ?_)
    clear hK K
    (try simp only [pq])
    exact dw_4011 hQ hC D hp hst (by first | rfl | kernel_rfl)
  · go_simp
    refine (pick_any B rb p 4 _ D.r (by omega)).mono ?_
    rintro r w1 ⟨rfl, hk, r1, o1'⟩
    have o1 := o1'.off
    generalize G.pk p 4 = k5 at *
    have D1 := D.step r1 o1
    go_wp2_with fail
    refine hK.out _ _ trivial (fun _ => ?_)
    clear hK K
    (try simp only [pq])
    have F1 := F.step o1
    refine wpAnyH_take (i := 20) (oi := { dst := some 30, op := .binOp .add 3 (.tmp 27) (.tmp 29) 3, type := 3, pos := "l61_draw.go:286", after := #[{ on := 17, ground := .data }, { on := 19, ground := .data }], guard := none }) (v := ?_) rfl (by kernel_rfl) (by kernel_rfl) (by kernel_rfl) (fun _ _ _ h => hC _ _ _ _ _ h) (Or.inl ⟨by rfl, ?_⟩) (by assumption) ?_
    rotate_left 1
    · (intro w hSw; (try dsimp only at hSw); go_simp; try with_reducible rfl)
    (try simp only [pq])
    exact dw_5010 hQ hC D1 (by omega) hst F1 ho4 (by first | rfl | kernel_rfl)
  · go_simp
    refine hK.out _ _ trivial (fun _ => ?_)
    clear hK K
    (try simp only [pq])
    have o1 : Off rb w (w.alloc (.cells #[.int .i64 0, .int .i64 0, .int .i64 0, .int .i64 0, .int .i64 0, .int .i64 0, .int .i64 0, .int .i64 0, .int .i64 0, .int .i64 0, .slice none 0 0] 35)) := (Off.refl rb w).alloc _
    have D1 := D.alloc (.cells #[.int .i64 0, .int .i64 0, .int .i64 0, .int .i64 0, .int .i64 0, .int .i64 0, .int .i64 0, .int .i64 0, .int .i64 0, .int .i64 0, .slice none 0 0] 35)
    have E1 : B5 u (w.alloc (.cells #[.int .i64 0, .int .i64 0, .int .i64 0, .int .i64 0, .int .i64 0, .int .i64 0, .int .i64 0, .int .i64 0, .int .i64 0, .int .i64 0, .slice none 0 0] 35)) rb b2 w.heap.size := ⟨(Ws.new (heap_alloc_new w (.cells #[.int .i64 0, .int .i64 0, .int .i64 0, .int .i64 0, .int .i64 0, .int .i64 0, .int .i64 0, .int .i64 0, .int .i64 0, .int .i64 0, .slice none 0 0] 35)) : Ws _ w.heap.size zW), by have := D.r.lt; omega, by have := D.x2.lt; omega, D.o.size⟩
    have F1 := F.step o1
    generalize w.alloc (.cells #[.int .i64 0, .int .i64 0, .int .i64 0, .int .i64 0, .int .i64 0, .int .i64 0, .int .i64 0, .int .i64 0, .int .i64 0, .int .i64 0, .slice none 0 0] 35) = w1 at *
    exact dw_4110 hQ hC D1 hp hst E1 F1 ho4 (by first | rfl | kernel_rfl)
set_option maxRecDepth 20000 in
set_option maxHeartbeats 4000000 in
theorem dw_4100 {G : Cd} {B : Nat} {rb : Nat} {p : Nat} {b2 : Nat} {b5 : Nat} {u : World} {w : World} {fr : Int} {st : Int} {k1 : Int} {k2 : Int} {k3 : Int} {k4 : Int} {n2 : Int} {n5 : Int} {n8 : Int} {n17 : Int} {Q : Exit → Act → World → Prop} {ls : Array Bool} (hQ : DwQ Q G B rb u b2 fr st) (hC : ∀ (c : List PanicEntry) (d : Option Nat) (v : Value) (a : Act) (w : World), Q (.panic c) (a.put d v) w → Q (.panic c) a w) (D : Dw G B rb p u w b2) (hp : p < 504000) (hst : 0 ≤ st ∧ st ≤ 1) (E : B5 u w rb b2 b5) (hk4 : 0 ≤ k4 ∧ k4 < 3) (hl : ls = #[true, true, true, true, true, true, true, true, true, true, true, false, true, true, false, false, true, true, true, false, false, true, false, true, true, false, false, true, false]) :
    wpAnyH Tryz.prog .any wops Q (fun _ => True) 9 ls { tmps := #[.pointer (some ⟨rb, 0, none⟩), undef, .pointer (some ⟨b2, 0, none⟩), .int .i64 fr, .int .i64 st, .pointer (some ⟨b5, 0, none⟩), .pointer (some ⟨rb, 0, none⟩), .int .i64 fr, .int .i64 fr, .int .i64 st, .pointer (some ⟨rb, 0, none⟩), .int .i64 k1, .int .i64 n2, .int .i64 fr, .int .i64 st, .int .i64 n5, .pointer (some ⟨rb, 0, none⟩), .int .i64 k2, .int .i64 n8, .pointer (some ⟨rb, 0, none⟩), .int .i64 k3, undef, .pointer (some ⟨rb, 0, none⟩), .int .i64 k4, undef, undef, .int .i64 st, .int .i64 n17, .pointer (some ⟨rb, 0, none⟩), undef, undef, .pointer (some ⟨rb, 0, none⟩), undef, .pointer (some ⟨rb, 0, none⟩), .int .i64 st, undef, undef, undef, undef, undef, undef, undef, undef, undef, undef, undef, undef, undef, undef, undef, undef, undef, undef, undef, undef, undef, undef], defers := [] } w := by
  subst hl
  refine wpAnyH_ready (rs := [11, 19]) (by kernel_rfl) (by simp) ?_
  refine (AllReadyH.cons (o := { dst := some 21, op := .buildSlice 90 3 #[(0, .tmp 20), (1, .const (.int .i64 999999)), (2, .const (.int .i64 0))], type := 90, pos := "l61_draw.go:286", after := #[{ on := 10, ground := .data }], guard := none }) rfl (fun K hK => ?_) (AllReadyH.cons (o := { dst := some 29, op := .call { callee := .value (.func 29), args := #[.tmp 28, .const (.int .i64 4)], argTypes := #[44, 3] }, type := 3, pos := "l61_draw.go:286", after := #[{ on := 18, ground := .data }, { on := 13, ground := .chain }], guard := none }) rfl (fun K hK => ?_) AllReadyH.nil))
  · go_simp
    refine hK.out _ _ trivial (fun _ => ?_)
    clear hK K
    (try simp only [pq])
    have o1 : Off rb w (w.alloc (.cells #[.int .i64 k3, .int .i64 999999, .int .i64 0] 3)) := (Off.refl rb w).alloc _
    have D1 := D.alloc (.cells #[.int .i64 k3, .int .i64 999999, .int .i64 0] 3)
    have F1 : Sl3 (w.alloc (.cells #[.int .i64 k3, .int .i64 999999, .int .i64 0] 3)) rb w.heap.size := ⟨lt_of_block (heap_alloc_new w _), by have := D.r.lt; omega, fun m hm => three w k3 999999 0 m hm⟩
    have E1 := E.step o1
    obtain ⟨m4, rfl⟩ : ∃ m4 : Nat, k4 = m4 := ⟨k4.toNat, by omega⟩
    have hm4 : m4 < 3 := by omega
    have i0 := hk4.1
    have i1 := hk4.2
    generalize w.alloc (.cells #[.int .i64 k3, .int .i64 999999, .int .i64 0] 3) = w1 at *
    generalize w.heap.size = s1 at *
    refine wpAnyH_take (i := 14) (oi := { dst := some 24, op := .indexAddr 90 (.tmp 21) (.tmp 23), type := 0, pos := "l61_draw.go:286", after := #[{ on := 11, ground := .data }, { on := 13, ground := .data }], guard := none }) (v := ?_) rfl (by kernel_rfl) (by kernel_rfl) (by kernel_rfl) (fun _ _ _ h => hC _ _ _ _ _ h) (Or.inl ⟨by rfl, ?_⟩) (by assumption) ?_
    rotate_left 1
    · (intro w hSw; (try dsimp only at hSw); go_simp; try with_reducible rfl)
    (try simp only [pq])
    exact dw_4110 hQ hC D1 hp hst E1 F1 hm4 (by first | rfl | kernel_rfl)
  · go_simp
    refine (pick_any B rb p 4 _ D.r (by omega)).mono ?_
    rintro r w1 ⟨rfl, hk, r1, o1'⟩
    have o1 := o1'.off
    generalize G.pk p 4 = k5 at *
    have D1 := D.step r1 o1
    go_wp2_with fail
    refine hK.out _ _ trivial (fun _ => ?_)
    clear hK K
    (try simp only [pq])
    have E1 := E.step o1
    refine wpAnyH_take (i := 20) (oi := { dst := some 30, op := .binOp .add 3 (.tmp 27) (.tmp 29) 3, type := 3, pos := "l61_draw.go:286", after := #[{ on := 17, ground := .data }, { on := 19, ground := .data }], guard := none }) (v := ?_) rfl (by kernel_rfl) (by kernel_rfl) (by kernel_rfl) (fun _ _ _ h => hC _ _ _ _ _ h) (Or.inl ⟨by rfl, ?_⟩) (by assumption) ?_
    rotate_left 1
    · (intro w hSw; (try dsimp only at hSw); go_simp; try with_reducible rfl)
    (try simp only [pq])
    exact dw_5100 hQ hC D1 (by omega) hst E1 hk4 (by first | rfl | kernel_rfl)
set_option maxRecDepth 20000 in
set_option maxHeartbeats 4000000 in
theorem dw_5000 {G : Cd} {B : Nat} {rb : Nat} {p : Nat} {b2 : Nat} {u : World} {w : World} {fr : Int} {st : Int} {k1 : Int} {k2 : Int} {k3 : Int} {k4 : Int} {k5 : Int} {n2 : Int} {n5 : Int} {n8 : Int} {n17 : Int} {n20 : Int} {Q : Exit → Act → World → Prop} {ls : Array Bool} (hQ : DwQ Q G B rb u b2 fr st) (hC : ∀ (c : List PanicEntry) (d : Option Nat) (v : Value) (a : Act) (w : World), Q (.panic c) (a.put d v) w → Q (.panic c) a w) (D : Dw G B rb p u w b2) (hp : p < 505000) (hst : 0 ≤ st ∧ st ≤ 1) (hk4 : 0 ≤ k4 ∧ k4 < 3) (hl : ls = #[true, true, true, true, true, true, true, true, true, true, true, false, true, true, false, false, true, true, true, true, true, true, false, true, true, false, false, false, false]) :
    wpAnyH Tryz.prog .any wops Q (fun _ => True) 8 ls { tmps := #[.pointer (some ⟨rb, 0, none⟩), undef, .pointer (some ⟨b2, 0, none⟩), .int .i64 fr, .int .i64 st, undef, .pointer (some ⟨rb, 0, none⟩), .int .i64 fr, .int .i64 fr, .int .i64 st, .pointer (some ⟨rb, 0, none⟩), .int .i64 k1, .int .i64 n2, .int .i64 fr, .int .i64 st, .int .i64 n5, .pointer (some ⟨rb, 0, none⟩), .int .i64 k2, .int .i64 n8, .pointer (some ⟨rb, 0, none⟩), .int .i64 k3, undef, .pointer (some ⟨rb, 0, none⟩), .int .i64 k4, undef, undef, .int .i64 st, .int .i64 n17, .pointer (some ⟨rb, 0, none⟩), .int .i64 k5, .int .i64 n20, .pointer (some ⟨rb, 0, none⟩), undef, .pointer (some ⟨rb, 0, none⟩), .int .i64 st, undef, undef, undef, undef, undef, undef, undef, undef, undef, undef, undef, undef, undef, undef, undef, undef, undef, undef, undef, undef, undef, undef], defers := [] } w := by
  subst hl
  refine wpAnyH_ready (rs := [11, 22, 27]) (by kernel_rfl) (by simp) ?_
  refine (AllReadyH.cons (o := { dst := some 21, op := .buildSlice 90 3 #[(0, .tmp 20), (1, .const (.int .i64 999999)), (2, .const (.int .i64 0))], type := 90, pos := "l61_draw.go:286", after := #[{ on := 10, ground := .data }], guard := none }) rfl (fun K hK => ?_) (AllReadyH.cons (o := { dst := some 32, op := .call { callee := .value (.func 83), args := #[.tmp 31], argTypes := #[44] }, type := 33, pos := "l61_draw.go:286", after := #[{ on := 21, ground := .data }, { on := 19, ground := .chain }], guard := none }) rfl (fun K hK => ?_) (AllReadyH.cons (o := { dst := some 5, op := .alloc 35, type := 0, pos := "l61_draw.go:286", after := #[], guard := none }) rfl (fun K hK => ?_) AllReadyH.nil)))
  · go_simp
    refine hK.out _ _ trivial (fun _ => ?_)
    clear hK K
    (try simp only [pq])
    have o1 : Off rb w (w.alloc (.cells #[.int .i64 k3, .int .i64 999999, .int .i64 0] 3)) := (Off.refl rb w).alloc _
    have D1 := D.alloc (.cells #[.int .i64 k3, .int .i64 999999, .int .i64 0] 3)
    have F1 : Sl3 (w.alloc (.cells #[.int .i64 k3, .int .i64 999999, .int .i64 0] 3)) rb w.heap.size := ⟨lt_of_block (heap_alloc_new w _), by have := D.r.lt; omega, fun m hm => three w k3 999999 0 m hm⟩
    obtain ⟨m4, rfl⟩ : ∃ m4 : Nat, k4 = m4 := ⟨k4.toNat, by omega⟩
    have hm4 : m4 < 3 := by omega
    have i0 := hk4.1
    have i1 := hk4.2
    generalize w.alloc (.cells #[.int .i64 k3, .int .i64 999999, .int .i64 0] 3) = w1 at *
    generalize w.heap.size = s1 at *
    refine wpAnyH_take (i := 14) (oi := { dst := some 24, op := .indexAddr 90 (.tmp 21) (.tmp 23), type := 0, pos := "l61_draw.go:286", after := #[{ on := 11, ground := .data }, { on := 13, ground := .data }], guard := none }) (v := ?_) rfl (by kernel_rfl) (by kernel_rfl) (by kernel_rfl) (fun _ _ _ h => hC _ _ _ _ _ h) (Or.inl ⟨by rfl, ?_⟩) (by assumption) ?_
    rotate_left 1
    · (intro w hSw; (try dsimp only at hSw); go_simp; try with_reducible rfl)
    (try simp only [pq])
    exact dw_5010 hQ hC D1 hp hst F1 hm4 (by first | rfl | kernel_rfl)
  · go_simp
    refine (coord_any B rb p _ D.r (by omega)).mono ?_
    rintro r w1 ⟨x, y, z, e, q, rfl, hq, r1, o1⟩
    have D1 := D.step r1 o1
    go_wp2_with fail
    refine hK.out _ _ trivial (fun _ => ?_)
    clear hK K
    (try simp only [pq])
    exact dw_6000 hQ hC D1 (by omega) hst hk4 (by first | rfl | kernel_rfl)
  · go_simp
    refine hK.out _ _ trivial (fun _ => ?_)
    clear hK K
    (try simp only [pq])
    have o1 : Off rb w (w.alloc (.cells #[.int .i64 0, .int .i64 0, .int .i64 0, .int .i64 0, .int .i64 0, .int .i64 0, .int .i64 0, .int .i64 0, .int .i64 0, .int .i64 0, .slice none 0 0] 35)) := (Off.refl rb w).alloc _
    have D1 := D.alloc (.cells #[.int .i64 0, .int .i64 0, .int .i64 0, .int .i64 0, .int .i64 0, .int .i64 0, .int .i64 0, .int .i64 0, .int .i64 0, .int .i64 0, .slice none 0 0] 35)
    have E1 : B5 u (w.alloc (.cells #[.int .i64 0, .int .i64 0, .int .i64 0, .int .i64 0, .int .i64 0, .int .i64 0, .int .i64 0, .int .i64 0, .int .i64 0, .int .i64 0, .slice none 0 0] 35)) rb b2 w.heap.size := ⟨(Ws.new (heap_alloc_new w (.cells #[.int .i64 0, .int .i64 0, .int .i64 0, .int .i64 0, .int .i64 0, .int .i64 0, .int .i64 0, .int .i64 0, .int .i64 0, .int .i64 0, .slice none 0 0] 35)) : Ws _ w.heap.size zW), by have := D.r.lt; omega, by have := D.x2.lt; omega, D.o.size⟩
    generalize w.alloc (.cells #[.int .i64 0, .int .i64 0, .int .i64 0, .int .i64 0, .int .i64 0, .int .i64 0, .int .i64 0, .int .i64 0, .int .i64 0, .int .i64 0, .slice none 0 0] 35) = w1 at *
    exact dw_5100 hQ hC D1 hp hst E1 hk4 (by first | rfl | kernel_rfl)
set_option maxRecDepth 20000 in
set_option maxHeartbeats 4000000 in
theorem dw_3010 {G : Cd} {B : Nat} {rb : Nat} {p : Nat} {b2 : Nat} {sl : Nat} {u : World} {w : World} {fr : Int} {st : Int} {k1 : Int} {k2 : Int} {k3 : Int} {n2 : Int} {n5 : Int} {n8 : Int} {n17 : Int} {Q : Exit → Act → World → Prop} {ls : Array Bool} (hQ : DwQ Q G B rb u b2 fr st) (hC : ∀ (c : List PanicEntry) (d : Option Nat) (v : Value) (a : Act) (w : World), Q (.panic c) (a.put d v) w → Q (.panic c) a w) (D : Dw G B rb p u w b2) (hp : p < 503000) (hst : 0 ≤ st ∧ st ≤ 1) (F : Sl3 w rb sl) (hl : ls = #[true, true, true, true, true, true, true, true, true, true, true, true, true, false, false, false, true, true, true, false, false, true, false, true, true, false, false, false, false]) :
    wpAnyH Tryz.prog .any wops Q (fun _ => True) 10 ls { tmps := #[.pointer (some ⟨rb, 0, none⟩), undef, .pointer (some ⟨b2, 0, none⟩), .int .i64 fr, .int .i64 st, undef, .pointer (some ⟨rb, 0, none⟩), .int .i64 fr, .int .i64 fr, .int .i64 st, .pointer (some ⟨rb, 0, none⟩), .int .i64 k1, .int .i64 n2, .int .i64 fr, .int .i64 st, .int .i64 n5, .pointer (some ⟨rb, 0, none⟩), .int .i64 k2, .int .i64 n8, .pointer (some ⟨rb, 0, none⟩), .int .i64 k3, .slice (some ⟨sl, 0, none⟩) 3 3, .pointer (some ⟨rb, 0, none⟩), undef, undef, undef, .int .i64 st, .int .i64 n17, .pointer (some ⟨rb, 0, none⟩), undef, undef, .pointer (some ⟨rb, 0, none⟩), undef, .pointer (some ⟨rb, 0, none⟩), .int .i64 st, undef, undef, undef, undef, undef, undef, undef, undef, undef, undef, undef, undef, undef, undef, undef, undef, undef, undef, undef, undef, undef, undef], defers := [] } w := by
  subst hl
  refine wpAnyH_ready (rs := [13, 27]) (by kernel_rfl) (by simp) ?_
  refine (AllReadyH.cons (o := { dst := some 23, op := .call { callee := .value (.func 29), args := #[.tmp 22, .const (.int .i64 3)], argTypes := #[44, 3] }, type := 3, pos := "l61_draw.go:286", after := #[{ on := 12, ground := .data }, { on := 10, ground := .chain }], guard := none }) rfl (fun K hK => ?_) (AllReadyH.cons (o := { dst := some 5, op := .alloc 35, type := 0, pos := "l61_draw.go:286", after := #[], guard := none }) rfl (fun K hK => ?_) AllReadyH.nil))
  · go_simp
    refine (pick_any B rb p 3 _ D.r (by omega)).mono ?_
    rintro r w1 ⟨rfl, hk, r1, o1'⟩
    have o1 := o1'.off
    generalize G.pk p 3 = k4 at *
    obtain ⟨m4, rfl⟩ : ∃ m4 : Nat, k4 = m4 := ⟨k4.toNat, by omega⟩
    have hm4 : m4 < 3 := by omega
    have hk4 : (0 : Int) ≤ (m4 : Int) ∧ (m4 : Int) < 3 := ⟨by omega, by omega⟩
    have i0 := hk4.1
    have i1 := hk4.2
    have D1 := D.step r1 o1
    go_wp2_with fail
    refine hK.out _ _ trivial (fun _ => ?_)
    clear hK K
    (try simp only [pq])
    have F1 := F.step o1
    refine wpAnyH_take (i := 14) (oi := { dst := some 24, op := .indexAddr 90 (.tmp 21) (.tmp 23), type := 0, pos := "l61_draw.go:286", after := #[{ on := 11, ground := .data }, { on := 13, ground := .data }], guard := none }) (v := ?_) rfl (by kernel_rfl) (by kernel_rfl) (by kernel_rfl) (fun _ _ _ h => hC _ _ _ _ _ h) (Or.inl ⟨by rfl, ?_⟩) (by assumption) ?_
    rotate_left 1
    · (intro w hSw; (try dsimp only at hSw); go_simp; try with_reducible rfl)
    (try simp only [pq])
    exact dw_4010 hQ hC D1 (by omega) hst F1 hm4 (by first | rfl | kernel_rfl)
  · go_simp
    refine hK.out _ _ trivial (fun _ => ?_)
    clear hK K
    (try simp only [pq])
    have o1 : Off rb w (w.alloc (.cells #[.int .i64 0, .int .i64 0, .int .i64 0, .int .i64 0, .int .i64 0, .int .i64 0, .int .i64 0, .int .i64 0, .int .i64 0, .int .i64 0, .slice none 0 0] 35)) := (Off.refl rb w).alloc _
    have D1 := D.alloc (.cells #[.int .i64 0, .int .i64 0, .int .i64 0, .int .i64 0, .int .i64 0, .int .i64 0, .int .i64 0, .int .i64 0, .int .i64 0, .int .i64 0, .slice none 0 0] 35)
    have E1 : B5 u (w.alloc (.cells #[.int .i64 0, .int .i64 0, .int .i64 0, .int .i64 0, .int .i64 0, .int .i64 0, .int .i64 0, .int .i64 0, .int .i64 0, .int .i64 0, .slice none 0 0] 35)) rb b2 w.heap.size := ⟨(Ws.new (heap_alloc_new w (.cells #[.int .i64 0, .int .i64 0, .int .i64 0, .int .i64 0, .int .i64 0, .int .i64 0, .int .i64 0, .int .i64 0, .int .i64 0, .int .i64 0, .slice none 0 0] 35)) : Ws _ w.heap.size zW), by have := D.r.lt; omega, by have := D.x2.lt; omega, D.o.size⟩
    have F1 := F.step o1
    generalize w.alloc (.cells #[.int .i64 0, .int .i64 0, .int .i64 0, .int .i64 0, .int .i64 0, .int .i64 0, .int .i64 0, .int .i64 0, .int .i64 0, .int .i64 0, .slice none 0 0] 35) = w1 at *
    exact dw_3110 hQ hC D1 hp hst E1 F1 (by first | rfl | kernel_rfl)
set_option maxRecDepth 20000 in
set_option maxHeartbeats 4000000 in
theorem dw_3100 {G : Cd} {B : Nat} {rb : Nat} {p : Nat} {b2 : Nat} {b5 : Nat} {u : World} {w : World} {fr : Int} {st : Int} {k1 : Int} {k2 : Int} {k3 : Int} {n2 : Int} {n5 : Int} {n8 : Int} {n17 : Int} {Q : Exit → Act → World → Prop} {ls : Array Bool} (hQ : DwQ Q G B rb u b2 fr st) (hC : ∀ (c : List PanicEntry) (d : Option Nat) (v : Value) (a : Act) (w : World), Q (.panic c) (a.put d v) w → Q (.panic c) a w) (D : Dw G B rb p u w b2) (hp : p < 503000) (hst : 0 ≤ st ∧ st ≤ 1) (E : B5 u w rb b2 b5) (hl : ls = #[true, true, true, true, true, true, true, true, true, true, true, false, true, false, false, false, true, true, true, false, false, true, false, true, true, false, false, true, false]) :
    wpAnyH Tryz.prog .any wops Q (fun _ => True) 10 ls { tmps := #[.pointer (some ⟨rb, 0, none⟩), undef, .pointer (some ⟨b2, 0, none⟩), .int .i64 fr, .int .i64 st, .pointer (some ⟨b5, 0, none⟩), .pointer (some ⟨rb, 0, none⟩), .int .i64 fr, .int .i64 fr, .int .i64 st, .pointer (some ⟨rb, 0, none⟩), .int .i64 k1, .int .i64 n2, .int .i64 fr, .int .i64 st, .int .i64 n5, .pointer (some ⟨rb, 0, none⟩), .int .i64 k2, .int .i64 n8, .pointer (some ⟨rb, 0, none⟩), .int .i64 k3, undef, .pointer (some ⟨rb, 0, none⟩), undef, undef, undef, .int .i64 st, .int .i64 n17, .pointer (some ⟨rb, 0, none⟩), undef, undef, .pointer (some ⟨rb, 0, none⟩), undef, .pointer (some ⟨rb, 0, none⟩), .int .i64 st, undef, undef, undef, undef, undef, undef, undef, undef, undef, undef, undef, undef, undef, undef, undef, undef, undef, undef, undef, undef, undef, undef], defers := [] } w := by
  subst hl
  refine wpAnyH_ready (rs := [11, 13]) (by kernel_rfl) (by simp) ?_
  refine (AllReadyH.cons (o := { dst := some 21, op := .buildSlice 90 3 #[(0, .tmp 20), (1, .const (.int .i64 999999)), (2, .const (.int .i64 0))], type := 90, pos := "l61_draw.go:286", after := #[{ on := 10, ground := .data }], guard := none }) rfl (fun K hK => ?_) (AllReadyH.cons (o := { dst := some 23, op := .call { callee := .value (.func 29), args := #[.tmp 22, .const (.int .i64 3)], argTypes := #[44, 3] }, type := 3, pos := "l61_draw.go:286", after := #[{ on := 12, ground := .data }, { on := 10, ground := .chain }], guard := none }) rfl (fun K hK => ?_) AllReadyH.nil))
  · go_simp
    refine hK.out _ _ trivial (fun _ => ?_)
    clear hK K
    (try simp only [pq])
    have o1 : Off rb w (w.alloc (.cells #[.int .i64 k3, .int .i64 999999, .int .i64 0] 3)) := (Off.refl rb w).alloc _
    have D1 := D.alloc (.cells #[.int .i64 k3, .int .i64 999999, .int .i64 0] 3)
    have F1 : Sl3 (w.alloc (.cells #[.int .i64 k3, .int .i64 999999, .int .i64 0] 3)) rb w.heap.size := ⟨lt_of_block (heap_alloc_new w _), by have := D.r.lt; omega, fun m hm => three w k3 999999 0 m hm⟩
    have E1 := E.step o1
    generalize w.alloc (.cells #[.int .i64 k3, .int .i64 999999, .int .i64 0] 3) = w1 at *
    generalize w.heap.size = s1 at *
    exact dw_3110 hQ hC D1 hp hst E1 F1 (by first | rfl | kernel_rfl)
  · go_simp
    refine (pick_any B rb p 3 _ D.r (by omega)).mono ?_
    rintro r w1 ⟨rfl, hk, r1, o1'⟩
    have o1 := o1'.off
    generalize G.pk p 3 = k4 at *
    obtain ⟨m4, rfl⟩ : ∃ m4 : Nat, k4 = m4 := ⟨k4.toNat, by omega⟩
    have hm4 : m4 < 3 := by omega
    have hk4 : (0 : Int) ≤ (m4 : Int) ∧ (m4 : Int) < 3 := ⟨by omega, by omega⟩
    have i0 := hk4.1
    have i1 := hk4.2
    have D1 := D.step r1 o1
    go_wp2_with fail
    refine hK.out _ _ trivial (fun _ => ?_)
    clear hK K
    (try simp only [pq])
    have E1 := E.step o1
    exact dw_4100 hQ hC D1 (by omega) hst E1 hk4 (by first | rfl | kernel_rfl)
set_option maxRecDepth 20000 in
set_option maxHeartbeats 4000000 in
theorem dw_4000 {G : Cd} {B : Nat} {rb : Nat} {p : Nat} {b2 : Nat} {u : World} {w : World} {fr : Int} {st : Int} {k1 : Int} {k2 : Int} {k3 : Int} {k4 : Int} {n2 : Int} {n5 : Int} {n8 : Int} {n17 : Int} {Q : Exit → Act → World → Prop} {ls : Array Bool} (hQ : DwQ Q G B rb u b2 fr st) (hC : ∀ (c : List PanicEntry) (d : Option Nat) (v : Value) (a : Act) (w : World), Q (.panic c) (a.put d v) w → Q (.panic c) a w) (D : Dw G B rb p u w b2) (hp : p < 504000) (hst : 0 ≤ st ∧ st ≤ 1) (hk4 : 0 ≤ k4 ∧ k4 < 3) (hl : ls = #[true, true, true, true, true, true, true, true, true, true, true, false, true, true, false, false, true, true, true, false, false, true, false, true, true, false, false, false, false]) :
    wpAnyH Tryz.prog .any wops Q (fun _ => True) 10 ls { tmps := #[.pointer (some ⟨rb, 0, none⟩), undef, .pointer (some ⟨b2, 0, none⟩), .int .i64 fr, .int .i64 st, undef, .pointer (some ⟨rb, 0, none⟩), .int .i64 fr, .int .i64 fr, .int .i64 st, .pointer (some ⟨rb, 0, none⟩), .int .i64 k1, .int .i64 n2, .int .i64 fr, .int .i64 st, .int .i64 n5, .pointer (some ⟨rb, 0, none⟩), .int .i64 k2, .int .i64 n8, .pointer (some ⟨rb, 0, none⟩), .int .i64 k3, undef, .pointer (some ⟨rb, 0, none⟩), .int .i64 k4, undef, undef, .int .i64 st, .int .i64 n17, .pointer (some ⟨rb, 0, none⟩), undef, undef, .pointer (some ⟨rb, 0, none⟩), undef, .pointer (some ⟨rb, 0, none⟩), .int .i64 st, undef, undef, undef, undef, undef, undef, undef, undef, undef, undef, undef, undef, undef, undef, undef, undef, undef, undef, undef, undef, undef, undef], defers := [] } w := by
  subst hl
  refine wpAnyH_ready (rs := [11, 19, 27]) (by kernel_rfl) (by simp) ?_
  refine (AllReadyH.cons (o := { dst := some 21, op := .buildSlice 90 3 #[(0, .tmp 20), (1, .const (.int .i64 999999)), (2, .const (.int .i64 0))], type := 90, pos := "l61_draw.go:286", after := #[{ on := 10, ground := .data }], guard := none }) rfl (fun K hK => ?_) (AllReadyH.cons (o := { dst := some 29, op := .call { callee := .value (.func 29), args := #[.tmp 28, .const (.int .i64 4)], argTypes := #[44, 3] }, type := 3, pos := "l61_draw.go:286", after := #[{ on := 18, ground := .data }, { on := 13, ground := .chain }], guard := none }) rfl (fun K hK => ?_) (AllReadyH.cons (o := { dst := some 5, op := .alloc 35, type := 0, pos := "l61_draw.go:286", after := #[], guard := none }) rfl (fun K hK => ?_) AllReadyH.nil)))
  · go_simp
    refine hK.out _ _ trivial (fun _ => ?_)
    clear hK K
    (try simp only [pq])
    have o1 : Off rb w (w.alloc (.cells #[.int .i64 k3, .int .i64 999999, .int .i64 0] 3)) := (Off.refl rb w).alloc _
    have D1 := D.alloc (.cells #[.int .i64 k3, .int .i64 999999, .int .i64 0] 3)
    have F1 : Sl3 (w.alloc (.cells #[.int .i64 k3, .int .i64 999999, .int .i64 0] 3)) rb w.heap.size := ⟨lt_of_block (heap_alloc_new w _), by have := D.r.lt; omega, fun m hm => three w k3 999999 0 m hm⟩
    obtain ⟨m4, rfl⟩ : ∃ m4 : Nat, k4 = m4 := ⟨k4.toNat, by omega⟩
    have hm4 : m4 < 3 := by omega
    have i0 := hk4.1
    have i1 := hk4.2
    generalize w.alloc (.cells #[.int .i64 k3, .int .i64 999999, .int .i64 0] 3) = w1 at *
    generalize w.heap.size = s1 at *
    refine wpAnyH_take (i := 14) (oi := { dst := some 24, op := .indexAddr 90 (.tmp 21) (.tmp 23), type := 0, pos := "l61_draw.go:286", after := #[{ on := 11, ground := .data }, { on := 13, ground := .data }], guard := none }) (v := ?_) rfl (by kernel_rfl) (by kernel_rfl) (by kernel_rfl) (fun _ _ _ h => hC _ _ _ _ _ h) (Or.inl ⟨by rfl, ?_⟩) (by assumption) ?_
    rotate_left 1
    · (intro w hSw; (try dsimp only at hSw); go_simp; try with_reducible rfl)
    (try simp only [pq])
    exact dw_4010 hQ hC D1 hp hst F1 hm4 (by first | rfl | kernel_rfl)
  · go_simp
    refine (pick_any B rb p 4 _ D.r (by omega)).mono ?_
    rintro r w1 ⟨rfl, hk, r1, o1'⟩
    have o1 := o1'.off
    generalize G.pk p 4 = k5 at *
    have D1 := D.step r1 o1
    go_wp2_with fail
    refine hK.out _ _ trivial (fun _ => ?_)
    clear hK K
    (try simp only [pq])
    refine wpAnyH_take (i := 20) (oi := { dst := some 30, op := .binOp .add 3 (.tmp 27) (.tmp 29) 3, type := 3, pos := "l61_draw.go:286", after := #[{ on := 17, ground := .data }, { on := 19, ground := .data }], guard := none }) (v := ?_) rfl (by kernel_rfl) (by kernel_rfl) (by kernel_rfl) (fun _ _ _ h => hC _ _ _ _ _ h) (Or.inl ⟨by rfl, ?_⟩) (by assumption) ?_
    rotate_left 1
    · (intro w hSw; (try dsimp only at hSw); go_simp; try with_reducible rfl)
    (try simp only [pq])
    exact dw_5000 hQ hC D1 (by omega) hst hk4 (by first | rfl | kernel_rfl)
  · go_simp
    refine hK.out _ _ trivial (fun _ => ?_)
    clear hK K
    (try simp only [pq])
    have o1 : Off rb w (w.alloc (.cells #[.int .i64 0, .int .i64 0, .int .i64 0, .int .i64 0, .int .i64 0, .int .i64 0, .int .i64 0, .int .i64 0, .int .i64 0, .int .i64 0, .slice none 0 0] 35)) := (Off.refl rb w).alloc _
    have D1 := D.alloc (.cells #[.int .i64 0, .int .i64 0, .int .i64 0, .int .i64 0, .int .i64 0, .int .i64 0, .int .i64 0, .int .i64 0, .int .i64 0, .int .i64 0, .slice none 0 0] 35)
    have E1 : B5 u (w.alloc (.cells #[.int .i64 0, .int .i64 0, .int .i64 0, .int .i64 0, .int .i64 0, .int .i64 0, .int .i64 0, .int .i64 0, .int .i64 0, .int .i64 0, .slice none 0 0] 35)) rb b2 w.heap.size := ⟨(Ws.new (heap_alloc_new w (.cells #[.int .i64 0, .int .i64 0, .int .i64 0, .int .i64 0, .int .i64 0, .int .i64 0, .int .i64 0, .int .i64 0, .int .i64 0, .int .i64 0, .slice none 0 0] 35)) : Ws _ w.heap.size zW), by have := D.r.lt; omega, by have := D.x2.lt; omega, D.o.size⟩
    generalize w.alloc (.cells #[.int .i64 0, .int .i64 0, .int .i64 0, .int .i64 0, .int .i64 0, .int .i64 0, .int .i64 0, .int .i64 0, .int .i64 0, .int .i64 0, .slice none 0 0] 35) = w1 at *
    exact dw_4100 hQ hC D1 hp hst E1 hk4 (by first | rfl | kernel_rfl)
set_option maxRecDepth 20000 in
set_option maxHeartbeats 4000000 in
theorem dw_2100 {G : Cd} {B : Nat} {rb : Nat} {p : Nat} {b2 : Nat} {b5 : Nat} {u : World} {w : World} {fr : Int} {st : Int} {k1 : Int} {k2 : Int} {n2 : Int} {n5 : Int} {n8 : Int} {n17 : Int} {Q : Exit → Act → World → Prop} {ls : Array Bool} (hQ : DwQ Q G B rb u b2 fr st) (hC : ∀ (c : List PanicEntry) (d : Option Nat) (v : Value) (a : Act) (w : World), Q (.panic c) (a.put d v) w → Q (.panic c) a w) (D : Dw G B rb p u w b2) (hp : p < 502000) (hst : 0 ≤ st ∧ st ≤ 1) (E : B5 u w rb b2 b5) (hl : ls = #[true, true, true, true, true, true, true, true, true, true, false, false, true, false, false, false, true, true, true, false, false, true, false, true, true, false, false, true, false]) :
    wpAnyH Tryz.prog .any wops Q (fun _ => True) 11 ls { tmps := #[.pointer (some ⟨rb, 0, none⟩), undef, .pointer (some ⟨b2, 0, none⟩), .int .i64 fr, .int .i64 st, .pointer (some ⟨b5, 0, none⟩), .pointer (some ⟨rb, 0, none⟩), .int .i64 fr, .int .i64 fr, .int .i64 st, .pointer (some ⟨rb, 0, none⟩), .int .i64 k1, .int .i64 n2, .int .i64 fr, .int .i64 st, .int .i64 n5, .pointer (some ⟨rb, 0, none⟩), .int .i64 k2, .int .i64 n8, .pointer (some ⟨rb, 0, none⟩), undef, undef, .pointer (some ⟨rb, 0, none⟩), undef, undef, undef, .int .i64 st, .int .i64 n17, .pointer (some ⟨rb, 0, none⟩), undef, undef, .pointer (some ⟨rb, 0, none⟩), undef, .pointer (some ⟨rb, 0, none⟩), .int .i64 st, undef, undef, undef, undef, undef, undef, undef, undef, undef, undef, undef, undef, undef, undef, undef, undef, undef, undef, undef, undef, undef, undef], defers := [] } w := by
  subst hl
  refine wpAnyH_ready (rs := [10]) (by kernel_rfl) (by simp) ?_
  refine (AllReadyH.cons (o := { dst := some 20, op := .call { callee := .value (.func 29), args := #[.tmp 19, .const (.int .i64 9)], argTypes := #[44, 3] }, type := 3, pos := "l61_draw.go:286", after := #[{ on := 9, ground := .data }, { on := 7, ground := .chain }], guard := none }) rfl (fun K hK => ?_) AllReadyH.nil)
  · go_simp
    refine (pick_any B rb p 9 _ D.r (by omega)).mono ?_
    rintro r w1 ⟨rfl, hk, r1, o1'⟩
    have o1 := o1'.off
    generalize G.pk p 9 = k3 at *
    have D1 := D.step r1 o1
    go_wp2_with fail
    refine hK.out _ _ trivial (fun _ => ?_)
    clear hK K
    (try simp only [pq])
    have E1 := E.step o1
    exact dw_3100 hQ hC D1 (by omega) hst E1 (by first | rfl | kernel_rfl)
set_option maxRecDepth 20000 in
set_option maxHeartbeats 4000000 in
theorem dw_3000 {G : Cd} {B : Nat} {rb : Nat} {p : Nat} {b2 : Nat} {u : World} {w : World} {fr : Int} {st : Int} {k1 : Int} {k2 : Int} {k3 : Int} {n2 : Int} {n5 : Int} {n8 : Int} {n17 : Int} {Q : Exit → Act → World → Prop} {ls : Array Bool} (hQ : DwQ Q G B rb u b2 fr st) (hC : ∀ (c : List PanicEntry) (d : Option Nat) (v : Value) (a : Act) (w : World), Q (.panic c) (a.put d v) w → Q (.panic c) a w) (D : Dw G B rb p u w b2) (hp : p < 503000) (hst : 0 ≤ st ∧ st ≤ 1) (hl : ls = #[true, true, true, true, true, true, true, true, true, true, true, false, true, false, false, false, true, true, true, false, false, true, false, true, true, false, false, false, false]) :
    wpAnyH Tryz.prog .any wops Q (fun _ => True) 11 ls { tmps := #[.pointer (some ⟨rb, 0, none⟩), undef, .pointer (some ⟨b2, 0, none⟩), .int .i64 fr, .int .i64 st, undef, .pointer (some ⟨rb, 0, none⟩), .int .i64 fr, .int .i64 fr, .int .i64 st, .pointer (some ⟨rb, 0, none⟩), .int .i64 k1, .int .i64 n2, .int .i64 fr, .int .i64 st, .int .i64 n5, .pointer (some ⟨rb, 0, none⟩), .int .i64 k2, .int .i64 n8, .pointer (some ⟨rb, 0, none⟩), .int .i64 k3, undef, .pointer (some ⟨rb, 0, none⟩), undef, undef, undef, .int .i64 st, .int .i64 n17, .pointer (some ⟨rb, 0, none⟩), undef, undef, .pointer (some ⟨rb, 0, none⟩), undef, .pointer (some ⟨rb, 0, none⟩), .int .i64 st, undef, undef, undef, undef, undef, undef, undef, undef, undef, undef, undef, undef, undef, undef, undef, undef, undef, undef, undef, undef, undef, undef], defers := [] } w := by
  subst hl
  refine wpAnyH_ready (rs := [11, 13, 27]) (by kernel_rfl) (by simp) ?_
  refine (AllReadyH.cons (o := { dst := some 21, op := .buildSlice 90 3 #[(0, .tmp 20), (1, .const (.int .i64 999999)), (2, .const (.int .i64 0))], type := 90, pos := "l61_draw.go:286", after := #[{ on := 10, ground := .data }], guard := none }) rfl (fun K hK => ?_) (AllReadyH.cons (o := { dst := some 23, op := .call { callee := .value (.func 29), args := #[.tmp 22, .const (.int .i64 3)], argTypes := #[44, 3] }, type := 3, pos := "l61_draw.go:286", after := #[{ on := 12, ground := .data }, { on := 10, ground := .chain }], guard := none }) rfl (fun K hK => ?_) (AllReadyH.cons (o := { dst := some 5, op := .alloc 35, type := 0, pos := "l61_draw.go:286", after := #[], guard := none }) rfl (fun K hK => ?_) AllReadyH.nil)))
  · go_simp
    refine hK.out _ _ trivial (fun _ => ?_)
    clear hK K
    (try simp only [pq])
    have o1 : Off rb w (w.alloc (.cells #[.int .i64 k3, .int .i64 999999, .int .i64 0] 3)) := (Off.refl rb w).alloc _
    have D1 := D.alloc (.cells #[.int .i64 k3, .int .i64 999999, .int .i64 0] 3)
    have F1 : Sl3 (w.alloc (.cells #[.int .i64 k3, .int .i64 999999, .int .i64 0] 3)) rb w.heap.size := ⟨lt_of_block (heap_alloc_new w _), by have := D.r.lt; omega, fun m hm => three w k3 999999 0 m hm⟩
    generalize w.alloc (.cells #[.int .i64 k3, .int .i64 999999, .int .i64 0] 3) = w1 at *
    generalize w.heap.size = s1 at *
    exact dw_3010 hQ hC D1 hp hst F1 (by first | rfl | kernel_rfl)
  · go_simp
    refine (pick_any B rb p 3 _ D.r (by omega)).mono ?_
    rintro r w1 ⟨rfl, hk, r1, o1'⟩
    have o1 := o1'.off
    generalize G.pk p 3 = k4 at *
    obtain ⟨m4, rfl⟩ : ∃ m4 : Nat, k4 = m4 := ⟨k4.toNat, by omega⟩
    have hm4 : m4 < 3 := by omega
    have hk4 : (0 : Int) ≤ (m4 : Int) ∧ (m4 : Int) < 3 := ⟨by omega, by omega⟩
    have i0 := hk4.1
    have i1 := hk4.2
    have D1 := D.step r1 o1
    go_wp2_with fail
    refine hK.out _ _ trivial (fun _ => ?_)
    clear hK K
    (try simp only [pq])
    exact dw_4000 hQ hC D1 (by omega) hst hk4 (by first | rfl | kernel_rfl)
  · go_simp
    refine hK.out _ _ trivial (fun _ => ?_)
    clear hK K
    (try simp only [pq])
    have o1 : Off rb w (w.alloc (.cells #[.int .i64 0, .int .i64 0, .int .i64 0, .int .i64 0, .int .i64 0, .int .i64 0, .int .i64 0, .int .i64 0, .int .i64 0, .int .i64 0, .slice none 0 0] 35)) := (Off.refl rb w).alloc _
    have D1 := D.alloc (.cells #[.int .i64 0, .int .i64 0, .int .i64 0, .int .i64 0, .int .i64 0, .int .i64 0, .int .i64 0, .int .i64 0, .int .i64 0, .int .i64 0, .slice none 0 0] 35)
    have E1 : B5 u (w.alloc (.cells #[.int .i64 0, .int .i64 0, .int .i64 0, .int .i64 0, .int .i64 0, .int .i64 0, .int .i64 0, .int .i64 0, .int .i64 0, .int .i64 0, .slice none 0 0] 35)) rb b2 w.heap.size := ⟨(Ws.new (heap_alloc_new w (.cells #[.int .i64 0, .int .i64 0, .int .i64 0, .int .i64 0, .int .i64 0, .int .i64 0, .int .i64 0, .int .i64 0, .int .i64 0, .int .i64 0, .slice none 0 0] 35)) : Ws _ w.heap.size zW), by have := D.r.lt; omega, by have := D.x2.lt; omega, D.o.size⟩
    generalize w.alloc (.cells #[.int .i64 0, .int .i64 0, .int .i64 0, .int .i64 0, .int .i64 0, .int .i64 0, .int .i64 0, .int .i64 0, .int .i64 0, .int .i64 0, .slice none 0 0] 35) = w1 at *
    exact dw_3100 hQ hC D1 hp hst E1 (by first | rfl | kernel_rfl)
set_option maxRecDepth 20000 in
set_option maxHeartbeats 4000000 in
theorem dw_1100 {G : Cd} {B : Nat} {rb : Nat} {p : Nat} {b2 : Nat} {b5 : Nat} {u : World} {w : World} {fr : Int} {st : Int} {k1 : Int} {n2 : Int} {n5 : Int} {n17 : Int} {Q : Exit → Act → World → Prop} {ls : Array Bool} (hQ : DwQ Q G B rb u b2 fr st) (hC : ∀ (c : List PanicEntry) (d : Option Nat) (v : Value) (a : Act) (w : World), Q (.panic c) (a.put d v) w → Q (.panic c) a w) (D : Dw G B rb p u w b2) (hp : p < 501000) (hst : 0 ≤ st ∧ st ≤ 1) (E : B5 u w rb b2 b5) (hl : ls = #[true, true, true, true, true, true, true, false, false, true, false, false, true, false, false, false, true, true, true, false, false, true, false, true, true, false, false, true, false]) :
    wpAnyH Tryz.prog .any wops Q (fun _ => True) 13 ls { tmps := #[.pointer (some ⟨rb, 0, none⟩), undef, .pointer (some ⟨b2, 0, none⟩), .int .i64 fr, .int .i64 st, .pointer (some ⟨b5, 0, none⟩), .pointer (some ⟨rb, 0, none⟩), .int .i64 fr, .int .i64 fr, .int .i64 st, .pointer (some ⟨rb, 0, none⟩), .int .i64 k1, .int .i64 n2, .int .i64 fr, .int .i64 st, .int .i64 n5, .pointer (some ⟨rb, 0, none⟩), undef, undef, .pointer (some ⟨rb, 0, none⟩), undef, undef, .pointer (some ⟨rb, 0, none⟩), undef, undef, undef, .int .i64 st, .int .i64 n17, .pointer (some ⟨rb, 0, none⟩), undef, undef, .pointer (some ⟨rb, 0, none⟩), undef, .pointer (some ⟨rb, 0, none⟩), .int .i64 st, undef, undef, undef, undef, undef, undef, undef, undef, undef, undef, undef, undef, undef, undef, undef, undef, undef, undef, undef, undef, undef, undef], defers := [] } w := by
  subst hl
  refine wpAnyH_ready (rs := [7]) (by kernel_rfl) (by simp) ?_
  refine (AllReadyH.cons (o := { dst := some 17, op := .call { callee := .value (.func 29), args := #[.tmp 16, .const (.int .i64 4)], argTypes := #[44, 3] }, type := 3, pos := "l61_draw.go:286", after := #[{ on := 6, ground := .data }, { on := 1, ground := .chain }], guard := none }) rfl (fun K hK => ?_) AllReadyH.nil)
  · go_simp
    refine (pick_any B rb p 4 _ D.r (by omega)).mono ?_
    rintro r w1 ⟨rfl, hk, r1, o1'⟩
    have o1 := o1'.off
    generalize G.pk p 4 = k2 at *
    have D1 := D.step r1 o1
    go_wp2_with fail
    refine hK.out _ _ trivial (fun _ => ?_)
    clear hK K
    (try simp only [pq])
    have E1 := E.step o1
    refine wpAnyH_take (i := 8) (oi := { dst := some 18, op := .binOp .add 3 (.tmp 15) (.tmp 17) 3, type := 3, pos := "l61_draw.go:286", after := #[{ on := 5, ground := .data }, { on := 7, ground := .data }], guard := none }) (v := ?_) rfl (by kernel_rfl) (by kernel_rfl) (by kernel_rfl) (fun _ _ _ h => hC _ _ _ _ _ h) (Or.inl ⟨by rfl, ?_⟩) (by assumption) ?_
    rotate_left 1
    · (intro w hSw; (try dsimp only at hSw); go_simp; try with_reducible rfl)
    (try simp only [pq])
    exact dw_2100 hQ hC D1 (by omega) hst E1 (by first | rfl | kernel_rfl)
set_option maxRecDepth 20000 in
set_option maxHeartbeats 4000000 in
theorem dw_2000 {G : Cd} {B : Nat} {rb : Nat} {p : Nat} {b2 : Nat} {u : World} {w : World} {fr : Int} {st : Int} {k1 : Int} {k2 : Int} {n2 : Int} {n5 : Int} {n8 : Int} {n17 : Int} {Q : Exit → Act → World → Prop} {ls : Array Bool} (hQ : DwQ Q G B rb u b2 fr st) (hC : ∀ (c : List PanicEntry) (d : Option Nat) (v : Value) (a : Act) (w : World), Q (.panic c) (a.put d v) w → Q (.panic c) a w) (D : Dw G B rb p u w b2) (hp : p < 502000) (hst : 0 ≤ st ∧ st ≤ 1) (hl : ls = #[true, true, true, true, true, true, true, true, true, true, false, false, true, false, false, false, true, true, true, false, false, true, false, true, true, false, false, false, false]) :
    wpAnyH Tryz.prog .any wops Q (fun _ => True) 12 ls { tmps := #[.pointer (some ⟨rb, 0, none⟩), undef, .pointer (some ⟨b2, 0, none⟩), .int .i64 fr, .int .i64 st, undef, .pointer (some ⟨rb, 0, none⟩), .int .i64 fr, .int .i64 fr, .int .i64 st, .pointer (some ⟨rb, 0, none⟩), .int .i64 k1, .int .i64 n2, .int .i64 fr, .int .i64 st, .int .i64 n5, .pointer (some ⟨rb, 0, none⟩), .int .i64 k2, .int .i64 n8, .pointer (some ⟨rb, 0, none⟩), undef, undef, .pointer (some ⟨rb, 0, none⟩), undef, undef, undef, .int .i64 st, .int .i64 n17, .pointer (some ⟨rb, 0, none⟩), undef, undef, .pointer (some ⟨rb, 0, none⟩), undef, .pointer (some ⟨rb, 0, none⟩), .int .i64 st, undef, undef, undef, undef, undef, undef, undef, undef, undef, undef, undef, undef, undef, undef, undef, undef, undef, undef, undef, undef, undef, undef], defers := [] } w := by
  subst hl
  refine wpAnyH_ready (rs := [10, 27]) (by kernel_rfl) (by simp) ?_
  refine (AllReadyH.cons (o := { dst := some 20, op := .call { callee := .value (.func 29), args := #[.tmp 19, .const (.int .i64 9)], argTypes := #[44, 3] }, type := 3, pos := "l61_draw.go:286", after := #[{ on := 9, ground := .data }, { on := 7, ground := .chain }], guard := none }) rfl (fun K hK => ?_) (AllReadyH.cons (o := { dst := some 5, op := .alloc 35, type := 0, pos := "l61_draw.go:286", after := #[], guard := none }) rfl (fun K hK => ?_) AllReadyH.nil))
  · go_simp
    refine (pick_any B rb p 9 _ D.r (by omega)).mono ?_
    rintro r w1 ⟨rfl, hk, r1, o1'⟩
    have o1 := o1'.off
    generalize G.pk p 9 = k3 at *
    have D1 := D.step r1 o1
    go_wp2_with fail
    refine hK.out _ _ trivial (fun _ => ?_)
    clear hK K
    (try simp only [pq])
    exact dw_3000 hQ hC D1 (by omega) hst (by first | rfl | kernel_rfl)
  · go_simp
    refine hK.out _ _ trivial (fun _ => ?_)
    clear hK K
    (try simp only [pq])
    have o1 : Off rb w (w.alloc (.cells #[.int .i64 0, .int .i64 0, .int .i64 0, .int .i64 0, .int .i64 0, .int .i64 0, .int .i64 0, .int .i64 0, .int .i64 0, .int .i64 0, .slice none 0 0] 35)) := (Off.refl rb w).alloc _
    have D1 := D.alloc (.cells #[.int .i64 0, .int .i64 0, .int .i64 0, .int .i64 0, .int .i64 0, .int .i64 0, .int .i64 0, .int .i64 0, .int .i64 0, .int .i64 0, .slice none 0 0] 35)
    have E1 : B5 u (w.alloc (.cells #[.int .i64 0, .int .i64 0, .int .i64 0, .int .i64 0, .int .i64 0, .int .i64 0, .int .i64 0, .int .i64 0, .int .i64 0, .int .i64 0, .slice none 0 0] 35)) rb b2 w.heap.size := ⟨(Ws.new (heap_alloc_new w (.cells #[.int .i64 0, .int .i64 0, .int .i64 0, .int .i64 0, .int .i64 0, .int .i64 0, .int .i64 0, .int .i64 0, .int .i64 0, .int .i64 0, .slice none 0 0] 35)) : Ws _ w.heap.size zW), by have := D.r.lt; omega, by have := D.x2.lt; omega, D.o.size⟩
    generalize w.alloc (.cells #[.int .i64 0, .int .i64 0, .int .i64 0, .int .i64 0, .int .i64 0, .int .i64 0, .int .i64 0, .int .i64 0, .int .i64 0, .int .i64 0, .slice none 0 0] 35) = w1 at *
    exact dw_2100 hQ hC D1 hp hst E1 (by first | rfl | kernel_rfl)
set_option maxRecDepth 20000 in
set_option maxHeartbeats 4000000 in
theorem dw_0100 {G : Cd} {B : Nat} {rb : Nat} {p : Nat} {b2 : Nat} {b5 : Nat} {u : World} {w : World} {fr : Int} {st : Int} {n5 : Int} {n17 : Int} {Q : Exit → Act → World → Prop} {ls : Array Bool} (hQ : DwQ Q G B rb u b2 fr st) (hC : ∀ (c : List PanicEntry) (d : Option Nat) (v : Value) (a : Act) (w : World), Q (.panic c) (a.put d v) w → Q (.panic c) a w) (D : Dw G B rb p u w b2) (hp : p < 500000) (hst : 0 ≤ st ∧ st ≤ 1) (E : B5 u w rb b2 b5) (hl : ls = #[true, false, false, true, true, true, true, false, false, true, false, false, true, false, false, false, true, true, true, false, false, true, false, true, true, false, false, true, false]) :
    wpAnyH Tryz.prog .any wops Q (fun _ => True) 15 ls { tmps := #[.pointer (some ⟨rb, 0, none⟩), undef, .pointer (some ⟨b2, 0, none⟩), .int .i64 fr, .int .i64 st, .pointer (some ⟨b5, 0, none⟩), .pointer (some ⟨rb, 0, none⟩), .int .i64 fr, .int .i64 fr, .int .i64 st, .pointer (some ⟨rb, 0, none⟩), undef, undef, .int .i64 fr, .int .i64 st, .int .i64 n5, .pointer (some ⟨rb, 0, none⟩), undef, undef, .pointer (some ⟨rb, 0, none⟩), undef, undef, .pointer (some ⟨rb, 0, none⟩), undef, undef, undef, .int .i64 st, .int .i64 n17, .pointer (some ⟨rb, 0, none⟩), undef, undef, .pointer (some ⟨rb, 0, none⟩), undef, .pointer (some ⟨rb, 0, none⟩), .int .i64 st, undef, undef, undef, undef, undef, undef, undef, undef, undef, undef, undef, undef, undef, undef, undef, undef, undef, undef, undef, undef, undef, undef], defers := [] } w := by
  subst hl
  refine wpAnyH_ready (rs := [1]) (by kernel_rfl) (by simp) ?_
  refine (AllReadyH.cons (o := { dst := some 11, op := .call { callee := .value (.func 29), args := #[.tmp 10, .const (.int .i64 6)], argTypes := #[44, 3] }, type := 3, pos := "l61_draw.go:286", after := #[{ on := 0, ground := .data }], guard := none }) rfl (fun K hK => ?_) AllReadyH.nil)
  · go_simp
    refine (pick_any B rb p 6 _ D.r (by omega)).mono ?_
    rintro r w1 ⟨rfl, hk, r1, o1'⟩
    have o1 := o1'.off
    generalize G.pk p 6 = k1 at *
    have D1 := D.step r1 o1
    go_wp2_with fail
    refine hK.out _ _ trivial (fun _ => ?_)
    clear hK K
    (try simp only [pq])
    have E1 := E.step o1
    refine wpAnyH_take (i := 2) (oi := { dst := some 12, op := .binOp .add 3 (.const (.int .i64 1)) (.tmp 11) 3, type := 3, pos := "l61_draw.go:286", after := #[{ on := 1, ground := .data }], guard := none }) (v := ?_) rfl (by kernel_rfl) (by kernel_rfl) (by kernel_rfl) (fun _ _ _ h => hC _ _ _ _ _ h) (Or.inl ⟨by rfl, ?_⟩) (by assumption) ?_
    rotate_left 1
    · (intro w hSw; (try dsimp only at hSw); go_simp; try with_reducible rfl)
    (try simp only [pq])
    exact dw_1100 hQ hC D1 (by omega) hst E1 (by first | rfl | kernel_rfl)
set_option maxRecDepth 20000 in
set_option maxHeartbeats 4000000 in
theorem dw_1000 {G : Cd} {B : Nat} {rb : Nat} {p : Nat} {b2 : Nat} {u : World} {w : World} {fr : Int} {st : Int} {k1 : Int} {n2 : Int} {n5 : Int} {n17 : Int} {Q : Exit → Act → World → Prop} {ls : Array Bool} (hQ : DwQ Q G B rb u b2 fr st) (hC : ∀ (c : List PanicEntry) (d : Option Nat) (v : Value) (a : Act) (w : World), Q (.panic c) (a.put d v) w → Q (.panic c) a w) (D : Dw G B rb p u w b2) (hp : p < 501000) (hst : 0 ≤ st ∧ st ≤ 1) (hl : ls = #[true, true, true, true, true, true, true, false, false, true, false, false, true, false, false, false, true, true, true, false, false, true, false, true, true, false, false, false, false]) :
    wpAnyH Tryz.prog .any wops Q (fun _ => True) 14 ls { tmps := #[.pointer (some ⟨rb, 0, none⟩), undef, .pointer (some ⟨b2, 0, none⟩), .int .i64 fr, .int .i64 st, undef, .pointer (some ⟨rb, 0, none⟩), .int .i64 fr, .int .i64 fr, .int .i64 st, .pointer (some ⟨rb, 0, none⟩), .int .i64 k1, .int .i64 n2, .int .i64 fr, .int .i64 st, .int .i64 n5, .pointer (some ⟨rb, 0, none⟩), undef, undef, .pointer (some ⟨rb, 0, none⟩), undef, undef, .pointer (some ⟨rb, 0, none⟩), undef, undef, undef, .int .i64 st, .int .i64 n17, .pointer (some ⟨rb, 0, none⟩), undef, undef, .pointer (some ⟨rb, 0, none⟩), undef, .pointer (some ⟨rb, 0, none⟩), .int .i64 st, undef, undef, undef, undef, undef, undef, undef, undef, undef, undef, undef, undef, undef, undef, undef, undef, undef, undef, undef, undef, undef, undef], defers := [] } w := by
  subst hl
  refine wpAnyH_ready (rs := [7, 27]) (by kernel_rfl) (by simp) ?_
  refine (AllReadyH.cons (o := { dst := some 17, op := .call { callee := .value (.func 29), args := #[.tmp 16, .const (.int .i64 4)], argTypes := #[44, 3] }, type := 3, pos := "l61_draw.go:286", after := #[{ on := 6, ground := .data }, { on := 1, ground := .chain }], guard := none }) rfl (fun K hK => ?_) (AllReadyH.cons (o := { dst := some 5, op := .alloc 35, type := 0, pos := "l61_draw.go:286", after := #[], guard := none }) rfl (fun K hK => ?_) AllReadyH.nil))
  · go_simp
    refine (pick_any B rb p 4 _ D.r (by omega)).mono ?_
    rintro r w1 ⟨rfl, hk, r1, o1'⟩
    have o1 := o1'.off
    generalize G.pk p 4 = k2 at *
    have D1 := D.step r1 o1
    go_wp2_with fail
    refine hK.out _ _ trivial (fun _ => ?_)
    clear hK K
    (try simp only [pq])
    refine wpAnyH_take (i := 8) (oi := { dst := some 18, op := .binOp .add 3 (.tmp 15) (.tmp 17) 3, type := 3, pos := "l61_draw.go:286", after := #[{ on := 5, ground := .data }, { on := 7, ground := .data }], guard := none }) (v := ?_) rfl (by kernel_rfl) (by kernel_rfl) (by kernel_rfl) (fun _ _ _ h => hC _ _ _ _ _ h) (Or.inl ⟨by rfl, ?_⟩) (by assumption) ?_
    rotate_left 1
    · (intro w hSw; (try dsimp only at hSw); go_simp; try with_reducible rfl)
    (try simp only [pq])
    exact dw_2000 hQ hC D1 (by omega) hst (by first | rfl | kernel_rfl)
  · go_simp
    refine hK.out _ _ trivial (fun _ => ?_)
    clear hK K
    (try simp only [pq])
    have o1 : Off rb w (w.alloc (.cells #[.int .i64 0, .int .i64 0, .int .i64 0, .int .i64 0, .int .i64 0, .int .i64 0, .int .i64 0, .int .i64 0, .int .i64 0, .int .i64 0, .slice none 0 0] 35)) := (Off.refl rb w).alloc _
    have D1 := D.alloc (.cells #[.int .i64 0, .int .i64 0, .int .i64 0, .int .i64 0, .int .i64 0, .int .i64 0, .int .i64 0, .int .i64 0, .int .i64 0, .int .i64 0, .slice none 0 0] 35)
    have E1 : B5 u (w.alloc (.cells #[.int .i64 0, .int .i64 0, .int .i64 0, .int .i64 0, .int .i64 0, .int .i64 0, .int .i64 0, .int .i64 0, .int .i64 0, .int .i64 0, .slice none 0 0] 35)) rb b2 w.heap.size := ⟨(Ws.new (heap_alloc_new w (.cells #[.int .i64 0, .int .i64 0, .int .i64 0, .int .i64 0, .int .i64 0, .int .i64 0, .int .i64 0, .int .i64 0, .int .i64 0, .int .i64 0, .slice none 0 0] 35)) : Ws _ w.heap.size zW), by have := D.r.lt; omega, by have := D.x2.lt; omega, D.o.size⟩
    generalize w.alloc (.cells #[.int .i64 0, .int .i64 0, .int .i64 0, .int .i64 0, .int .i64 0, .int .i64 0, .int .i64 0, .int .i64 0, .int .i64 0, .int .i64 0, .slice none 0 0] 35) = w1 at *
    exact dw_1100 hQ hC D1 hp hst E1 (by first | rfl | kernel_rfl)
set_option maxRecDepth 20000 in
set_option maxHeartbeats 4000000 in
theorem dw_0000 {G : Cd} {B : Nat} {rb : Nat} {p : Nat} {b2 : Nat} {u : World} {w : World} {fr : Int} {st : Int} {n5 : Int} {n17 : Int} {Q : Exit → Act → World → Prop} {ls : Array Bool} (hQ : DwQ Q G B rb u b2 fr st) (hC : ∀ (c : List PanicEntry) (d : Option Nat) (v : Value) (a : Act) (w : World), Q (.panic c) (a.put d v) w → Q (.panic c) a w) (D : Dw G B rb p u w b2) (hp : p < 500000) (hst : 0 ≤ st ∧ st ≤ 1) (hl : ls = #[true, false, false, true, true, true, true, false, false, true, false, false, true, false, false, false, true, true, true, false, false, true, false, true, true, false, false, false, false]) :
    wpAnyH Tryz.prog .any wops Q (fun _ => True) 16 ls { tmps := #[.pointer (some ⟨rb, 0, none⟩), undef, .pointer (some ⟨b2, 0, none⟩), .int .i64 fr, .int .i64 st, undef, .pointer (some ⟨rb, 0, none⟩), .int .i64 fr, .int .i64 fr, .int .i64 st, .pointer (some ⟨rb, 0, none⟩), undef, undef, .int .i64 fr, .int .i64 st, .int .i64 n5, .pointer (some ⟨rb, 0, none⟩), undef, undef, .pointer (some ⟨rb, 0, none⟩), undef, undef, .pointer (some ⟨rb, 0, none⟩), undef, undef, undef, .int .i64 st, .int .i64 n17, .pointer (some ⟨rb, 0, none⟩), undef, undef, .pointer (some ⟨rb, 0, none⟩), undef, .pointer (some ⟨rb, 0, none⟩), .int .i64 st, undef, undef, undef, undef, undef, undef, undef, undef, undef, undef, undef, undef, undef, undef, undef, undef, undef, undef, undef, undef, undef, undef], defers := [] } w := by
  subst hl
  refine wpAnyH_ready (rs := [1, 27]) (by kernel_rfl) (by simp) ?_
  refine (AllReadyH.cons (o := { dst := some 11, op := .call { callee := .value (.func 29), args := #[.tmp 10, .const (.int .i64 6)], argTypes := #[44, 3] }, type := 3, pos := "l61_draw.go:286", after := #[{ on := 0, ground := .data }], guard := none }) rfl (fun K hK => ?_) (AllReadyH.cons (o := { dst := some 5, op := .alloc 35, type := 0, pos := "l61_draw.go:286", after := #[], guard := none }) rfl (fun K hK => ?_) AllReadyH.nil))
  · go_simp
    refine (pick_any B rb p 6 _ D.r (by omega)).mono ?_
    rintro r w1 ⟨rfl, hk, r1, o1'⟩
    have o1 := o1'.off
    generalize G.pk p 6 = k1 at *
    have D1 := D.step r1 o1
    go_wp2_with fail
    refine hK.out _ _ trivial (fun _ => ?_)
    clear hK K
    (try simp only [pq])
    refine wpAnyH_take (i := 2) (oi := { dst := some 12, op := .binOp .add 3 (.const (.int .i64 1)) (.tmp 11) 3, type := 3, pos := "l61_draw.go:286", after := #[{ on := 1, ground := .data }], guard := none }) (v := ?_) rfl (by kernel_rfl) (by kernel_rfl) (by kernel_rfl) (fun _ _ _ h => hC _ _ _ _ _ h) (Or.inl ⟨by rfl, ?_⟩) (by assumption) ?_
    rotate_left 1
    · (intro w hSw; (try dsimp only at hSw); go_simp; try with_reducible rfl)
    (try simp only [pq])
    exact dw_1000 hQ hC D1 (by omega) hst (by first | rfl | kernel_rfl)
  · go_simp
    refine hK.out _ _ trivial (fun _ => ?_)
    clear hK K
    (try simp only [pq])
    have o1 : Off rb w (w.alloc (.cells #[.int .i64 0, .int .i64 0, .int .i64 0, .int .i64 0, .int .i64 0, .int .i64 0, .int .i64 0, .int .i64 0, .int .i64 0, .int .i64 0, .slice none 0 0] 35)) := (Off.refl rb w).alloc _
    have D1 := D.alloc (.cells #[.int .i64 0, .int .i64 0, .int .i64 0, .int .i64 0, .int .i64 0, .int .i64 0, .int .i64 0, .int .i64 0, .int .i64 0, .int .i64 0, .slice none 0 0] 35)
    have E1 : B5 u (w.alloc (.cells #[.int .i64 0, .int .i64 0, .int .i64 0, .int .i64 0, .int .i64 0, .int .i64 0, .int .i64 0, .int .i64 0, .int .i64 0, .int .i64 0, .slice none 0 0] 35)) rb b2 w.heap.size := ⟨(Ws.new (heap_alloc_new w (.cells #[.int .i64 0, .int .i64 0, .int .i64 0, .int .i64 0, .int .i64 0, .int .i64 0, .int .i64 0, .int .i64 0, .int .i64 0, .int .i64 0, .slice none 0 0] 35)) : Ws _ w.heap.size zW), by have := D.r.lt; omega, by have := D.x2.lt; omega, D.o.size⟩
    generalize w.alloc (.cells #[.int .i64 0, .int .i64 0, .int .i64 0, .int .i64 0, .int .i64 0, .int .i64 0, .int .i64 0, .int .i64 0, .int .i64 0, .int .i64 0, .slice none 0 0] 35) = w1 at *
    exact dw_0100 hQ hC D1 hp hst E1 (by first | rfl | kernel_rfl)
end Go.Proofs.YtibnojbhoepcdaaGreatDoor
