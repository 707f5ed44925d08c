/- Nodes: copies of what they hold. -/
import Derived.Test.YtgcdcfjaeehnbaaGreatNd11
import Derived.Test.YtgcdcfjaeehnbaaGreatGatesF
import Derived.Test.YtgcdcfjaeehnbaaGreatExWord
namespace Go.Proofs.YtgcdcfjaeehnbaaGreat
open Go.ChangeShapes Go.WideShapes Go.ChangeAt Go.RowKit
attribute [local go_sem ↓] Go.wp_at_zero Go.wp_at_succ
theorem Ws.far {w : World} {b b' k : Nat} {v : Value} {xs : List Value} (h : Ws w b xs) (hb : b ≠ b') : Ws (w.setCell ⟨b', k, none⟩ v) b xs :=
  ⟨by simpa [World.setCell] using h.lt, fun i u hv => cs_far _ hb (h.c i u hv), fun o => by rw [World.frozen?_setCell]; exact h.z o⟩
theorem Ws.set {w : World} {b : Nat} {xs : List Value} (h : Ws w b xs) (i : Nat) (hi : i < xs.length) (v : Value) : Ws (w.setCell ⟨b, i, none⟩ v) b (xs.set i v) := by
  refine ⟨by simpa [World.setCell] using h.lt, fun j u hu => ?_, fun o => by rw [World.frozen?_setCell]; exact h.z o⟩
  by_cases e : i = j
  · subst e
    rw [List.getElem?_set_self hi] at hu
    injection hu with hu
    subst hu
    rw [World.cell?_setCell_same' _ _ _ (by rw [h.c i xs[i] (List.getElem?_eq_getElem hi)]; rfl)]
  · rw [List.getElem?_set_ne e] at hu
    exact (World.cell?_setCell_other _ _ _ _ (by simp)).trans (h.c j u hu)
theorem ISl.far {w : World} {b' k : Nat} {v : Value} {bb : Nat} {len : Nat} {f : Nat → Int} (h : ISl w (some ⟨bb, 0, none⟩) len f) (hb : bb ≠ b') : ISl (w.setCell ⟨b', k, none⟩ v) (some ⟨bb, 0, none⟩) len f := fun hl => by
  obtain ⟨b, off, e, hlt, hf⟩ := h hl
  injection e with e
  injection e with e1 e2
  subst e1 e2
  exact ⟨bb, 0, rfl, by simpa [World.setCell] using hlt, fun j hj => cs_far _ hb (hf j hj)⟩
theorem FSl.far {w : World} {b' k : Nat} {v : Value} {bb : Nat} {len : Nat} {f : Nat → Fc} (h : FSl w (some ⟨bb, 0, none⟩) len f) (hb : bb ≠ b') : FSl (w.setCell ⟨b', k, none⟩ v) (some ⟨bb, 0, none⟩) len f := fun hl => by
  obtain ⟨b, off, e, hlt, hf⟩ := h hl
  injection e with e
  injection e with e1 e2
  subst e1 e2
  refine ⟨bb, 0, rfl, by simpa [World.setCell] using hlt, fun j hj => ?_⟩
  obtain ⟨h0, h1, h2, h3⟩ := hf j hj
  exact ⟨cs_far _ hb h0, cs_far _ hb h1, cs_far _ hb h2, cs_far _ hb h3⟩
def nv (f : Nat → Int) (k : Nat) : Value := .int .i64 (f k)
theorem run_make_ints (n : Nat) (hn : n ≤ 1048576) (w : World) :
    (Instr.makeSlice 54 (.int .i64 (n : Int)) (.int .i64 (n : Int))).run Tryz.prog w = .ok (.slice (some ⟨w.heap.size, 0, none⟩) n n) (w.alloc (.cells (madeCells #[.int .i64 0] (n * 1)) 3)) := by
  have hinf : (Tryz.prog.info? 3).map (fun i => (i.zero, i.size, i.bytes)) = some (some (.int .i64 0), 1, 8) := by kernel_rfl
  obtain ⟨i, hi, hzz⟩ := Option.map_eq_some_iff.1 hinf
  simp only [Prod.mk.injEq] at hzz
  obtain ⟨hz, hs, hb⟩ := hzz
  have hr := run_make (P := Tryz.prog) w 54 3 i _ Tryz.underlying54 hi hz .i64 .i64 n n (by omega) (Int.le_refl _) (by rw [hb]; omega) (by omega)
  rw [hr, hs, Int.toNat_natCast]
  rfl
theorem nrow_made (n : Nat) (w : World) : (w.alloc (.cells (madeCells #[.int .i64 0] (n * 1)) 3)).rowIs w.heap.size 3 n (nv fun _ => 0) :=
  ⟨_, heap_alloc_new _ _, (size_madeCells _ _).trans (Nat.mul_one n), fun i hi => by
    have : i % 1 = 0 := by omega
    simp [madeCells, hi, nv, this]⟩
/-- a row's own block alone tells it -/
theorem row_of {w w' : World} {b t n : Nat} {f : Nat → Value} (h : w.rowIs b t n f) (e : w'.heap[b]? = w.heap[b]?) : w'.rowIs b t n f := by
  obtain ⟨cs, h1, h2⟩ := h
  exact ⟨cs, e.trans h1, h2⟩
/-- numbers that lie in a row of their own -/
def IRow (w : World) (a : Option Addr) (len : Nat) (f : Nat → Int) : Prop := ∃ bb, a = some ⟨bb, 0, none⟩ ∧ w.rowIs bb 3 len (nv f)
def FRow (w : World) (a : Option Addr) (len : Nat) (F : Nat → Fc) : Prop := ∃ bb, a = some ⟨bb, 0, none⟩ ∧ w.rowIs bb 96 (len * 4) (fv F)
theorem IRow.far {w : World} {b' k : Nat} {v : Value} {bb : Nat} {len : Nat} {f : Nat → Int} (h : IRow w (some ⟨bb, 0, none⟩) len f) (hb : bb ≠ b') : IRow (w.setCell ⟨b', k, none⟩ v) (some ⟨bb, 0, none⟩) len f := by
  obtain ⟨b, e, h⟩ := h
  injection e with e
  injection e with e
  subst e
  exact ⟨bb, rfl, row_of h (heap_setCell_other w ⟨b', k, none⟩ bb v (by simpa using hb))⟩
theorem FRow.far {w : World} {b' k : Nat} {v : Value} {bb : Nat} {len : Nat} {f : Nat → Fc} (h : FRow w (some ⟨bb, 0, none⟩) len f) (hb : bb ≠ b') : FRow (w.setCell ⟨b', k, none⟩ v) (some ⟨bb, 0, none⟩) len f := by
  obtain ⟨b, e, h⟩ := h
  injection e with e
  injection e with e
  subst e
  exact ⟨bb, rfl, row_of h (heap_setCell_other w ⟨b', k, none⟩ bb v (by simpa using hb))⟩
theorem IRow.below {w w' : World} {a : Option Addr} {len : Nat} {f : Nat → Int} (h : IRow w a len f) (hb : Below w.heap.size w w') : IRow w' a len f := by
  obtain ⟨b, e, h⟩ := h
  exact ⟨b, e, row_below h hb⟩
theorem FRow.below {w w' : World} {a : Option Addr} {len : Nat} {f : Nat → Fc} (h : FRow w a len f) (hb : Below w.heap.size w w') : FRow w' a len f := by
  obtain ⟨b, e, h⟩ := h
  exact ⟨b, e, row_below h hb⟩
theorem IRow.sl {w : World} {a : Option Addr} {len : Nat} {f : Nat → Int} (h : IRow w a len f) : ISl w a len f := by
  obtain ⟨b, rfl, h⟩ := h
  exact fun _ => ⟨b, 0, rfl, h.lt, fun j hj => by have := h.cell (i := j) hj; simpa [nv] using this⟩
theorem FRow.sl {w : World} {a : Option Addr} {len : Nat} {f : Nat → Fc} (h : FRow w a len f) : FSl w a len f := by
  obtain ⟨b, rfl, h⟩ := h
  exact fsl_row h
set_option maxHeartbeats 400000 in
theorem toInts_any (a : Option Addr) (len cap : Nat) (f : Nat → Int) (w : World) (h : ISl w a len f) (hl : len ≤ 1048576) (hc : len ≤ cap) :
    Calls Tryz.prog 148 #[.slice a len cap] w fun e w' => ∃ b, e = .returned (.slice (some ⟨b, 0, none⟩) len len) ∧ IRow w' (some ⟨b, 0, none⟩) len f ∧ w.heap.size ≤ b ∧ Below w.heap.size w w' := by
  have hmk := run_make_ints len hl
  go_enter Tryz.func148, Tryz.ntmps148
  go_wp2
  go_loopw [4] (fun i wr => ∃ k : Nat, k ≤ len ∧ i = .int .i64 k ∧ Below w.heap.size w wr ∧ wr.rowIs w.heap.size 3 len (nv fun j => if j < k then f j else 0)) (fun i _ => len - (intOf i).toNat)
  case atStart => exact ⟨0, Nat.zero_le _, rfl, balloc _ (Below.refl _ _), by simpa using nrow_made len w⟩
  case round =>
    obtain ⟨k, hk, rfl, hb, hr⟩ := hrel
    clear hmk
    by_cases hlt : k < len
    · obtain ⟨b, off, rfl, hbl, hf⟩ := h (by omega)
      have c0 := (hf.below hb hbl) k hlt
      have d0 := hr.cell (i := k) (by omega)
      have z0 := hr.frozen k
      go_wp2
      go_roundw
      case rel =>
        refine ⟨k + 1, by omega, by go_num, hb.setCell (p := ⟨w.heap.size, k, none⟩) (Nat.le_refl _) _, (hr.set k _).congr fun j _ => ?_⟩
        by_cases e : j = k
        · subst e; simp [nv]
        · have : j < k + 1 ↔ j < k := by omega
          simp [nv, e, this]
      case measure => simp [intOf]; omega
    · go_wp2
      go_ret
      have e : k = len := by omega
      subst e
      exact ⟨w.heap.size, rfl, ⟨_, rfl, hr.congr fun j hj => by simp [nv, hj]⟩, Nat.le_refl _, hb⟩
theorem toFactsR_any (a : Option Addr) (len cap : Nat) (F : Nat → Fc) (w : World) (h : FSl w a len F) (hl : len ≤ 1048576) (hc : len ≤ cap) :
    Calls Tryz.prog 31 #[.slice a len cap] w fun e w' => ∃ b, e = .returned (.slice (some ⟨b, 0, none⟩) len len) ∧ FRow w' (some ⟨b, 0, none⟩) len F ∧ w.heap.size ≤ b ∧ Below w.heap.size w w' :=
  (toFactS_row a len cap F w h hl hc).mono (by rintro e w' ⟨b, rfl, h1, h2, h3⟩; exact ⟨b, rfl, ⟨b, rfl, h1⟩, h2, h3⟩)
theorem szInts_any (a : Option Addr) (len cap : Nat) (left : Int) (w : World) (h0 : 0 ≤ left) (h1 : left ≤ 1048576) (hl : len ≤ maxLen) :
    Calls Tryz.prog 138 #[.slice a len cap, .int .i64 left] w fun e w' => e = .returned (.int .i64 (if left < (len : Int) then -1 else left - len)) ∧ w' = w := by
  unfold maxLen at hl
  go_enter Tryz.func138, Tryz.ntmps138
  go_wp2
  all_goals (go_ret; exact ⟨ret_int (by first | rfl | (split <;> omega)), rfl⟩)
theorem toCoordB_any (x y h e : Int) (w : World) :
    Calls Tryz.prog 35 #[.agg #[.int .i64 x, .int .i64 y, .int .i64 h, .int .i64 e]] w fun r w' => r = .returned (.agg #[.int .i64 x, .int .i64 y, .int .i64 h, .int .i64 e]) ∧ Below w.heap.size w w' :=
  (toCoord_any x y h e w).mono (by rintro r w' ⟨rfl, o1, o2, o3, rfl⟩; exact ⟨rfl, balloc _ (balloc _ (balloc _ (Below.refl _ _)))⟩)
set_option maxRecDepth 20000 in
set_option maxHeartbeats 4000000 in
theorem Dtto_any (n i s : Int) (ba : Option Addr) (bl bc : Nat) (bf : Nat → Int) (w : World) (hB : ISl w ba bl bf) (hbl : bl ≤ 1048576) (hc : bl ≤ bc) :
    Calls Tryz.prog 95 #[.agg #[.int .i64 n, .int .i64 i, .int .i64 s, .slice ba bl bc]] w fun r w' => ∃ bb, r = .returned (.agg #[.int .i64 n, .int .i64 i, .int .i64 s, .slice (some ⟨bb, 0, none⟩) bl bl]) ∧ IRow w' (some ⟨bb, 0, none⟩) bl bf ∧ w.heap.size ≤ bb ∧ Below w.heap.size w w' := by
  go_enter Tryz.func95, Tryz.ntmps95
  have hs1 : (w.alloc (.cells #[.int .i64 n, .int .i64 i, .int .i64 s, .slice ba bl bc] 109)).heap.size = w.heap.size + 1 := by simp [go_sem]
  have hs2 : ((w.alloc (.cells #[.int .i64 n, .int .i64 i, .int .i64 s, .slice ba bl bc] 109)).alloc (.cells #[.int .i64 0, .int .i64 0, .int .i64 0, .slice none 0 0] 121)).heap.size = w.heap.size + 1 + 1 := by simp [go_sem]
  have X := ((Ws.box (w := w) #[.int .i64 n, .int .i64 i, .int .i64 s, .slice ba bl bc] 109).alloc (.cells #[.int .i64 0, .int .i64 0, .int .i64 0, .slice none 0 0] 121)).alloc (.cells #[.int .i64 0, .int .i64 0, .int .i64 0, .slice none 0 0] 121)
  have R := (Ws.box (w := w.alloc (.cells #[.int .i64 n, .int .i64 i, .int .i64 s, .slice ba bl bc] 109)) #[.int .i64 0, .int .i64 0, .int .i64 0, .slice none 0 0] 121).alloc (.cells #[.int .i64 0, .int .i64 0, .int .i64 0, .slice none 0 0] 121)
  have Y := Ws.box (w := (w.alloc (.cells #[.int .i64 n, .int .i64 i, .int .i64 s, .slice ba bl bc] 109)).alloc (.cells #[.int .i64 0, .int .i64 0, .int .i64 0, .slice none 0 0] 121)) #[.int .i64 0, .int .i64 0, .int .i64 0, .slice none 0 0] 121
  rw [hs1] at R
  rw [hs2] at Y
  have b0 := balloc (.cells #[.int .i64 0, .int .i64 0, .int .i64 0, .slice none 0 0] 121) (balloc (.cells #[.int .i64 0, .int .i64 0, .int .i64 0, .slice none 0 0] 121) (balloc (.cells #[.int .i64 n, .int .i64 i, .int .i64 s, .slice ba bl bc] 109) (Below.refl w.heap.size w)))
  clear hs1 hs2
  go_upto_region 2 with fail
  generalize ((w.alloc (.cells #[.int .i64 n, .int .i64 i, .int .i64 s, .slice ba bl bc] 109)).alloc (.cells #[.int .i64 0, .int .i64 0, .int .i64 0, .slice none 0 0] 121)).alloc (.cells #[.int .i64 0, .int .i64 0, .int .i64 0, .slice none 0 0] 121) = u at *
  have n1 : w.heap.size ≠ w.heap.size + 1 + 1 := by omega
  have n2 : w.heap.size + 1 ≠ w.heap.size + 1 + 1 := by omega
  have g1 : w.heap.size ≤ w.heap.size + 1 := by omega
  have g2 : w.heap.size ≤ w.heap.size + 1 + 1 := by omega
  generalize w.heap.size + 1 + 1 = KO at *
  generalize w.heap.size + 1 = KR at *
  have dx := X.c 0 (.int .i64 n) rfl
  have yy0 := Y.c 0 (.int .i64 0) rfl
  have zz0 := Y.z 0
  go_upto_region 3 with fail
  have X' := (X.far (k := 0) (v := .int .i64 n) n1)
  have R' := (R.far (k := 0) (v := .int .i64 n) n2)
  have Y' : Ws _ KO [.int .i64 n, .int .i64 0, .int .i64 0, .slice none 0 0] := (Y.set 0 (by simp) (.int .i64 n))
  have b0' := (b0.setCell (p := ⟨KO, 0, none⟩) g2 (.int .i64 n))
  clear dx yy0 zz0
  clear X R Y b0
  generalize (u.setCell ⟨KO, 0, none⟩ (.int .i64 n)) = u1 at *
  have X := X'
  have R := R'
  have Y := Y'
  have b0 := b0'
  clear X' R' Y' b0'
  have dx := X.c 1 (.int .i64 i) rfl
  have yy1 := Y.c 1 (.int .i64 0) rfl
  have zz1 := Y.z 1
  go_upto_region 4 with fail
  have X' := (X.far (k := 1) (v := .int .i64 i) n1)
  have R' := (R.far (k := 1) (v := .int .i64 i) n2)
  have Y' : Ws _ KO [.int .i64 n, .int .i64 i, .int .i64 0, .slice none 0 0] := (Y.set 1 (by simp) (.int .i64 i))
  have b0' := (b0.setCell (p := ⟨KO, 1, none⟩) g2 (.int .i64 i))
  clear dx yy1 zz1
  clear X R Y b0
  generalize (u1.setCell ⟨KO, 1, none⟩ (.int .i64 i)) = u2 at *
  have X := X'
  have R := R'
  have Y := Y'
  have b0 := b0'
  clear X' R' Y' b0'
  have dx := X.c 2 (.int .i64 s) rfl
  have yy2 := Y.c 2 (.int .i64 0) rfl
  have zz2 := Y.z 2
  go_upto_region 5 with fail
  have X' := (X.far (k := 2) (v := .int .i64 s) n1)
  have R' := (R.far (k := 2) (v := .int .i64 s) n2)
  have Y' : Ws _ KO [.int .i64 n, .int .i64 i, .int .i64 s, .slice none 0 0] := (Y.set 2 (by simp) (.int .i64 s))
  have b0' := (b0.setCell (p := ⟨KO, 2, none⟩) g2 (.int .i64 s))
  clear dx yy2 zz2
  clear X R Y b0
  generalize (u2.setCell ⟨KO, 2, none⟩ (.int .i64 s)) = u3 at *
  have X := X'
  have R := R'
  have Y := Y'
  have b0 := b0'
  clear X' R' Y' b0'
  have dx := X.c 3 (.slice ba bl bc) rfl
  go_wp2_with fail
  refine (toInts_any ba bl bc bf _ (hB.below b0) hbl hc).mono ?_
  rintro r w2 ⟨bb, rfl, hI, hbb, k2⟩
  have X' := X.below k2
  have R' := R.below k2
  have Y' := Y.below k2
  have b0' := btrans b0 k2
  have hO := Nat.ne_of_lt (Nat.lt_of_lt_of_le Y.lt hbb)
  have hR := Nat.ne_of_lt (Nat.lt_of_lt_of_le R.lt hbb)
  have hbb2 : w.heap.size ≤ bb := by have := b0.size; omega
  clear X R Y b0 k2 dx
  have X := X'
  have R := R'
  have Y := Y'
  have b0 := b0'
  clear X' R' Y' b0'
  have yy3 := Y.c 3 (.slice none 0 0) rfl
  have zz3 := Y.z 3
  go_upto_region 6 with fail
  have X' := (X.far (k := 3) (v := .slice (some ⟨bb, 0, none⟩) bl bl) n1)
  have R' := (R.far (k := 3) (v := .slice (some ⟨bb, 0, none⟩) bl bl) n2)
  have Y' : Ws _ KO [.int .i64 n, .int .i64 i, .int .i64 s, .slice (some ⟨bb, 0, none⟩) bl bl] := (Y.set 3 (by simp) (.slice (some ⟨bb, 0, none⟩) bl bl))
  have b0' := (b0.setCell (p := ⟨KO, 3, none⟩) g2 (.slice (some ⟨bb, 0, none⟩) bl bl))
  have hI' := hI.far (b' := KO) (k := 3) (v := .slice (some ⟨bb, 0, none⟩) bl bl) hO.symm
  clear yy3 zz3 hI
  clear X R Y b0
  generalize (w2.setCell ⟨KO, 3, none⟩ (.slice (some ⟨bb, 0, none⟩) bl bl)) = u4 at *
  have X := X'
  have R := R'
  have Y := Y'
  have b0 := b0'
  clear X' R' Y' b0'
  have hI := hI'
  clear hI'
  have y0 := Y.c 0 (.int .i64 n) rfl
  have r0 := R.c 0 (.int .i64 0) rfl
  have z0 := R.z 0
  have y1 := Y.c 1 (.int .i64 i) rfl
  have r1 := R.c 1 (.int .i64 0) rfl
  have z1 := R.z 1
  have y2 := Y.c 2 (.int .i64 s) rfl
  have r2 := R.c 2 (.int .i64 0) rfl
  have z2 := R.z 2
  have y3 := Y.c 3 (.slice (some ⟨bb, 0, none⟩) bl bl) rfl
  have r3 := R.c 3 (.slice none 0 0) rfl
  have z3 := R.z 3
  go_wp2
  have R2 : Ws _ KR [.int .i64 n, .int .i64 i, .int .i64 s, .slice (some ⟨bb, 0, none⟩) bl bl] := ((((R.set 0 (by simp) (.int .i64 n)).set 1 (by simp) (.int .i64 i)).set 2 (by simp) (.int .i64 s)).set 3 (by simp) (.slice (some ⟨bb, 0, none⟩) bl bl))
  refine bodyPost_ret (v := .agg #[.int .i64 n, .int .i64 i, .int .i64 s, .slice (some ⟨bb, 0, none⟩) bl bl]) (by simp [results, Tryz.results95, go_sem, R2.c 0 (.int .i64 n) rfl, R2.c 1 (.int .i64 i) rfl, R2.c 2 (.int .i64 s) rfl, R2.c 3 (.slice (some ⟨bb, 0, none⟩) bl bl) rfl]) rfl ⟨bb, rfl, ((((hI.far (b' := KR) (k := 0) (v := .int .i64 n) hR.symm).far (b' := KR) (k := 1) (v := .int .i64 i) hR.symm).far (b' := KR) (k := 2) (v := .int .i64 s) hR.symm).far (b' := KR) (k := 3) (v := .slice (some ⟨bb, 0, none⟩) bl bl) hR.symm), hbb2, ((((b0.setCell (p := ⟨KR, 0, none⟩) g1 (.int .i64 n)).setCell (p := ⟨KR, 1, none⟩) g1 (.int .i64 i)).setCell (p := ⟨KR, 2, none⟩) g1 (.int .i64 s)).setCell (p := ⟨KR, 3, none⟩) g1 (.slice (some ⟨bb, 0, none⟩) bl bl))⟩
set_option maxRecDepth 20000 in
set_option maxHeartbeats 4000000 in
theorem Plto_any (n x y h e : Int) (ba : Option Addr) (bl bc : Nat) (bf : Nat → Int) (w : World) (hB : ISl w ba bl bf) (hbl : bl ≤ 1048576) (hc : bl ≤ bc) :
    Calls Tryz.prog 96 #[.agg #[.int .i64 n, .int .i64 x, .int .i64 y, .int .i64 h, .int .i64 e, .slice ba bl bc]] w fun r w' => ∃ bb, r = .returned (.agg #[.int .i64 n, .int .i64 x, .int .i64 y, .int .i64 h, .int .i64 e, .slice (some ⟨bb, 0, none⟩) bl bl]) ∧ IRow w' (some ⟨bb, 0, none⟩) bl bf ∧ w.heap.size ≤ bb ∧ Below w.heap.size w w' := by
  go_enter Tryz.func96, Tryz.ntmps96
  have hs1 : (w.alloc (.cells #[.int .i64 n, .int .i64 x, .int .i64 y, .int .i64 h, .int .i64 e, .slice ba bl bc] 112)).heap.size = w.heap.size + 1 := by simp [go_sem]
  have hs2 : ((w.alloc (.cells #[.int .i64 n, .int .i64 x, .int .i64 y, .int .i64 h, .int .i64 e, .slice ba bl bc] 112)).alloc (.cells #[.int .i64 0, .int .i64 0, .int .i64 0, .int .i64 0, .int .i64 0, .slice none 0 0] 103)).heap.size = w.heap.size + 1 + 1 := by simp [go_sem]
  have X := ((Ws.box (w := w) #[.int .i64 n, .int .i64 x, .int .i64 y, .int .i64 h, .int .i64 e, .slice ba bl bc] 112).alloc (.cells #[.int .i64 0, .int .i64 0, .int .i64 0, .int .i64 0, .int .i64 0, .slice none 0 0] 103)).alloc (.cells #[.int .i64 0, .int .i64 0, .int .i64 0, .int .i64 0, .int .i64 0, .slice none 0 0] 103)
  have R := (Ws.box (w := w.alloc (.cells #[.int .i64 n, .int .i64 x, .int .i64 y, .int .i64 h, .int .i64 e, .slice ba bl bc] 112)) #[.int .i64 0, .int .i64 0, .int .i64 0, .int .i64 0, .int .i64 0, .slice none 0 0] 103).alloc (.cells #[.int .i64 0, .int .i64 0, .int .i64 0, .int .i64 0, .int .i64 0, .slice none 0 0] 103)
  have Y := Ws.box (w := (w.alloc (.cells #[.int .i64 n, .int .i64 x, .int .i64 y, .int .i64 h, .int .i64 e, .slice ba bl bc] 112)).alloc (.cells #[.int .i64 0, .int .i64 0, .int .i64 0, .int .i64 0, .int .i64 0, .slice none 0 0] 103)) #[.int .i64 0, .int .i64 0, .int .i64 0, .int .i64 0, .int .i64 0, .slice none 0 0] 103
  rw [hs1] at R
  rw [hs2] at Y
  have b0 := balloc (.cells #[.int .i64 0, .int .i64 0, .int .i64 0, .int .i64 0, .int .i64 0, .slice none 0 0] 103) (balloc (.cells #[.int .i64 0, .int .i64 0, .int .i64 0, .int .i64 0, .int .i64 0, .slice none 0 0] 103) (balloc (.cells #[.int .i64 n, .int .i64 x, .int .i64 y, .int .i64 h, .int .i64 e, .slice ba bl bc] 112) (Below.refl w.heap.size w)))
  clear hs1 hs2
  go_upto_region 2 with fail
  generalize ((w.alloc (.cells #[.int .i64 n, .int .i64 x, .int .i64 y, .int .i64 h, .int .i64 e, .slice ba bl bc] 112)).alloc (.cells #[.int .i64 0, .int .i64 0, .int .i64 0, .int .i64 0, .int .i64 0, .slice none 0 0] 103)).alloc (.cells #[.int .i64 0, .int .i64 0, .int .i64 0, .int .i64 0, .int .i64 0, .slice none 0 0] 103) = u at *
  have n1 : w.heap.size ≠ w.heap.size + 1 + 1 := by omega
  have n2 : w.heap.size + 1 ≠ w.heap.size + 1 + 1 := by omega
  have g1 : w.heap.size ≤ w.heap.size + 1 := by omega
  have g2 : w.heap.size ≤ w.heap.size + 1 + 1 := by omega
  generalize w.heap.size + 1 + 1 = KO at *
  generalize w.heap.size + 1 = KR at *
  have dx := X.c 0 (.int .i64 n) rfl
  have yy0 := Y.c 0 (.int .i64 0) rfl
  have zz0 := Y.z 0
  go_upto_region 3 with fail
  have X' := (X.far (k := 0) (v := .int .i64 n) n1)
  have R' := (R.far (k := 0) (v := .int .i64 n) n2)
  have Y' : Ws _ KO [.int .i64 n, .int .i64 0, .int .i64 0, .int .i64 0, .int .i64 0, .slice none 0 0] := (Y.set 0 (by simp) (.int .i64 n))
  have b0' := (b0.setCell (p := ⟨KO, 0, none⟩) g2 (.int .i64 n))
  clear dx yy0 zz0
  clear X R Y b0
  generalize (u.setCell ⟨KO, 0, none⟩ (.int .i64 n)) = u1 at *
  have X := X'
  have R := R'
  have Y := Y'
  have b0 := b0'
  clear X' R' Y' b0'
  have dx1 := X.c 1 (.int .i64 x) rfl
  have dx2 := X.c 2 (.int .i64 y) rfl
  have dx3 := X.c 3 (.int .i64 h) rfl
  have dx4 := X.c 4 (.int .i64 e) rfl
  go_wp2_with fail
  refine (toCoordB_any x y h e _).mono ?_
  rintro r w1 ⟨rfl, k1⟩
  clear dx1 dx2 dx3 dx4
  have X' := X.below k1
  have R' := R.below k1
  have Y' := Y.below k1
  have b0' := btrans b0 k1
  clear X R Y b0 k1
  have X := X'
  have R := R'
  have Y := Y'
  have b0 := b0'
  clear X' R' Y' b0'
  have yy1 := Y.c 1 (.int .i64 0) rfl
  have zz1 := Y.z 1
  have yy2 := Y.c 2 (.int .i64 0) rfl
  have zz2 := Y.z 2
  have yy3 := Y.c 3 (.int .i64 0) rfl
  have zz3 := Y.z 3
  have yy4 := Y.c 4 (.int .i64 0) rfl
  have zz4 := Y.z 4
  go_upto_region 4 with fail
  have X' := ((((X.far (k := 1) (v := .int .i64 x) n1).far (k := 2) (v := .int .i64 y) n1).far (k := 3) (v := .int .i64 h) n1).far (k := 4) (v := .int .i64 e) n1)
  have R' := ((((R.far (k := 1) (v := .int .i64 x) n2).far (k := 2) (v := .int .i64 y) n2).far (k := 3) (v := .int .i64 h) n2).far (k := 4) (v := .int .i64 e) n2)
  have Y' : Ws _ KO [.int .i64 n, .int .i64 x, .int .i64 y, .int .i64 h, .int .i64 e, .slice none 0 0] := ((((Y.set 1 (by simp) (.int .i64 x)).set 2 (by simp) (.int .i64 y)).set 3 (by simp) (.int .i64 h)).set 4 (by simp) (.int .i64 e))
  have b0' := ((((b0.setCell (p := ⟨KO, 1, none⟩) g2 (.int .i64 x)).setCell (p := ⟨KO, 2, none⟩) g2 (.int .i64 y)).setCell (p := ⟨KO, 3, none⟩) g2 (.int .i64 h)).setCell (p := ⟨KO, 4, none⟩) g2 (.int .i64 e))
  clear yy1 zz1 yy2 zz2 yy3 zz3 yy4 zz4
  clear X R Y b0
  generalize ((((w1.setCell ⟨KO, 1, none⟩ (.int .i64 x)).setCell ⟨KO, 2, none⟩ (.int .i64 y)).setCell ⟨KO, 3, none⟩ (.int .i64 h)).setCell ⟨KO, 4, none⟩ (.int .i64 e)) = u2 at *
  have X := X'
  have R := R'
  have Y := Y'
  have b0 := b0'
  clear X' R' Y' b0'
  have dx := X.c 5 (.slice ba bl bc) rfl
  go_wp2_with fail
  refine (toInts_any ba bl bc bf _ (hB.below b0) hbl hc).mono ?_
  rintro r w2 ⟨bb, rfl, hI, hbb, k2⟩
  have X' := X.below k2
  have R' := R.below k2
  have Y' := Y.below k2
  have b0' := btrans b0 k2
  have hO := Nat.ne_of_lt (Nat.lt_of_lt_of_le Y.lt hbb)
  have hR := Nat.ne_of_lt (Nat.lt_of_lt_of_le R.lt hbb)
  have hbb2 : w.heap.size ≤ bb := by have := b0.size; omega
  clear X R Y b0 k2 dx
  have X := X'
  have R := R'
  have Y := Y'
  have b0 := b0'
  clear X' R' Y' b0'
  have yy5 := Y.c 5 (.slice none 0 0) rfl
  have zz5 := Y.z 5
  go_upto_region 5 with fail
  have X' := (X.far (k := 5) (v := .slice (some ⟨bb, 0, none⟩) bl bl) n1)
  have R' := (R.far (k := 5) (v := .slice (some ⟨bb, 0, none⟩) bl bl) n2)
  have Y' : Ws _ KO [.int .i64 n, .int .i64 x, .int .i64 y, .int .i64 h, .int .i64 e, .slice (some ⟨bb, 0, none⟩) bl bl] := (Y.set 5 (by simp) (.slice (some ⟨bb, 0, none⟩) bl bl))
  have b0' := (b0.setCell (p := ⟨KO, 5, none⟩) g2 (.slice (some ⟨bb, 0, none⟩) bl bl))
  have hI' := hI.far (b' := KO) (k := 5) (v := .slice (some ⟨bb, 0, none⟩) bl bl) hO.symm
  clear yy5 zz5 hI
  clear X R Y b0
  generalize (w2.setCell ⟨KO, 5, none⟩ (.slice (some ⟨bb, 0, none⟩) bl bl)) = u3 at *
  have X := X'
  have R := R'
  have Y := Y'
  have b0 := b0'
  clear X' R' Y' b0'
  have hI := hI'
  clear hI'
  have y0 := Y.c 0 (.int .i64 n) rfl
  have r0 := R.c 0 (.int .i64 0) rfl
  have z0 := R.z 0
  have y1 := Y.c 1 (.int .i64 x) rfl
  have r1 := R.c 1 (.int .i64 0) rfl
  have z1 := R.z 1
  have y2 := Y.c 2 (.int .i64 y) rfl
  have r2 := R.c 2 (.int .i64 0) rfl
  have z2 := R.z 2
  have y3 := Y.c 3 (.int .i64 h) rfl
  have r3 := R.c 3 (.int .i64 0) rfl
  have z3 := R.z 3
  have y4 := Y.c 4 (.int .i64 e) rfl
  have r4 := R.c 4 (.int .i64 0) rfl
  have z4 := R.z 4
  have y5 := Y.c 5 (.slice (some ⟨bb, 0, none⟩) bl bl) rfl
  have r5 := R.c 5 (.slice none 0 0) rfl
  have z5 := R.z 5
  go_wp2
  have R2 : Ws _ KR [.int .i64 n, .int .i64 x, .int .i64 y, .int .i64 h, .int .i64 e, .slice (some ⟨bb, 0, none⟩) bl bl] := ((((((R.set 0 (by simp) (.int .i64 n)).set 1 (by simp) (.int .i64 x)).set 2 (by simp) (.int .i64 y)).set 3 (by simp) (.int .i64 h)).set 4 (by simp) (.int .i64 e)).set 5 (by simp) (.slice (some ⟨bb, 0, none⟩) bl bl))
  refine bodyPost_ret (v := .agg #[.int .i64 n, .int .i64 x, .int .i64 y, .int .i64 h, .int .i64 e, .slice (some ⟨bb, 0, none⟩) bl bl]) (by simp [results, Tryz.results96, go_sem, R2.c 0 (.int .i64 n) rfl, R2.c 1 (.int .i64 x) rfl, R2.c 2 (.int .i64 y) rfl, R2.c 3 (.int .i64 h) rfl, R2.c 4 (.int .i64 e) rfl, R2.c 5 (.slice (some ⟨bb, 0, none⟩) bl bl) rfl]) rfl ⟨bb, rfl, ((((((hI.far (b' := KR) (k := 0) (v := .int .i64 n) hR.symm).far (b' := KR) (k := 1) (v := .int .i64 x) hR.symm).far (b' := KR) (k := 2) (v := .int .i64 y) hR.symm).far (b' := KR) (k := 3) (v := .int .i64 h) hR.symm).far (b' := KR) (k := 4) (v := .int .i64 e) hR.symm).far (b' := KR) (k := 5) (v := .slice (some ⟨bb, 0, none⟩) bl bl) hR.symm), hbb2, ((((((b0.setCell (p := ⟨KR, 0, none⟩) g1 (.int .i64 n)).setCell (p := ⟨KR, 1, none⟩) g1 (.int .i64 x)).setCell (p := ⟨KR, 2, none⟩) g1 (.int .i64 y)).setCell (p := ⟨KR, 3, none⟩) g1 (.int .i64 h)).setCell (p := ⟨KR, 4, none⟩) g1 (.int .i64 e)).setCell (p := ⟨KR, 5, none⟩) g1 (.slice (some ⟨bb, 0, none⟩) bl bl))⟩
set_option maxRecDepth 20000 in
set_option maxHeartbeats 4000000 in
theorem Fgto_any (n : Int) (ba : Option Addr) (bl bc : Nat) (bf : Nat → Fc) (w : World) (hB : FSl w ba bl bf) (hbl : bl ≤ 1048576) (hc : bl ≤ bc) :
    Calls Tryz.prog 97 #[.agg #[.int .i64 n, .slice ba bl bc]] w fun r w' => ∃ bb, r = .returned (.agg #[.int .i64 n, .slice (some ⟨bb, 0, none⟩) bl bl]) ∧ FRow w' (some ⟨bb, 0, none⟩) bl bf ∧ w.heap.size ≤ bb ∧ Below w.heap.size w w' := by
  go_enter Tryz.func97, Tryz.ntmps97
  have hs1 : (w.alloc (.cells #[.int .i64 n, .slice ba bl bc] 115)).heap.size = w.heap.size + 1 := by simp [go_sem]
  have hs2 : ((w.alloc (.cells #[.int .i64 n, .slice ba bl bc] 115)).alloc (.cells #[.int .i64 0, .slice none 0 0] 123)).heap.size = w.heap.size + 1 + 1 := by simp [go_sem]
  have X := ((Ws.box (w := w) #[.int .i64 n, .slice ba bl bc] 115).alloc (.cells #[.int .i64 0, .slice none 0 0] 123)).alloc (.cells #[.int .i64 0, .slice none 0 0] 123)
  have R := (Ws.box (w := w.alloc (.cells #[.int .i64 n, .slice ba bl bc] 115)) #[.int .i64 0, .slice none 0 0] 123).alloc (.cells #[.int .i64 0, .slice none 0 0] 123)
  have Y := Ws.box (w := (w.alloc (.cells #[.int .i64 n, .slice ba bl bc] 115)).alloc (.cells #[.int .i64 0, .slice none 0 0] 123)) #[.int .i64 0, .slice none 0 0] 123
  rw [hs1] at R
  rw [hs2] at Y
  have b0 := balloc (.cells #[.int .i64 0, .slice none 0 0] 123) (balloc (.cells #[.int .i64 0, .slice none 0 0] 123) (balloc (.cells #[.int .i64 n, .slice ba bl bc] 115) (Below.refl w.heap.size w)))
  clear hs1 hs2
  go_upto_region 2 with fail
  generalize ((w.alloc (.cells #[.int .i64 n, .slice ba bl bc] 115)).alloc (.cells #[.int .i64 0, .slice none 0 0] 123)).alloc (.cells #[.int .i64 0, .slice none 0 0] 123) = u at *
  have n1 : w.heap.size ≠ w.heap.size + 1 + 1 := by omega
  have n2 : w.heap.size + 1 ≠ w.heap.size + 1 + 1 := by omega
  have g1 : w.heap.size ≤ w.heap.size + 1 := by omega
  have g2 : w.heap.size ≤ w.heap.size + 1 + 1 := by omega
  generalize w.heap.size + 1 + 1 = KO at *
  generalize w.heap.size + 1 = KR at *
  have dx := X.c 0 (.int .i64 n) rfl
  have yy0 := Y.c 0 (.int .i64 0) rfl
  have zz0 := Y.z 0
  go_upto_region 3 with fail
  have X' := (X.far (k := 0) (v := .int .i64 n) n1)
  have R' := (R.far (k := 0) (v := .int .i64 n) n2)
  have Y' : Ws _ KO [.int .i64 n, .slice none 0 0] := (Y.set 0 (by simp) (.int .i64 n))
  have b0' := (b0.setCell (p := ⟨KO, 0, none⟩) g2 (.int .i64 n))
  clear dx yy0 zz0
  clear X R Y b0
  generalize (u.setCell ⟨KO, 0, none⟩ (.int .i64 n)) = u1 at *
  have X := X'
  have R := R'
  have Y := Y'
  have b0 := b0'
  clear X' R' Y' b0'
  have dx := X.c 1 (.slice ba bl bc) rfl
  go_wp2_with fail
  refine (toFactsR_any ba bl bc bf _ (hB.below b0) hbl hc).mono ?_
  rintro r w2 ⟨bb, rfl, hI, hbb, k2⟩
  have X' := X.below k2
  have R' := R.below k2
  have Y' := Y.below k2
  have b0' := btrans b0 k2
  have hO := Nat.ne_of_lt (Nat.lt_of_lt_of_le Y.lt hbb)
  have hR := Nat.ne_of_lt (Nat.lt_of_lt_of_le R.lt hbb)
  have hbb2 : w.heap.size ≤ bb := by have := b0.size; omega
  clear X R Y b0 k2 dx
  have X := X'
  have R := R'
  have Y := Y'
  have b0 := b0'
  clear X' R' Y' b0'
  have yy1 := Y.c 1 (.slice none 0 0) rfl
  have zz1 := Y.z 1
  go_upto_region 4 with fail
  have X' := (X.far (k := 1) (v := .slice (some ⟨bb, 0, none⟩) bl bl) n1)
  have R' := (R.far (k := 1) (v := .slice (some ⟨bb, 0, none⟩) bl bl) n2)
  have Y' : Ws _ KO [.int .i64 n, .slice (some ⟨bb, 0, none⟩) bl bl] := (Y.set 1 (by simp) (.slice (some ⟨bb, 0, none⟩) bl bl))
  have b0' := (b0.setCell (p := ⟨KO, 1, none⟩) g2 (.slice (some ⟨bb, 0, none⟩) bl bl))
  have hI' := hI.far (b' := KO) (k := 1) (v := .slice (some ⟨bb, 0, none⟩) bl bl) hO.symm
  clear yy1 zz1 hI
  clear X R Y b0
  generalize (w2.setCell ⟨KO, 1, none⟩ (.slice (some ⟨bb, 0, none⟩) bl bl)) = u2 at *
  have X := X'
  have R := R'
  have Y := Y'
  have b0 := b0'
  clear X' R' Y' b0'
  have hI := hI'
  clear hI'
  have y0 := Y.c 0 (.int .i64 n) rfl
  have r0 := R.c 0 (.int .i64 0) rfl
  have z0 := R.z 0
  have y1 := Y.c 1 (.slice (some ⟨bb, 0, none⟩) bl bl) rfl
  have r1 := R.c 1 (.slice none 0 0) rfl
  have z1 := R.z 1
  go_wp2
  have R2 : Ws _ KR [.int .i64 n, .slice (some ⟨bb, 0, none⟩) bl bl] := ((R.set 0 (by simp) (.int .i64 n)).set 1 (by simp) (.slice (some ⟨bb, 0, none⟩) bl bl))
  refine bodyPost_ret (v := .agg #[.int .i64 n, .slice (some ⟨bb, 0, none⟩) bl bl]) (by simp [results, Tryz.results97, go_sem, R2.c 0 (.int .i64 n) rfl, R2.c 1 (.slice (some ⟨bb, 0, none⟩) bl bl) rfl]) rfl ⟨bb, rfl, ((hI.far (b' := KR) (k := 0) (v := .int .i64 n) hR.symm).far (b' := KR) (k := 1) (v := .slice (some ⟨bb, 0, none⟩) bl bl) hR.symm), hbb2, ((b0.setCell (p := ⟨KR, 0, none⟩) g1 (.int .i64 n)).setCell (p := ⟨KR, 1, none⟩) g1 (.slice (some ⟨bb, 0, none⟩) bl bl))⟩
end Go.Proofs.YtgcdcfjaeehnbaaGreat
