/- Lists out of functions. -/
import Derived.Test.YtgcdcfjaeehnbaaGreatInts
import Derived.Test.YtgcdcfjaeehnbaaGreatNd23
namespace Go.Proofs.YtgcdcfjaeehnbaaGreat
def seqF (F : Nat → Fc) (n : Nat) : List Fc := (List.range n).map F
theorem seqF_len (F : Nat → Fc) (n : Nat) : (seqF F n).length = n := by simp [seqF]
end Go.Proofs.YtgcdcfjaeehnbaaGreat
namespace Go.Proofs.YtgcdcfjaeehnbaaGreat
open Go.ChangeShapes Go.WideShapes Go.ChangeAt Go.RowKit
set_option maxRecDepth 20000
set_option maxHeartbeats 4000000
attribute [local go_sem ↓] Go.wp_at_zero Go.wp_at_succ
structure Mrk (lo hi : Nat) (w w' : World) : Prop where
 os : w'.os = w.os
 tape : w'.tape = w.tape
 output : w'.output = w.output
 size : w.heap.size ≤ w'.heap.size
 block : ∀ k, k < w.heap.size → (k < lo ∨ hi ≤ k) → w'.heap[k]? = w.heap[k]?
 shp : ∀ b t n f, w.rowIs b t n f → ∃ g, w'.rowIs b t n g
theorem Mrk.refl (lo hi : Nat) (w : World) : Mrk lo hi w w := ⟨rfl, rfl, rfl, Nat.le_refl _, fun _ _ _ => rfl, fun _ _ _ f h => ⟨f, h⟩⟩
theorem Mrk.trans {lo hi : Nat} {a b c : World} (h : Mrk lo hi a b) (k : Mrk lo hi b c) : Mrk lo hi a c :=
 ⟨k.os.trans h.os, k.tape.trans h.tape, k.output.trans h.output, Nat.le_trans h.size k.size, fun i hi q => (k.block i (Nat.lt_of_lt_of_le hi h.size) q).trans (h.block i hi q), fun x t n f r => by
  obtain ⟨g, hg⟩ := h.shp x t n f r
  exact k.shp x t n g hg⟩
theorem Mrk.wide {lo hi lo' hi' : Nat} {a b : World} (h : Mrk lo hi a b) (h1 : lo' ≤ lo) (h2 : hi ≤ hi') : Mrk lo' hi' a b :=
 ⟨h.os, h.tape, h.output, h.size, fun k hk q => h.block k hk (by omega), h.shp⟩
theorem Mrk.of_below {lo hi : Nat} {w w' : World} (h : Below w.heap.size w w') : Mrk lo hi w w' :=
 ⟨h.os, h.tape, h.output, h.size, fun k hk _ => h.block k hk, fun _ _ _ f r => ⟨f, row_below r h⟩⟩
theorem Mrk.set {lo hi b : Nat} {w : World} (o : Nat) (v : Value) (h1 : lo ≤ b) (h2 : b < hi) : Mrk lo hi w (w.setCell ⟨b, o, none⟩ v) :=
 ⟨rfl, rfl, rfl, by simp [World.setCell], fun k _ q => heap_setCell_other w ⟨b, o, none⟩ k v (by simp; omega), fun x t n f r => by
  by_cases e : x = b
  ·subst e; exact ⟨_, r.set o v⟩
  ·exact ⟨f, row_of r (heap_setCell_other w ⟨b, o, none⟩ x v (by simpa using e))⟩⟩
theorem Mrk.row {lo hi : Nat} {w w' : World} {b t n : Nat} {f : Nat → Value} (k : Mrk lo hi w w') (h : w.rowIs b t n f) (q : b < lo ∨ hi ≤ b) : w'.rowIs b t n f := row_of h (k.block b h.lt q)
theorem Mrk.below {lo hi : Nat} {a w w' : World} (k : Mrk lo hi w w') (h : Below a.heap.size a w) (hl : a.heap.size ≤ lo) : Below a.heap.size a w' :=
 ⟨k.os.trans h.os, k.tape.trans h.tape, k.output.trans h.output, Nat.le_trans h.size k.size, fun i hi => (k.block i (Nat.lt_of_lt_of_le hi h.size) (by omega)).trans (h.block i hi)⟩
theorem markFr_any (b len cap : Nat) (G : Nat → Value) (k0 : Nat) (w : World) (h : w.rowIs b 96 (len * 4) G) (hl : len ≤ 1048576) (hk0 : k0 ≤ 1000000000000000) :
  Calls Tryz.prog 54 #[.slice (some ⟨b, 0, none⟩) len cap, .int .i64 (k0 : Int)] w fun e w' => e = .returned (.int .i64 ((k0 + len * 4 : Nat) : Int)) ∧ Mrk b (b + 1) w w' := by
 go_enter Tryz.func54, Tryz.ntmps54
 go_wp2
 go_loopw [1, 5] (fun x i wr => ∃ k : Nat, k ≤ len ∧ i = .int .i64 k ∧ x = .int .i64 ((k0 + k * 4 : Nat) : Int) ∧ Mrk b (b + 1) w wr ∧ ∃ G, wr.rowIs b 96 (len * 4) G) (fun _ i _ => len - (intOf i).toNat)
 case atStart => exact ⟨0, Nat.zero_le _, rfl, rfl, Mrk.refl _ _ _, G, h⟩
 case round =>
  obtain ⟨k, hk, rfl, rfl, hg, G, hr⟩ := hrel
  by_cases hlt : k < len
  ·have i0 : (0 : Int) ≤ (k : Int) := by omega
   have i1 : (k : Int) < (len : Int) := by omega
   have d0 := hr.cell (i := k * 4) (by omega)
   have f0 := hr.frozen (k * 4)
   have d1 := hr.cell (i := k * 4 + 1) (by omega)
   have f1 := hr.frozen (k * 4 + 1)
   have d2 := hr.cell (i := k * 4 + 2) (by omega)
   have f2 := hr.frozen (k * 4 + 2)
   have d3 := hr.cell (i := k * 4 + 3) (by omega)
   have f3 := hr.frozen (k * 4 + 3)
   go_wp2
   go_roundw
   case rel => exact ⟨k + 1, by omega, by go_num, by go_num, (Mrk.trans (Mrk.trans (Mrk.trans (Mrk.trans hg (Mrk.set _ _ (Nat.le_refl _) (Nat.lt_succ_self _))) (Mrk.set _ _ (Nat.le_refl _) (Nat.lt_succ_self _))) (Mrk.set _ _ (Nat.le_refl _) (Nat.lt_succ_self _))) (Mrk.set _ _ (Nat.le_refl _) (Nat.lt_succ_self _))), _, ((((hr.set _ _).set _ _).set _ _).set _ _)⟩
   case measure => simp [intOf]; omega
  ·go_wp2
   go_ret
   have e : k = len := by omega
   subst e
   exact ⟨rfl, hg⟩
theorem markTr_any (b len cap : Nat) (G : Nat → Value) (k0 : Nat) (w : World) (h : w.rowIs b 127 (len * 5) G) (hl : len ≤ 1048576) (hk0 : k0 ≤ 1000000000000000) :
  Calls Tryz.prog 55 #[.slice (some ⟨b, 0, none⟩) len cap, .int .i64 (k0 : Int)] w fun e w' => e = .returned (.int .i64 ((k0 + len * 5 : Nat) : Int)) ∧ Mrk b (b + 1) w w' := by
 go_enter Tryz.func55, Tryz.ntmps55
 go_wp2
 go_loopw [1, 5] (fun x i wr => ∃ k : Nat, k ≤ len ∧ i = .int .i64 k ∧ x = .int .i64 ((k0 + k * 5 : Nat) : Int) ∧ Mrk b (b + 1) w wr ∧ ∃ G, wr.rowIs b 127 (len * 5) G) (fun _ i _ => len - (intOf i).toNat)
 case atStart => exact ⟨0, Nat.zero_le _, rfl, rfl, Mrk.refl _ _ _, G, h⟩
 case round =>
  obtain ⟨k, hk, rfl, rfl, hg, G, hr⟩ := hrel
  by_cases hlt : k < len
  ·have i0 : (0 : Int) ≤ (k : Int) := by omega
   have i1 : (k : Int) < (len : Int) := by omega
   have d0 := hr.cell (i := k * 5) (by omega)
   have f0 := hr.frozen (k * 5)
   have d1 := hr.cell (i := k * 5 + 1) (by omega)
   have f1 := hr.frozen (k * 5 + 1)
   have d2 := hr.cell (i := k * 5 + 2) (by omega)
   have f2 := hr.frozen (k * 5 + 2)
   have d3 := hr.cell (i := k * 5 + 3) (by omega)
   have f3 := hr.frozen (k * 5 + 3)
   have d4 := hr.cell (i := k * 5 + 4) (by omega)
   have f4 := hr.frozen (k * 5 + 4)
   go_wp2
   go_roundw
   case rel => exact ⟨k + 1, by omega, by go_num, by go_num, (Mrk.trans (Mrk.trans (Mrk.trans (Mrk.trans (Mrk.trans hg (Mrk.set _ _ (Nat.le_refl _) (Nat.lt_succ_self _))) (Mrk.set _ _ (Nat.le_refl _) (Nat.lt_succ_self _))) (Mrk.set _ _ (Nat.le_refl _) (Nat.lt_succ_self _))) (Mrk.set _ _ (Nat.le_refl _) (Nat.lt_succ_self _))) (Mrk.set _ _ (Nat.le_refl _) (Nat.lt_succ_self _))), _, (((((hr.set _ _).set _ _).set _ _).set _ _).set _ _)⟩
   case measure => simp [intOf]; omega
  ·go_wp2
   go_ret
   have e : k = len := by omega
   subst e
   exact ⟨rfl, hg⟩
theorem markIr_any (b len cap : Nat) (G : Nat → Value) (k0 : Nat) (w : World) (h : w.rowIs b 3 (len) G) (hl : len ≤ 1048576) (hk0 : k0 ≤ 1000000000000000) :
  Calls Tryz.prog 21 #[.slice (some ⟨b, 0, none⟩) len cap, .int .i64 (k0 : Int)] w fun e w' => e = .returned (.int .i64 ((k0 + len : Nat) : Int)) ∧ Mrk b (b + 1) w w' := by
 go_enter Tryz.func21, Tryz.ntmps21
 go_wp2
 go_loopw [1, 5] (fun x i wr => ∃ k : Nat, k ≤ len ∧ i = .int .i64 k ∧ x = .int .i64 ((k0 + k : Nat) : Int) ∧ Mrk b (b + 1) w wr ∧ ∃ G, wr.rowIs b 3 (len) G) (fun _ i _ => len - (intOf i).toNat)
 case atStart => exact ⟨0, Nat.zero_le _, rfl, rfl, Mrk.refl _ _ _, G, h⟩
 case round =>
  obtain ⟨k, hk, rfl, rfl, hg, G, hr⟩ := hrel
  by_cases hlt : k < len
  ·have i0 : (0 : Int) ≤ (k : Int) := by omega
   have i1 : (k : Int) < (len : Int) := by omega
   have d0 := hr.cell (i := k) (by omega)
   have f0 := hr.frozen (k)
   go_wp2
   go_roundw
   case rel => exact ⟨k + 1, by omega, by go_num, by go_num, (Mrk.trans hg (Mrk.set _ _ (Nat.le_refl _) (Nat.lt_succ_self _))), _, (hr.set _ _)⟩
   case measure => simp [intOf]; omega
  ·go_wp2
   go_ret
   have e : k = len := by omega
   subst e
   exact ⟨rfl, hg⟩
theorem markDt_any (b hi len cap : Nat) (G : Nat → Dt) (k0 : Nat) (w : World) (h : w.rowIs b 121 (len * 4) (Dtv G)) (hO : DtOwn w b len G) (hH : ∀ j bb, j < len → (G j).ba = some ⟨bb, 0, none⟩ → bb < hi) (hbh : b < hi) (hl : len ≤ 1048576) (hbl : ∀ j, j < len → (G j).bl ≤ 1048576) (hk0 : k0 ≤ 100000000000000) :
  Calls Tryz.prog 56 #[.slice (some ⟨b, 0, none⟩) len cap, .int .i64 (k0 : Int)] w fun e w' => (∃ z : Nat, e = .returned (.int .i64 (z : Int)) ∧ z ≤ k0 + len * 8388608) ∧ Mrk b hi w w' := by
 go_enter Tryz.func56, Tryz.ntmps56
 go_wp2
 go_loopw [1, 5] (fun x i wr => ∃ k z : Nat, k ≤ len ∧ i = .int .i64 k ∧ x = .int .i64 (z : Int) ∧ z ≤ k0 + k * 8388608 ∧ Mrk b hi w wr ∧ ∃ C, wr.rowIs b 121 (len * 4) C ∧ ∀ j, k ≤ j → j < len → C (j * 4 + 3) = .slice (G j).ba (G j).bl (G j).bc) (fun _ i _ => len - (intOf i).toNat)
 case atStart => exact ⟨0, k0, Nat.zero_le _, rfl, rfl, by omega, Mrk.refl _ _ _, _, h, fun j _ hj => by
   have e1 : (j * 4 + 3) % 4 = 3 ∧ (j * 4 + 3) / 4 = j := by omega
   simp [Dtv, e1.1, e1.2]⟩
 case round =>
  obtain ⟨k, z, hk, rfl, rfl, hz, hg, C, hr, hC⟩ := hrel
  by_cases hlt : k < len
  ·have i0 : (0 : Int) ≤ (k : Int) := by omega
   have i1 : (k : Int) < (len : Int) := by omega
   obtain ⟨bb, eb, hb1, b2, e2, hrow⟩ := hO k hlt
   injection e2 with e3
   injection e3 with e3
   subst e3
   have hb2 := hH k bb hlt eb
   have hbk := hbl k hlt
   obtain ⟨g, hrow2⟩ := hg.shp _ _ _ _ hrow
   have hl3 := hC k (Nat.le_refl _) hlt
   rw [eb] at hl3
   have d0 := hr.cell (i := k * 4) (by omega)
   have f0 := hr.frozen (k * 4)
   go_upto_region 5 with fail
   have hr1 := hr.set (k * 4) (.int .i64 ((z : Int)))
   have hg1 := Mrk.trans hg (Mrk.set (w := wr) (k * 4) (.int .i64 ((z : Int))) (Nat.le_refl b) hbh)
   generalize wr.setCell ⟨b, k * 4, none⟩ (.int .i64 ((z : Int))) = w1 at *
   clear d0 f0
   have d1 := hr1.cell (i := k * 4 + 1) (by omega)
   have f1 := hr1.frozen (k * 4 + 1)
   go_upto_region 7 with fail
   have hr2 := hr1.set (k * 4 + 1) (.int .i64 ((z : Int) + 1))
   have hg2 := Mrk.trans hg1 (Mrk.set (w := w1) (k * 4 + 1) (.int .i64 ((z : Int) + 1)) (Nat.le_refl b) hbh)
   generalize w1.setCell ⟨b, k * 4 + 1, none⟩ (.int .i64 ((z : Int) + 1)) = w2 at *
   clear d1 f1
   have d2 := hr2.cell (i := k * 4 + 2) (by omega)
   have f2 := hr2.frozen (k * 4 + 2)
   go_upto_region 9 with fail
   have hr3 := hr2.set (k * 4 + 2) (.int .i64 ((z : Int) + 1 + 1))
   have hg3 := Mrk.trans hg2 (Mrk.set (w := w2) (k * 4 + 2) (.int .i64 ((z : Int) + 1 + 1)) (Nat.le_refl b) hbh)
   generalize w2.setCell ⟨b, k * 4 + 2, none⟩ (.int .i64 ((z : Int) + 1 + 1)) = w3 at *
   clear d2 f2
   obtain ⟨g2, hrow3⟩ := hg3.shp _ _ _ _ hrow
   have dl : w3.cell? ⟨b, k * 4 + 3, none⟩ = some (.slice (some ⟨bb, 0, none⟩) (G k).bl (G k).bc) := by
    have q := hr3.cell (i := k * 4 + 3) (by omega)
    rw [if_neg (by omega), if_neg (by omega), if_neg (by omega), hl3] at q
    exact q
   go_wp2_with fail
   have e9 : (z : Int) + 1 + 1 + 1 = ((z + 3 : Nat) : Int) := by omega
   rw [e9]
   refine (markIr_any bb (G k).bl (G k).bc g2 (z + 3) _ hrow3 hbk (by omega)).mono ?_
   rintro e w9 ⟨rfl, hm⟩
   clear e9 hrow2 hrow hr
   go_wp2
   go_roundw
   case rel => exact ⟨k + 1, z + 3 + (G k).bl, by omega, by go_num, rfl, by omega, Mrk.trans hg3 (hm.wide (by omega) (by omega)), _, hm.row hr3 (.inl hb1), fun j hj1 hj2 => by
     have q := hC j (by omega) hj2
     rw [if_neg (by omega), if_neg (by omega), if_neg (by omega), q]⟩
   case measure => simp [intOf]; omega
  ·go_wp2
   go_ret
   have e : k = len := by omega
   subst e
   exact ⟨⟨z, rfl, hz⟩, hg⟩
theorem markPl_any (b hi len cap : Nat) (G : Nat → Pl) (k0 : Nat) (w : World) (h : w.rowIs b 103 (len * 6) (Plv G)) (hO : PlOwn w b len G) (hH : ∀ j bb, j < len → (G j).ba = some ⟨bb, 0, none⟩ → bb < hi) (hbh : b < hi) (hl : len ≤ 1048576) (hbl : ∀ j, j < len → (G j).bl ≤ 1048576) (hk0 : k0 ≤ 100000000000000) :
  Calls Tryz.prog 57 #[.slice (some ⟨b, 0, none⟩) len cap, .int .i64 (k0 : Int)] w fun e w' => (∃ z : Nat, e = .returned (.int .i64 (z : Int)) ∧ z ≤ k0 + len * 8388608) ∧ Mrk b hi w w' := by
 go_enter Tryz.func57, Tryz.ntmps57
 go_wp2
 go_loopw [1, 5] (fun x i wr => ∃ k z : Nat, k ≤ len ∧ i = .int .i64 k ∧ x = .int .i64 (z : Int) ∧ z ≤ k0 + k * 8388608 ∧ Mrk b hi w wr ∧ ∃ C, wr.rowIs b 103 (len * 6) C ∧ ∀ j, k ≤ j → j < len → C (j * 6 + 5) = .slice (G j).ba (G j).bl (G j).bc) (fun _ i _ => len - (intOf i).toNat)
 case atStart => exact ⟨0, k0, Nat.zero_le _, rfl, rfl, by omega, Mrk.refl _ _ _, _, h, fun j _ hj => by
   have e1 : (j * 6 + 5) % 6 = 5 ∧ (j * 6 + 5) / 6 = j := by omega
   simp [Plv, e1.1, e1.2]⟩
 case round =>
  obtain ⟨k, z, hk, rfl, rfl, hz, hg, C, hr, hC⟩ := hrel
  by_cases hlt : k < len
  ·have i0 : (0 : Int) ≤ (k : Int) := by omega
   have i1 : (k : Int) < (len : Int) := by omega
   obtain ⟨bb, eb, hb1, b2, e2, hrow⟩ := hO k hlt
   injection e2 with e3
   injection e3 with e3
   subst e3
   have hb2 := hH k bb hlt eb
   have hbk := hbl k hlt
   obtain ⟨g, hrow2⟩ := hg.shp _ _ _ _ hrow
   have hl3 := hC k (Nat.le_refl _) hlt
   rw [eb] at hl3
   have d0 := hr.cell (i := k * 6) (by omega)
   have f0 := hr.frozen (k * 6)
   go_upto_region 5 with fail
   have hr1 := hr.set (k * 6) (.int .i64 ((z : Int)))
   have hg1 := Mrk.trans hg (Mrk.set (w := wr) (k * 6) (.int .i64 ((z : Int))) (Nat.le_refl b) hbh)
   generalize wr.setCell ⟨b, k * 6, none⟩ (.int .i64 ((z : Int))) = w1 at *
   clear d0 f0
   have d1 := hr1.cell (i := k * 6 + 1) (by omega)
   have f1 := hr1.frozen (k * 6 + 1)
   go_upto_region 7 with fail
   have hr2 := hr1.set (k * 6 + 1) (.int .i64 ((z : Int) + 1))
   have hg2 := Mrk.trans hg1 (Mrk.set (w := w1) (k * 6 + 1) (.int .i64 ((z : Int) + 1)) (Nat.le_refl b) hbh)
   generalize w1.setCell ⟨b, k * 6 + 1, none⟩ (.int .i64 ((z : Int) + 1)) = w2 at *
   clear d1 f1
   have d2 := hr2.cell (i := k * 6 + 2) (by omega)
   have f2 := hr2.frozen (k * 6 + 2)
   go_upto_region 9 with fail
   have hr3 := hr2.set (k * 6 + 2) (.int .i64 ((z : Int) + 1 + 1))
   have hg3 := Mrk.trans hg2 (Mrk.set (w := w2) (k * 6 + 2) (.int .i64 ((z : Int) + 1 + 1)) (Nat.le_refl b) hbh)
   generalize w2.setCell ⟨b, k * 6 + 2, none⟩ (.int .i64 ((z : Int) + 1 + 1)) = w3 at *
   clear d2 f2
   have d3 := hr3.cell (i := k * 6 + 3) (by omega)
   have f3 := hr3.frozen (k * 6 + 3)
   go_upto_region 11 with fail
   have hr4 := hr3.set (k * 6 + 3) (.int .i64 ((z : Int) + 1 + 1 + 1))
   have hg4 := Mrk.trans hg3 (Mrk.set (w := w3) (k * 6 + 3) (.int .i64 ((z : Int) + 1 + 1 + 1)) (Nat.le_refl b) hbh)
   generalize w3.setCell ⟨b, k * 6 + 3, none⟩ (.int .i64 ((z : Int) + 1 + 1 + 1)) = w4 at *
   clear d3 f3
   have d4 := hr4.cell (i := k * 6 + 4) (by omega)
   have f4 := hr4.frozen (k * 6 + 4)
   go_upto_region 13 with fail
   have hr5 := hr4.set (k * 6 + 4) (.int .i64 ((z : Int) + 1 + 1 + 1 + 1))
   have hg5 := Mrk.trans hg4 (Mrk.set (w := w4) (k * 6 + 4) (.int .i64 ((z : Int) + 1 + 1 + 1 + 1)) (Nat.le_refl b) hbh)
   generalize w4.setCell ⟨b, k * 6 + 4, none⟩ (.int .i64 ((z : Int) + 1 + 1 + 1 + 1)) = w5 at *
   clear d4 f4
   obtain ⟨g2, hrow3⟩ := hg5.shp _ _ _ _ hrow
   have dl : w5.cell? ⟨b, k * 6 + 5, none⟩ = some (.slice (some ⟨bb, 0, none⟩) (G k).bl (G k).bc) := by
    have q := hr5.cell (i := k * 6 + 5) (by omega)
    rw [if_neg (by omega), if_neg (by omega), if_neg (by omega), if_neg (by omega), if_neg (by omega), hl3] at q
    exact q
   go_wp2_with fail
   have e9 : (z : Int) + 1 + 1 + 1 + 1 + 1 = ((z + 5 : Nat) : Int) := by omega
   rw [e9]
   refine (markIr_any bb (G k).bl (G k).bc g2 (z + 5) _ hrow3 hbk (by omega)).mono ?_
   rintro e w9 ⟨rfl, hm⟩
   clear e9 hrow2 hrow hr
   go_wp2
   go_roundw
   case rel => exact ⟨k + 1, z + 5 + (G k).bl, by omega, by go_num, rfl, by omega, Mrk.trans hg5 (hm.wide (by omega) (by omega)), _, hm.row hr5 (.inl hb1), fun j hj1 hj2 => by
     have q := hC j (by omega) hj2
     rw [if_neg (by omega), if_neg (by omega), if_neg (by omega), if_neg (by omega), if_neg (by omega), q]⟩
   case measure => simp [intOf]; omega
  ·go_wp2
   go_ret
   have e : k = len := by omega
   subst e
   exact ⟨⟨z, rfl, hz⟩, hg⟩
theorem markFg_any (b hi len cap : Nat) (G : Nat → Fg) (k0 : Nat) (w : World) (h : w.rowIs b 123 (len * 2) (Fgv G)) (hO : FgOwn w b len G) (hH : ∀ j bb, j < len → (G j).ba = some ⟨bb, 0, none⟩ → bb < hi) (hbh : b < hi) (hl : len ≤ 1048576) (hbl : ∀ j, j < len → (G j).bl ≤ 1048576) (hk0 : k0 ≤ 100000000000000) :
  Calls Tryz.prog 58 #[.slice (some ⟨b, 0, none⟩) len cap, .int .i64 (k0 : Int)] w fun e w' => (∃ z : Nat, e = .returned (.int .i64 (z : Int)) ∧ z ≤ k0 + len * 8388608) ∧ Mrk b hi w w' := by
 go_enter Tryz.func58, Tryz.ntmps58
 go_wp2
 go_loopw [1, 5] (fun x i wr => ∃ k z : Nat, k ≤ len ∧ i = .int .i64 k ∧ x = .int .i64 (z : Int) ∧ z ≤ k0 + k * 8388608 ∧ Mrk b hi w wr ∧ ∃ C, wr.rowIs b 123 (len * 2) C ∧ ∀ j, k ≤ j → j < len → C (j * 2 + 1) = .slice (G j).ba (G j).bl (G j).bc) (fun _ i _ => len - (intOf i).toNat)
 case atStart => exact ⟨0, k0, Nat.zero_le _, rfl, rfl, by omega, Mrk.refl _ _ _, _, h, fun j _ hj => by
   have e1 : (j * 2 + 1) % 2 = 1 ∧ (j * 2 + 1) / 2 = j := by omega
   simp [Fgv, e1.1, e1.2]⟩
 case round =>
  obtain ⟨k, z, hk, rfl, rfl, hz, hg, C, hr, hC⟩ := hrel
  by_cases hlt : k < len
  ·have i0 : (0 : Int) ≤ (k : Int) := by omega
   have i1 : (k : Int) < (len : Int) := by omega
   obtain ⟨bb, eb, hb1, b2, e2, hrow⟩ := hO k hlt
   injection e2 with e3
   injection e3 with e3
   subst e3
   have hb2 := hH k bb hlt eb
   have hbk := hbl k hlt
   obtain ⟨g, hrow2⟩ := hg.shp _ _ _ _ hrow
   have hl3 := hC k (Nat.le_refl _) hlt
   rw [eb] at hl3
   have d0 := hr.cell (i := k * 2) (by omega)
   have f0 := hr.frozen (k * 2)
   go_upto_region 5 with fail
   have hr1 := hr.set (k * 2) (.int .i64 ((z : Int)))
   have hg1 := Mrk.trans hg (Mrk.set (w := wr) (k * 2) (.int .i64 ((z : Int))) (Nat.le_refl b) hbh)
   generalize wr.setCell ⟨b, k * 2, none⟩ (.int .i64 ((z : Int))) = w1 at *
   clear d0 f0
   obtain ⟨g2, hrow3⟩ := hg1.shp _ _ _ _ hrow
   have dl : w1.cell? ⟨b, k * 2 + 1, none⟩ = some (.slice (some ⟨bb, 0, none⟩) (G k).bl (G k).bc) := by
    have q := hr1.cell (i := k * 2 + 1) (by omega)
    rw [if_neg (by omega), hl3] at q
    exact q
   go_wp2_with fail
   have e9 : (z : Int) + 1 = ((z + 1 : Nat) : Int) := by omega
   rw [e9]
   refine (markFr_any bb (G k).bl (G k).bc g2 (z + 1) _ hrow3 hbk (by omega)).mono ?_
   rintro e w9 ⟨rfl, hm⟩
   clear e9 hrow2 hrow hr
   go_wp2
   go_roundw
   case rel => exact ⟨k + 1, z + 1 + (G k).bl * 4, by omega, by go_num, rfl, by omega, Mrk.trans hg1 (hm.wide (by omega) (by omega)), _, hm.row hr1 (.inl hb1), fun j hj1 hj2 => by
     have q := hC j (by omega) hj2
     rw [if_neg (by omega), q]⟩
   case measure => simp [intOf]; omega
  ·go_wp2
   go_ret
   have e : k = len := by omega
   subst e
   exact ⟨⟨z, rfl, hz⟩, hg⟩
theorem Mrk.cell {lo hi : Nat} {w w' : World} {b o : Nat} {v : Value} (k : Mrk lo hi w w') (hc : w.cell? ⟨b, o, none⟩ = some v) (q : b < lo ∨ hi ≤ b) : w'.cell? ⟨b, o, none⟩ = some v := by
 have hlt : b < w.heap.size := by
  unfold World.cell? at hc
  rcases Nat.lt_or_ge b w.heap.size with q | q
  ·exact q
  ·exfalso
   rw [Array.getElem?_eq_none q] at hc
   simp at hc
 exact (World.cell?_of_block (a := ⟨b, o, none⟩) (k.block b hlt q)).trans hc
theorem DtOwn.mrk {lo hi b : Nat} {w w' : World} {len : Nat} {G : Nat → Dt} (h : DtOwn w b len G) (k : Mrk lo hi w w') (h1 : hi ≤ b + 1) : DtOwn w' b len G := fun j hj => by
 obtain ⟨bb, e, hb, b2, e2, hr⟩ := h j hj
 injection e2 with e3
 injection e3 with e3
 subst e3
 exact ⟨bb, e, hb, bb, rfl, k.row hr (.inr (by omega))⟩
theorem PlOwn.mrk {lo hi b : Nat} {w w' : World} {len : Nat} {G : Nat → Pl} (h : PlOwn w b len G) (k : Mrk lo hi w w') (h1 : hi ≤ b + 1) : PlOwn w' b len G := fun j hj => by
 obtain ⟨bb, e, hb, b2, e2, hr⟩ := h j hj
 injection e2 with e3
 injection e3 with e3
 subst e3
 exact ⟨bb, e, hb, bb, rfl, k.row hr (.inr (by omega))⟩
theorem FgOwn.mrk {lo hi b : Nat} {w w' : World} {len : Nat} {G : Nat → Fg} (h : FgOwn w b len G) (k : Mrk lo hi w w') (h1 : hi ≤ b + 1) : FgOwn w' b len G := fun j hj => by
 obtain ⟨bb, e, hb, b2, e2, hr⟩ := h j hj
 injection e2 with e3
 injection e3 with e3
 subst e3
 exact ⟨bb, e, hb, bb, rfl, k.row hr (.inr (by omega))⟩
theorem markNode_any (me : Int) (up gone gate : Bool) (inc now sq turn : Int) (pn ps pq : Int) (pa : Bool) (cx cy ch ce : Int) (tl : Nat) (F : Nat → Fc) (cl : Nat) (GI : Nat → It) (dl : Nat) (GD : Nat → Dt) (pll : Nat) (GP : Nat → Pl) (ol : Nat) (GO : Nat → Fg) (lo hi b1 b2 b3 b4 b5 : Nat) (w : World) (h : NdRows w lo b1 b2 b3 b4 b5 tl F cl GI dl GD pll GP ol GO) (h5 : b5 < hi) (m5 : ∀ j bb, j < ol → (GO j).ba = some ⟨bb, 0, none⟩ → bb < hi) (hh : hi ≤ w.heap.size)
  (x1 : tl ≤ 1048576) (x2 : cl ≤ 1048576) (x3 : dl ≤ 1048576) (x4 : pll ≤ 1048576) (x5 : ol ≤ 1048576) (y3 : ∀ j, j < dl → (GD j).bl ≤ 1048576) (y4 : ∀ j, j < pll → (GP j).bl ≤ 1048576) (y5 : ∀ j, j < ol → (GO j).bl ≤ 1048576) :
  Calls Tryz.prog 12 #[.agg #[.int .i64 me, .bool up, .bool gone, .bool gate, .int .i64 inc, .int .i64 now, .int .i64 sq, .int .i64 turn, .slice (some ⟨b1, 0, none⟩) tl tl, .slice (some ⟨b2, 0, none⟩) cl cl, .int .i64 pn, .int .i64 ps, .int .i64 pq, .bool pa, .slice (some ⟨b3, 0, none⟩) dl dl, .int .i64 cx, .int .i64 cy, .int .i64 ch, .int .i64 ce, .slice (some ⟨b4, 0, none⟩) pll pll, .slice (some ⟨b5, 0, none⟩) ol ol], .int .i64 1] w fun e w' => (∃ z : Nat, e = .returned (.int .i64 (z : Int))) ∧ Mrk lo hi w w' := by
 go_enter Tryz.func12, Tryz.ntmps12
 go_upto_region 1 with fail
 generalize hu : w.alloc (.cells _ _) = u
 obtain ⟨X, b0⟩ := box1 hu
 clear hu
 have r := h.below b0
 obtain ⟨o1, o2, o3, o4, o5⟩ := (⟨h.lo1, h.o12, h.o23, h.o34, h.o45⟩ : lo ≤ b1 ∧ b1 < b2 ∧ b2 < b3 ∧ b3 < b4 ∧ b4 < b5)
 have M0 : Mrk lo hi w u := Mrk.of_below b0
 have d8 := X.c 8 (.slice (some ⟨b1, 0, none⟩) tl tl) rfl
 have d9 := X.c 9 (.slice (some ⟨b2, 0, none⟩) cl cl) rfl
 have d14 := X.c 14 (.slice (some ⟨b3, 0, none⟩) dl dl) rfl
 have d19 := X.c 19 (.slice (some ⟨b4, 0, none⟩) pll pll) rfl
 have d20 := X.c 20 (.slice (some ⟨b5, 0, none⟩) ol ol) rfl
 obtain ⟨K, hK⟩ : ∃ K, Hid (w.heap.size = K) := ⟨_, rfl⟩
 rw [hK.out] at hh
 rw [hK.out] at d8 d9 d14 d19 d20
 rw [hK.out]
 clear X b0 h
 go_wp2_with fail
 refine (markFr_any b1 tl tl _ 1 _ r.f x1 (by omega)).mono ?_
 rintro e w1 ⟨rfl, m1⟩
 have d9a := m1.cell d9 (.inr (by omega))
 have d14a := m1.cell d14 (.inr (by omega))
 have d19a := m1.cell d19 (.inr (by omega))
 have d20a := m1.cell d20 (.inr (by omega))
 have ri := m1.row r.i (.inr (by omega))
 have rd := m1.row r.d (.inr (by omega))
 have rdo := r.dO.mrk m1 (by omega)
 have rp := m1.row r.p (.inr (by omega))
 have rpo := r.pO.mrk m1 (by omega)
 have ro := m1.row r.o (.inr (by omega))
 have roo := r.oO.mrk m1 (by omega)
 have m34 := r.m34
 have m45 := r.m45
 have M1 := M0.trans (m1.wide o1 (by omega))
 clear r M0 m1 d8 d9 d14 d19 d20
 obtain ⟨k1, hk1⟩ : ∃ k1 : Nat, Hid (1 + tl * 4 = k1) := ⟨_, rfl⟩
 rw [hk1.out]
 have q1 : k1 ≤ 10000000 := by have := hk1.out; omega
 clear hk1
 go_wp2_with fail
 refine (markTr_any b2 cl cl _ k1 _ ri x2 (by omega)).mono ?_
 rintro e w2 ⟨rfl, m2⟩
 have d14 := m2.cell d14a (.inr (by omega))
 have d19 := m2.cell d19a (.inr (by omega))
 have d20 := m2.cell d20a (.inr (by omega))
 replace rd := m2.row rd (.inr (by omega))
 replace rdo := rdo.mrk m2 (by omega)
 replace rp := m2.row rp (.inr (by omega))
 replace rpo := rpo.mrk m2 (by omega)
 replace ro := m2.row ro (.inr (by omega))
 replace roo := roo.mrk m2 (by omega)
 have M2 := M1.trans (m2.wide (by omega) (by omega))
 clear M1 m2 d9a d14a d19a d20a ri
 obtain ⟨k2, hk2⟩ : ∃ k2 : Nat, Hid (k1 + cl * 5 = k2) := ⟨_, rfl⟩
 rw [hk2.out]
 have q2 : k2 ≤ 20000000 := by have := hk2.out; omega
 clear hk2 q1
 go_wp2_with fail
 refine (markDt_any b3 b4 dl dl GD k2 _ rd rdo m34 o4 x3 y3 (by omega)).mono ?_
 rintro e w3 ⟨⟨k3, rfl, q3⟩, m3⟩
 have d19a := m3.cell d19 (.inr (by omega))
 have d20a := m3.cell d20 (.inr (by omega))
 replace rp := m3.row rp (.inr (by omega))
 replace rpo := rpo.mrk m3 (by omega)
 replace ro := m3.row ro (.inr (by omega))
 replace roo := roo.mrk m3 (by omega)
 have M3 := M2.trans (m3.wide (by omega) (by omega))
 clear M2 m3 d14 d19 d20 rd rdo m34
 go_wp2_with fail
 refine (markPl_any b4 b5 pll pll GP k3 _ rp rpo m45 o5 x4 y4 (by omega)).mono ?_
 rintro e w4 ⟨⟨k4, rfl, q4⟩, m4⟩
 have d20 := m4.cell d20a (.inr (by omega))
 replace ro := m4.row ro (.inr (by omega))
 replace roo := roo.mrk m4 (by omega)
 have M4 := M3.trans (m4.wide (by omega) (by omega))
 clear M3 m4 d19a d20a rp rpo m45
 go_wp2_with fail
 refine (markFg_any b5 hi ol ol GO k4 _ ro roo m5 h5 x5 y5 (by omega)).mono ?_
 rintro e w5 ⟨⟨k5, rfl, q5⟩, m5'⟩
 have M5 := M4.trans (m5'.wide (by omega) (by omega))
 clear M4 d20 ro roo
 go_wp2
 go_ret
 exact ⟨⟨k5, rfl⟩, M5⟩
end Go.Proofs.YtgcdcfjaeehnbaaGreat
