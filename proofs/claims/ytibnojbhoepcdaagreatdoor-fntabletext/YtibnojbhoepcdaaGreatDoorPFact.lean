/- A fact read: the program's way. -/
import Derived.Test.YtibnojbhoepcdaaGreatDoorPRead
import Derived.Test.YtibnojbhoepcdaaGreatDoorPNum
namespace Go.Proofs.YtibnojbhoepcdaaGreatDoor
open Go.ChangeShapes Go.WideShapes Go.ChangeAt Go.RowKit
/-- strings.Split at one byte -/
theorem split_any (s : ByteArray) (c : UInt8) (y : ByteArray) (hy : bs [c] = y) (hs : s.size ≤ 1048576) (w : World) (hp : Pst w) :
    Calls Tryz.prog 33 #[.string s, .string y] w fun e w' => ∃ g, e = .returned (.slice (some ⟨g, 0, none⟩) (cutL c s.data.toList).length (cutL c s.data.toList).length) ∧ w.heap.size ≤ g ∧ g < w'.heap.size ∧ (∀ j p, (cutL c s.data.toList)[j]? = some p → w'.cell? ⟨g, j, none⟩ = some (.string ⟨p.toArray⟩)) ∧ Below w.heap.size w w' := by
  subst hy
  obtain ⟨m, hm⟩ := hp.m
  have hd : (Lib.splitB (bs [c]) 0 (Lib.countB s (bs [c])) s).map (·.data.toList) = cutL c s.data.toList := by
    rw [Lib.splitB_data]
    exact split_cutL c _ s.data.toList (Nat.le_refl _)
  have hl : (Lib.splitB (bs [c]) 0 (Lib.countB s (bs [c])) s).length = Lib.countB s (bs [c]) + 1 := Lib.splitB_all (bs [c]) (Nat.le_refl 1) 0 _ s rfl
  have hn : Lib.countB s (bs [c]) + 1 = (cutL c s.data.toList).length := by rw [← hd, List.length_map, hl]
  refine (Tryz.strings_Split s (bs [c]) m w (by omega) hm (Nat.le_refl 1)).mono ?_
  rintro e w' ⟨rfl, rfl⟩
  refine ⟨w.heap.size, by rw [hn], Nat.le_refl _, by simp, fun j p hj => ?_, balloc _ (Below.refl _ _)⟩
  rw [← hd, List.getElem?_map, Option.map_eq_some_iff] at hj
  obtain ⟨b, hb, rfl⟩ := hj
  have e : (⟨b.data.toList.toArray⟩ : ByteArray) = b := rfl
  rw [e]
  generalize Lib.splitB (bs [c]) 0 (Lib.countB s (bs [c])) s = l at hb
  simp [hb]
theorem pf_short {s : List UInt8} (h : (cutL 58 s).length ≠ 3) : pf s = none := by
  unfold pf
  split
  · next e => rw [e] at h; exact absurd rfl h
  · rfl
theorem pf_three {s a b c : List UInt8} (h : cutL 58 s = [a, b, c]) : pf s = if ((pnum a).2 && (pnum b).2 && decide (wnum (Lib.trimSuffix c [42]) ≠ 0)) = true then some ⟨(pnum a).1, (pnum b).1, wnum (Lib.trimSuffix c [42]), Lib.hasSuffix c [42]⟩ else none := by
  unfold pf
  rw [h]
  simp only
  congr 1
  simp [and_assoc]
theorem cutSuffix_any (x : List UInt8) (hs : x.length ≤ 1048576) (w : World) :
    Calls Tryz.prog 71 #[.string (bs x), .string (bs [42])] w fun e w' => e = .returned (.tuple #[.string (bs (Lib.trimSuffix x [42])), .bool (Lib.hasSuffix x [42])]) ∧ w' = w :=
  Tryz.strings_CutSuffix (bs x) (bs [42]) w (by show x.toArray.size ≤ _; rw [List.size_toArray]; omega)
set_option maxRecDepth 20000 in
set_option maxHeartbeats 4000000 in
theorem fparse_any (s : ByteArray) (hs : s.size ≤ 1048576) (w : World) (hp : Pst w) :
    Calls Tryz.prog 34 #[.string s] w fun e w' => Rd1 pf s w e w' := by
  have hL : s.data.toList.length = s.size := by simp
  go_enter Tryz.func34, Tryz.ntmps34
  go_wp2_with fail
  have BA : Bx (w.alloc (.cells #[.int .i64 0, .int .i64 0, .int .i64 0, .bool false] 53)) w.heap.size ⟨0, 0, 0, false⟩ := ⟨by simp, by simp, by simp, by simp, by simp, fun k => by simp⟩
  have BW : Below w.heap.size w (w.alloc (.cells #[.int .i64 0, .int .i64 0, .int .i64 0, .bool false] 53)) := balloc _ (Below.refl _ _)
  have hw0 : w.heap.size + 1 ≤ (w.alloc (.cells #[.int .i64 0, .int .i64 0, .int .i64 0, .bool false] 53)).heap.size := by simp
  generalize (w.alloc (.cells #[.int .i64 0, .int .i64 0, .int .i64 0, .bool false] 53)) = w0 at *
  refine (split_any s 58 _ rfl hs _ (hp.below BW)).mono ?_
  rintro _ w1 ⟨pb, rfl, hp1, hp2, hpc, b1⟩
  replace BW := btrans BW b1
  replace BA := BA.below b1
  clear b1
  by_cases h3 : (cutL 58 s.data.toList).length = 3
  · obtain ⟨pa, pbb, pc, e3⟩ := threeP h3
    rw [e3] at hpc
    have p0 := hpc 0 pa rfl
    have p1 := hpc 1 pbb rfl
    have p2 := hpc 2 pc rfl
    have hpf : Hid (pf s.data.toList = _) := pf_three e3
    have la := cutL_mem 58 _ pa (by rw [e3]; simp)
    have lb := cutL_mem 58 _ pbb (by rw [e3]; simp)
    have lc := cutL_mem 58 _ pc (by rw [e3]; simp)
    have la' : (⟨pa.toArray⟩ : ByteArray).size ≤ 1048576 := by show pa.toArray.size ≤ _; rw [List.size_toArray]; omega
    have lb' : (⟨pbb.toArray⟩ : ByteArray).size ≤ 1048576 := by show pbb.toArray.size ≤ _; rw [List.size_toArray]; omega
    have hCS := cutSuffix_any pc (by omega)
    have hNA := number_any ⟨pa.toArray⟩ la'
    have hNB := number_any ⟨pbb.toArray⟩ lb'
    have hNO := numberOf_any (Lib.trimSuffix pc [42])
    change ∀ w, Pst w → Calls _ _ _ w (fun e w' => e = .returned (.tuple #[.int .i64 (pnum pa).1, .bool (pnum pa).2]) ∧ Below w.heap.size w w') at hNA
    change ∀ w, Pst w → Calls _ _ _ w (fun e w' => e = .returned (.tuple #[.int .i64 (pnum pbb).1, .bool (pnum pbb).2]) ∧ Below w.heap.size w w') at hNB
    generalize Lib.trimSuffix pc [42] = nm at *
    generalize Lib.hasSuffix pc [42] = g at *
    generalize (pnum pa).1 = na at *
    generalize (pnum pa).2 = qa at *
    generalize (pnum pbb).1 = nb at *
    generalize (pnum pbb).2 = qb at *
    generalize wnum nm = ws at *
    generalize decide (ws ≠ 0) = qs at *
    clear hpc e3 la lb lc la' lb'
    generalize (cutL 58 s.data.toList).length = n3 at *
    subst h3
    go_wp2_with fail
    refine (hCS _).mono ?_
    rintro e w2 ⟨rfl, rfl⟩
    go_wp2_with fail
    refine (hNA _ (hp.below BW)).mono ?_
    rintro e w3 ⟨rfl, b3⟩
    replace p1 := keep_below b3 p1
    replace BW := btrans BW b3
    replace BA := BA.below b3
    clear b3 p0 p2 hCS hNA
    go_wp2_with fail
    refine (hNB _ (hp.below BW)).mono ?_
    rintro e w4 ⟨rfl, b4⟩
    replace BW := btrans BW b4
    replace BA := BA.below b4
    clear b4 p1 hNB
    go_wp2_with fail
    refine (hNO _ (hp.below BW).t).mono ?_
    rintro e w5 ⟨rfl, b5⟩
    replace BW := btrans BW b5
    replace BA := BA.below b5
    clear b5 hNO
    cases qa
    · have hpf : Hid (pf s.data.toList = none) := by unfold Hid; rw [hpf.out]; simp
      have BA8 := (((BA.set0 na).set1 nb).set2 ws).set3 g
      have BE : Below w.heap.size w ((((w5.setCell ⟨w.heap.size, 0, none⟩ (.int .i64 na)).setCell ⟨w.heap.size, 1, none⟩ (.int .i64 nb)).setCell ⟨w.heap.size, 2, none⟩ (.int .i64 ws)).setCell ⟨w.heap.size, 3, none⟩ (.bool g)) := (((BW.setCell (Nat.le_refl _) _).setCell (Nat.le_refl _) _).setCell (Nat.le_refl _) _).setCell (Nat.le_refl _) _
      have a0 := BA.c0
      have a1 := BA.c1
      have a2 := BA.c2
      have a3 := BA.c3
      have z0 := BA.z 0
      have z1 := BA.z 1
      have z2 := BA.z 2
      have z3 := BA.z 3
      go_wp2
      clear a0 a1 a2 a3 z0 z1 z2 z3 BA BW
      generalize ((((w5.setCell ⟨w.heap.size, 0, none⟩ (.int .i64 na)).setCell ⟨w.heap.size, 1, none⟩ (.int .i64 nb)).setCell ⟨w.heap.size, 2, none⟩ (.int .i64 ws)).setCell ⟨w.heap.size, 3, none⟩ (.bool g)) = w9 at *
      have a0 := BA8.c0
      have a1 := BA8.c1
      have a2 := BA8.c2
      have a3 := BA8.c3
      exact bodyPost_ret (v := .tuple #[.agg #[.int .i64 na, .int .i64 nb, .int .i64 ws, .bool g], .bool false]) (by simp [results, Tryz.results34, go_sem, a0, a1, a2, a3]) rfl (Rd1.of ⟨na, nb, ws, g⟩ false rfl hpf.out BE)
    · cases qb
      · have hpf : Hid (pf s.data.toList = none) := by unfold Hid; rw [hpf.out]; simp
        have BA8 := (((BA.set0 na).set1 nb).set2 ws).set3 g
        have BE : Below w.heap.size w ((((w5.setCell ⟨w.heap.size, 0, none⟩ (.int .i64 na)).setCell ⟨w.heap.size, 1, none⟩ (.int .i64 nb)).setCell ⟨w.heap.size, 2, none⟩ (.int .i64 ws)).setCell ⟨w.heap.size, 3, none⟩ (.bool g)) := (((BW.setCell (Nat.le_refl _) _).setCell (Nat.le_refl _) _).setCell (Nat.le_refl _) _).setCell (Nat.le_refl _) _
        have a0 := BA.c0
        have a1 := BA.c1
        have a2 := BA.c2
        have a3 := BA.c3
        have z0 := BA.z 0
        have z1 := BA.z 1
        have z2 := BA.z 2
        have z3 := BA.z 3
        go_wp2
        clear a0 a1 a2 a3 z0 z1 z2 z3 BA BW
        generalize ((((w5.setCell ⟨w.heap.size, 0, none⟩ (.int .i64 na)).setCell ⟨w.heap.size, 1, none⟩ (.int .i64 nb)).setCell ⟨w.heap.size, 2, none⟩ (.int .i64 ws)).setCell ⟨w.heap.size, 3, none⟩ (.bool g)) = w9 at *
        have a0 := BA8.c0
        have a1 := BA8.c1
        have a2 := BA8.c2
        have a3 := BA8.c3
        exact bodyPost_ret (v := .tuple #[.agg #[.int .i64 na, .int .i64 nb, .int .i64 ws, .bool g], .bool false]) (by simp [results, Tryz.results34, go_sem, a0, a1, a2, a3]) rfl (Rd1.of ⟨na, nb, ws, g⟩ false rfl hpf.out BE)
      · have hpf : Hid (pf s.data.toList = if qs = true then some ⟨na, nb, ws, g⟩ else none) := by unfold Hid; rw [hpf.out]; simp
        have BA8 := (((BA.set0 na).set1 nb).set2 ws).set3 g
        have BE : Below w.heap.size w ((((w5.setCell ⟨w.heap.size, 0, none⟩ (.int .i64 na)).setCell ⟨w.heap.size, 1, none⟩ (.int .i64 nb)).setCell ⟨w.heap.size, 2, none⟩ (.int .i64 ws)).setCell ⟨w.heap.size, 3, none⟩ (.bool g)) := (((BW.setCell (Nat.le_refl _) _).setCell (Nat.le_refl _) _).setCell (Nat.le_refl _) _).setCell (Nat.le_refl _) _
        have a0 := BA.c0
        have a1 := BA.c1
        have a2 := BA.c2
        have a3 := BA.c3
        have z0 := BA.z 0
        have z1 := BA.z 1
        have z2 := BA.z 2
        have z3 := BA.z 3
        go_wp2
        clear a0 a1 a2 a3 z0 z1 z2 z3 BA BW
        generalize ((((w5.setCell ⟨w.heap.size, 0, none⟩ (.int .i64 na)).setCell ⟨w.heap.size, 1, none⟩ (.int .i64 nb)).setCell ⟨w.heap.size, 2, none⟩ (.int .i64 ws)).setCell ⟨w.heap.size, 3, none⟩ (.bool g)) = w9 at *
        have a0 := BA8.c0
        have a1 := BA8.c1
        have a2 := BA8.c2
        have a3 := BA8.c3
        exact bodyPost_ret (v := .tuple #[.agg #[.int .i64 na, .int .i64 nb, .int .i64 ws, .bool g], .bool qs]) (by simp [results, Tryz.results34, go_sem, a0, a1, a2, a3]) rfl (Rd1.of ⟨na, nb, ws, g⟩ qs rfl hpf.out BE)
  · have h3i : ((cutL 58 s.data.toList).length : Int) ≠ 3 := by omega
    have h3b : (((cutL 58 s.data.toList).length : Int) == 3) = false := by simpa using h3i
    have hpf : Hid (pf s.data.toList = none) := pf_short h3
    clear hpc
    have BA8 := (((BA.set0 0).set1 0).set2 0).set3 false
    have BE : Below w.heap.size w ((((w1.setCell ⟨w.heap.size, 0, none⟩ (.int .i64 0)).setCell ⟨w.heap.size, 1, none⟩ (.int .i64 0)).setCell ⟨w.heap.size, 2, none⟩ (.int .i64 0)).setCell ⟨w.heap.size, 3, none⟩ (.bool false)) := (((BW.setCell (Nat.le_refl _) _).setCell (Nat.le_refl _) _).setCell (Nat.le_refl _) _).setCell (Nat.le_refl _) _
    have a0 := BA.c0
    have a1 := BA.c1
    have a2 := BA.c2
    have a3 := BA.c3
    have z0 := BA.z 0
    have z1 := BA.z 1
    have z2 := BA.z 2
    have z3 := BA.z 3
    go_wp2
    clear a0 a1 a2 a3 z0 z1 z2 z3 BA BW
    generalize ((((w1.setCell ⟨w.heap.size, 0, none⟩ (.int .i64 0)).setCell ⟨w.heap.size, 1, none⟩ (.int .i64 0)).setCell ⟨w.heap.size, 2, none⟩ (.int .i64 0)).setCell ⟨w.heap.size, 3, none⟩ (.bool false)) = w9 at *
    have a0 := BA8.c0
    have a1 := BA8.c1
    have a2 := BA8.c2
    have a3 := BA8.c3
    exact bodyPost_ret (v := .tuple #[.agg #[.int .i64 0, .int .i64 0, .int .i64 0, .bool false], .bool false]) (by simp [results, Tryz.results34, go_sem, a0, a1, a2, a3]) rfl (Rd1.of ⟨0, 0, 0, false⟩ false rfl hpf.out BE)
end Go.Proofs.YtibnojbhoepcdaaGreatDoor
