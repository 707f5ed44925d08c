/- Texts of the proof, laid together: PFact, PTab, RNum, RCur, Rm3, RC2. -/
import Derived.Test.YtibnojbhoepcdaaGreatDoorQt9
import Derived.Test.YtibnojbhoepcdaaGreatDoorQt3
import Derived.Test.YtibnojbhoepcdaaGreatDoorQt5
import Derived.Maps.AppendAt
import Derived.Test.YtibnojbhoepcdaaGreatDoorQt8
import Derived.Lib.ItoaLen
/- A fact read: the program's way. -/
namespace Go.Proofs.YtibnojbhoepcdaaGreatDoor
open Go.ChangeShapes Go.WideShapes Go.ChangeAt Go.RowKit
/-- strings.Split at one byte -/
theorem split_any (s : ByteArray) (c : UInt8) (y : ByteArray) (hy : bs [c] = y) (hs : s.size ≤ 1048576) (w : World) (hp : Pst w) :
    Calls Tryz.prog 33 #[.string s, .string y] w fun e w' => ∃ g, e = .returned (.slice (some ⟨g, 0, none⟩) (cutL c s.data.toList).length (cutL c s.data.toList).length) ∧ w.heap.size ≤ g ∧ g < w'.heap.size ∧ (∀ j p, (cutL c s.data.toList)[j]? = some p → w'.cell? ⟨g, j, none⟩ = some (.string ⟨p.toArray⟩)) ∧ Below w.heap.size w w' := by
  subst hy
  obtain ⟨m, hm⟩ := hp.m
  have hd : (Lib.splitB (bs [c]) 0 (Lib.countB s (bs [c])) s).map (·.data.toList) = cutL c s.data.toList := by
    rw [Lib.splitB_data]
    exact split_cutL c _ s.data.toList (Nat.le_refl _)
  have hl : (Lib.splitB (bs [c]) 0 (Lib.countB s (bs [c])) s).length = Lib.countB s (bs [c]) + 1 := Lib.splitB_all (bs [c]) (Nat.le_refl 1) 0 _ s rfl
  have hn : Lib.countB s (bs [c]) + 1 = (cutL c s.data.toList).length := by rw [← hd, List.length_map, hl]
  refine (Tryz.strings_Split s (bs [c]) m w (by omega) hm (Nat.le_refl 1)).mono ?_
  rintro e w' ⟨rfl, rfl⟩
  refine ⟨w.heap.size, by rw [hn], Nat.le_refl _, by simp, fun j p hj => ?_, balloc _ (Below.refl _ _)⟩
  rw [← hd, List.getElem?_map, Option.map_eq_some_iff] at hj
  obtain ⟨b, hb, rfl⟩ := hj
  have e : (⟨b.data.toList.toArray⟩ : ByteArray) = b := rfl
  rw [e]
  generalize Lib.splitB (bs [c]) 0 (Lib.countB s (bs [c])) s = l at hb
  simp [hb]
theorem pf_short {s : List UInt8} (h : (cutL 58 s).length ≠ 3) : pf s = none := by
  unfold pf
  split
  · next e => rw [e] at h; exact absurd rfl h
  · rfl
theorem pf_three {s a b c : List UInt8} (h : cutL 58 s = [a, b, c]) : pf s = if ((pnum a).2 && (pnum b).2 && decide (wnum (Lib.trimSuffix c [42]) ≠ 0)) = true then some ⟨(pnum a).1, (pnum b).1, wnum (Lib.trimSuffix c [42]), Lib.hasSuffix c [42]⟩ else none := by
  unfold pf
  rw [h]
  simp only
  congr 1
  simp [and_assoc]
theorem cutSuffix_any (x : List UInt8) (hs : x.length ≤ 1048576) (w : World) :
    Calls Tryz.prog 71 #[.string (bs x), .string (bs [42])] w fun e w' => e = .returned (.tuple #[.string (bs (Lib.trimSuffix x [42])), .bool (Lib.hasSuffix x [42])]) ∧ w' = w :=
  Tryz.strings_CutSuffix (bs x) (bs [42]) w (by show x.toArray.size ≤ _; rw [List.size_toArray]; omega)
set_option maxRecDepth 20000 in
set_option maxHeartbeats 4000000 in
theorem fparse_any (s : ByteArray) (hs : s.size ≤ 1048576) (w : World) (hp : Pst w) :
    Calls Tryz.prog 34 #[.string s] w fun e w' => Rd1 pf s w e w' := by
  have hL : s.data.toList.length = s.size := by simp
  go_enter Tryz.func34, Tryz.ntmps34
  go_wp2_with fail
  have BA : Bx (w.alloc (.cells #[.int .i64 0, .int .i64 0, .int .i64 0, .bool false] 53)) w.heap.size ⟨0, 0, 0, false⟩ := ⟨by simp, by simp, by simp, by simp, by simp, fun k => by simp⟩
  have BW : Below w.heap.size w (w.alloc (.cells #[.int .i64 0, .int .i64 0, .int .i64 0, .bool false] 53)) := balloc _ (Below.refl _ _)
  have hw0 : w.heap.size + 1 ≤ (w.alloc (.cells #[.int .i64 0, .int .i64 0, .int .i64 0, .bool false] 53)).heap.size := by simp
  generalize (w.alloc (.cells #[.int .i64 0, .int .i64 0, .int .i64 0, .bool false] 53)) = w0 at *
  refine (split_any s 58 _ rfl hs _ (hp.below BW)).mono ?_
  rintro _ w1 ⟨pb, rfl, hp1, hp2, hpc, b1⟩
  replace BW := btrans BW b1
  replace BA := BA.below b1
  clear b1
  by_cases h3 : (cutL 58 s.data.toList).length = 3
  · obtain ⟨pa, pbb, pc, e3⟩ := threeP h3
    rw [e3] at hpc
    have p0 := hpc 0 pa rfl
    have p1 := hpc 1 pbb rfl
    have p2 := hpc 2 pc rfl
    have hpf : Hid (pf s.data.toList = _) := pf_three e3
    have la := cutL_mem 58 _ pa (by rw [e3]; simp)
    have lb := cutL_mem 58 _ pbb (by rw [e3]; simp)
    have lc := cutL_mem 58 _ pc (by rw [e3]; simp)
    have la' : (⟨pa.toArray⟩ : ByteArray).size ≤ 1048576 := by show pa.toArray.size ≤ _; rw [List.size_toArray]; omega
    have lb' : (⟨pbb.toArray⟩ : ByteArray).size ≤ 1048576 := by show pbb.toArray.size ≤ _; rw [List.size_toArray]; omega
    have hCS := cutSuffix_any pc (by omega)
    have hNA := number_any ⟨pa.toArray⟩ la'
    have hNB := number_any ⟨pbb.toArray⟩ lb'
    have hNO := numberOf_any (Lib.trimSuffix pc [42])
    change ∀ w, Pst w → Calls _ _ _ w (fun e w' => e = .returned (.tuple #[.int .i64 (pnum pa).1, .bool (pnum pa).2]) ∧ Below w.heap.size w w') at hNA
    change ∀ w, Pst w → Calls _ _ _ w (fun e w' => e = .returned (.tuple #[.int .i64 (pnum pbb).1, .bool (pnum pbb).2]) ∧ Below w.heap.size w w') at hNB
    generalize Lib.trimSuffix pc [42] = nm at *
    generalize Lib.hasSuffix pc [42] = g at *
    generalize (pnum pa).1 = na at *
    generalize (pnum pa).2 = qa at *
    generalize (pnum pbb).1 = nb at *
    generalize (pnum pbb).2 = qb at *
    generalize wnum nm = ws at *
    generalize decide (ws ≠ 0) = qs at *
    clear hpc e3 la lb lc la' lb'
    generalize (cutL 58 s.data.toList).length = n3 at *
    subst h3
    go_wp2_with fail
    refine (hCS _).mono ?_
    rintro e w2 ⟨rfl, rfl⟩
    go_wp2_with fail
    refine (hNA _ (hp.below BW)).mono ?_
    rintro e w3 ⟨rfl, b3⟩
    replace p1 := keep_below b3 p1
    replace BW := btrans BW b3
    replace BA := BA.below b3
    clear b3 p0 p2 hCS hNA
    go_wp2_with fail
    refine (hNB _ (hp.below BW)).mono ?_
    rintro e w4 ⟨rfl, b4⟩
    replace BW := btrans BW b4
    replace BA := BA.below b4
    clear b4 p1 hNB
    go_wp2_with fail
    refine (hNO _ (hp.below BW).t).mono ?_
    rintro e w5 ⟨rfl, b5⟩
    replace BW := btrans BW b5
    replace BA := BA.below b5
    clear b5 hNO
    cases qa
    · have hpf : Hid (pf s.data.toList = none) := by unfold Hid; rw [hpf.out]; simp
      have BA8 := (((BA.set0 na).set1 nb).set2 ws).set3 g
      have BE : Below w.heap.size w ((((w5.setCell ⟨w.heap.size, 0, none⟩ (.int .i64 na)).setCell ⟨w.heap.size, 1, none⟩ (.int .i64 nb)).setCell ⟨w.heap.size, 2, none⟩ (.int .i64 ws)).setCell ⟨w.heap.size, 3, none⟩ (.bool g)) := (((BW.setCell (Nat.le_refl _) _).setCell (Nat.le_refl _) _).setCell (Nat.le_refl _) _).setCell (Nat.le_refl _) _
      have a0 := BA.c0
      have a1 := BA.c1
      have a2 := BA.c2
      have a3 := BA.c3
      have z0 := BA.z 0
      have z1 := BA.z 1
      have z2 := BA.z 2
      have z3 := BA.z 3
      go_wp2
      clear a0 a1 a2 a3 z0 z1 z2 z3 BA BW
      generalize ((((w5.setCell ⟨w.heap.size, 0, none⟩ (.int .i64 na)).setCell ⟨w.heap.size, 1, none⟩ (.int .i64 nb)).setCell ⟨w.heap.size, 2, none⟩ (.int .i64 ws)).setCell ⟨w.heap.size, 3, none⟩ (.bool g)) = w9 at *
      have a0 := BA8.c0
      have a1 := BA8.c1
      have a2 := BA8.c2
      have a3 := BA8.c3
      exact bodyPost_ret (v := .tuple #[.agg #[.int .i64 na, .int .i64 nb, .int .i64 ws, .bool g], .bool false]) (by simp [results, Tryz.results34, go_sem, a0, a1, a2, a3]) rfl (Rd1.of ⟨na, nb, ws, g⟩ false rfl hpf.out BE)
    · cases qb
      · have hpf : Hid (pf s.data.toList = none) := by unfold Hid; rw [hpf.out]; simp
        have BA8 := (((BA.set0 na).set1 nb).set2 ws).set3 g
        have BE : Below w.heap.size w ((((w5.setCell ⟨w.heap.size, 0, none⟩ (.int .i64 na)).setCell ⟨w.heap.size, 1, none⟩ (.int .i64 nb)).setCell ⟨w.heap.size, 2, none⟩ (.int .i64 ws)).setCell ⟨w.heap.size, 3, none⟩ (.bool g)) := (((BW.setCell (Nat.le_refl _) _).setCell (Nat.le_refl _) _).setCell (Nat.le_refl _) _).setCell (Nat.le_refl _) _
        have a0 := BA.c0
        have a1 := BA.c1
        have a2 := BA.c2
        have a3 := BA.c3
        have z0 := BA.z 0
        have z1 := BA.z 1
        have z2 := BA.z 2
        have z3 := BA.z 3
        go_wp2
        clear a0 a1 a2 a3 z0 z1 z2 z3 BA BW
        generalize ((((w5.setCell ⟨w.heap.size, 0, none⟩ (.int .i64 na)).setCell ⟨w.heap.size, 1, none⟩ (.int .i64 nb)).setCell ⟨w.heap.size, 2, none⟩ (.int .i64 ws)).setCell ⟨w.heap.size, 3, none⟩ (.bool g)) = w9 at *
        have a0 := BA8.c0
        have a1 := BA8.c1
        have a2 := BA8.c2
        have a3 := BA8.c3
        exact bodyPost_ret (v := .tuple #[.agg #[.int .i64 na, .int .i64 nb, .int .i64 ws, .bool g], .bool false]) (by simp [results, Tryz.results34, go_sem, a0, a1, a2, a3]) rfl (Rd1.of ⟨na, nb, ws, g⟩ false rfl hpf.out BE)
      · have hpf : Hid (pf s.data.toList = if qs = true then some ⟨na, nb, ws, g⟩ else none) := by unfold Hid; rw [hpf.out]; simp
        have BA8 := (((BA.set0 na).set1 nb).set2 ws).set3 g
        have BE : Below w.heap.size w ((((w5.setCell ⟨w.heap.size, 0, none⟩ (.int .i64 na)).setCell ⟨w.heap.size, 1, none⟩ (.int .i64 nb)).setCell ⟨w.heap.size, 2, none⟩ (.int .i64 ws)).setCell ⟨w.heap.size, 3, none⟩ (.bool g)) := (((BW.setCell (Nat.le_refl _) _).setCell (Nat.le_refl _) _).setCell (Nat.le_refl _) _).setCell (Nat.le_refl _) _
        have a0 := BA.c0
        have a1 := BA.c1
        have a2 := BA.c2
        have a3 := BA.c3
        have z0 := BA.z 0
        have z1 := BA.z 1
        have z2 := BA.z 2
        have z3 := BA.z 3
        go_wp2
        clear a0 a1 a2 a3 z0 z1 z2 z3 BA BW
        generalize ((((w5.setCell ⟨w.heap.size, 0, none⟩ (.int .i64 na)).setCell ⟨w.heap.size, 1, none⟩ (.int .i64 nb)).setCell ⟨w.heap.size, 2, none⟩ (.int .i64 ws)).setCell ⟨w.heap.size, 3, none⟩ (.bool g)) = w9 at *
        have a0 := BA8.c0
        have a1 := BA8.c1
        have a2 := BA8.c2
        have a3 := BA8.c3
        exact bodyPost_ret (v := .tuple #[.agg #[.int .i64 na, .int .i64 nb, .int .i64 ws, .bool g], .bool qs]) (by simp [results, Tryz.results34, go_sem, a0, a1, a2, a3]) rfl (Rd1.of ⟨na, nb, ws, g⟩ qs rfl hpf.out BE)
  · have h3i : ((cutL 58 s.data.toList).length : Int) ≠ 3 := by omega
    have h3b : (((cutL 58 s.data.toList).length : Int) == 3) = false := by simpa using h3i
    have hpf : Hid (pf s.data.toList = none) := pf_short h3
    clear hpc
    have BA8 := (((BA.set0 0).set1 0).set2 0).set3 false
    have BE : Below w.heap.size w ((((w1.setCell ⟨w.heap.size, 0, none⟩ (.int .i64 0)).setCell ⟨w.heap.size, 1, none⟩ (.int .i64 0)).setCell ⟨w.heap.size, 2, none⟩ (.int .i64 0)).setCell ⟨w.heap.size, 3, none⟩ (.bool false)) := (((BW.setCell (Nat.le_refl _) _).setCell (Nat.le_refl _) _).setCell (Nat.le_refl _) _).setCell (Nat.le_refl _) _
    have a0 := BA.c0
    have a1 := BA.c1
    have a2 := BA.c2
    have a3 := BA.c3
    have z0 := BA.z 0
    have z1 := BA.z 1
    have z2 := BA.z 2
    have z3 := BA.z 3
    go_wp2
    clear a0 a1 a2 a3 z0 z1 z2 z3 BA BW
    generalize ((((w1.setCell ⟨w.heap.size, 0, none⟩ (.int .i64 0)).setCell ⟨w.heap.size, 1, none⟩ (.int .i64 0)).setCell ⟨w.heap.size, 2, none⟩ (.int .i64 0)).setCell ⟨w.heap.size, 3, none⟩ (.bool false)) = w9 at *
    have a0 := BA8.c0
    have a1 := BA8.c1
    have a2 := BA8.c2
    have a3 := BA8.c3
    exact bodyPost_ret (v := .tuple #[.agg #[.int .i64 0, .int .i64 0, .int .i64 0, .bool false], .bool false]) (by simp [results, Tryz.results34, go_sem, a0, a1, a2, a3]) rfl (Rd1.of ⟨0, 0, 0, false⟩ false rfl hpf.out BE)
end Go.Proofs.YtibnojbhoepcdaaGreatDoor
/- A table read: the model's way and the program's. -/
namespace Go.Proofs.YtibnojbhoepcdaaGreatDoor
open Go.ChangeShapes Go.WideShapes Go.ChangeAt Go.RowKit
theorem alls_none (r : List UInt8 → Option Fc) : ∀ {ps : List (List UInt8)} {k : Nat} {p : List UInt8}, ps[k]? = some p → r p = none → alls r ps = none
  | [], _, _, h, _ => by simp at h
  | a :: ps, 0, p, h, hn => by
    simp at h
    subst h
    rw [alls, hn]
  | a :: ps, k + 1, p, h, hn => by
    have := alls_none r (ps := ps) (k := k) (by simpa using h) hn
    rw [alls, this]
    cases r a <;> rfl
theorem alls_snoc (r : List UInt8 → Option Fc) (p : List UInt8) (f : Fc) (hp : r p = some f) : ∀ (ps : List (List UInt8)) (T : List Fc), alls r ps = some T → alls r (ps ++ [p]) = some (T ++ [f])
  | [], T, h => by
    injection h with h
    subst h
    simp [alls, hp]
  | a :: ps, T, h => by
    rw [alls] at h
    rw [List.cons_append, alls]
    cases ha : r a with
    | none => rw [ha] at h; cases h
    | some g =>
      rw [ha] at h
      simp only at h ⊢
      cases hq : alls r ps with
      | none => rw [hq] at h; cases h
      | some T' =>
        rw [hq] at h
        injection h with h
        subst h
        rw [alls_snoc r p f hp ps T' hq]
        rfl
theorem alls_take (r : List UInt8 → Option Fc) {ps : List (List UInt8)} {k : Nat} {p : List UInt8} {f : Fc} {T : List Fc} (hk : ps[k]? = some p) (hT : alls r (ps.take k) = some T) (hp : r p = some f) : alls r (ps.take (k + 1)) = some (T ++ [f]) := by
  rw [List.take_add_one, hk]
  exact alls_snoc r p f hp _ T hT
theorem alls_len (r : List UInt8 → Option Fc) : ∀ {ps : List (List UInt8)} {T : List Fc}, alls r ps = some T → T.length = ps.length
  | [], T, h => by
    injection h with h
    subst h
    rfl
  | a :: ps, T, h => by
    rw [alls] at h
    split at h
    · cases h
    · split at h
      · cases h
      · next T' hT =>
        injection h with h
        subst h
        simp [alls_len r hT]
theorem keep_lt {w w' : World} {base b o : Nat} {v : Value} (hb : Below base w w') (hl : b < base) (h : w.cell? ⟨b, o, none⟩ = some v) : w'.cell? ⟨b, o, none⟩ = some v := by
  rw [← h]
  exact World.cell?_of_block (w := w) (hb.block b hl)
/-- pieces lie in block b -/
def Pcs (w : World) (b : Nat) (l : List (List UInt8)) : Prop := ∀ j p, l[j]? = some p → w.cell? ⟨b, j, none⟩ = some (.string ⟨p.toArray⟩)
theorem keep_al {w : World} {b o : Nat} {v : Value} (x : Obj) (hl : b < w.heap.size) (h : w.cell? ⟨b, o, none⟩ = some v) : (w.alloc x).cell? ⟨b, o, none⟩ = some v := keep_lt (balloc x (Below.refl _ _)) hl h
theorem cutL_len2 (c : UInt8) : ∀ n (s : List UInt8), s.length ≤ n → (∀ p ∈ cutL c s, p ≠ []) → 2 * (cutL c s).length ≤ s.length + 1 := by
  intro n
  induction n with
  | zero =>
    intro s hs h
    have : s = [] := List.length_eq_zero_iff.1 (by omega)
    subst this
    exact absurd rfl (h [] (by simp [cutL]))
  | succ n ih =>
    intro s hs h
    rcases cutL_split c s with hf | ⟨a, r, e, ha⟩
    · rw [cutL_free c s hf] at h ⊢
      have := h s (by simp)
      have : 0 < s.length := List.length_pos_iff.2 this
      simp
      omega
    · subst e
      rw [cutL_hit c a r ha] at h ⊢
      have h1 := ih r (by simp at hs; omega) (fun p hp => h p (List.mem_cons_of_mem _ hp))
      have h2 : 0 < a.length := List.length_pos_iff.2 (h a (by simp))
      simp
      omega
theorem alls_few (r : List UInt8 → Option Fc) (h0 : r [] = none) {s : List UInt8} {T : List Fc} (hs : s.length ≤ 1048576) (h : alls r (cutL 44 s) = some T) : T.length ≤ 1048576 := by
  have := cutL_len2 44 s.length s (Nat.le_refl _) (fun p hp e => by
    obtain ⟨i, hi, e'⟩ := List.getElem_of_mem hp
    have := alls_none r (ps := cutL 44 s) (k := i) (p := []) (by rw [List.getElem?_eq_getElem hi, e', e]) h0
    rw [this] at h
    cases h)
  have := alls_len r h
  omega
/-- a reader of tables answers what r says -/
def Rd2 (r : List UInt8 → Option (List Fc)) (s : ByteArray) (w : World) (e : Ending) (w' : World) : Prop :=
  ∃ v T q, e = .returned (.tuple #[v, .bool q]) ∧ w'.ownsRow w.heap.size 53 4 v T.length (fl T) ∧ (q = false → T = []) ∧ T.length ≤ 1048576 ∧ r s.data.toList = (if q = true then some T else none) ∧ Below w.heap.size w w'
theorem Rd2.of {r : List UInt8 → Option (List Fc)} {s : ByteArray} {w w' : World} {e : Ending} (v : Value) (T : List Fc) (q : Bool) (he : e = .returned (.tuple #[v, .bool q])) (ho : w'.ownsRow w.heap.size 53 4 v T.length (fl T)) (hn : q = false → T = []) (hl : T.length ≤ 1048576) (hr : r s.data.toList = (if q = true then some T else none)) (hb : Below w.heap.size w w') : Rd2 r s w e w' := ⟨v, T, q, he, ho, hn, hl, hr, hb⟩
theorem infoF : (Tryz.prog.info? 53).map (fun i => (i.zero, i.size, i.bytes)) = some (some (fval Fc.zero), 4, 32) := by kernel_rfl
/-- facts as the model reads them, before they are written again -/
def mfacts (s : List UInt8) : Option (List Fc) := if s = [45] then some [] else alls mf (cutL 44 s)
theorem dash_no {s : ByteArray} (h : ¬ s.data.toList = [45]) : (s.toList == [45]) = false := by
  rw [beq_eq_false_iff_ne, ByteArray.toList_eq]
  exact h
set_option maxRecDepth 20000 in
set_option maxHeartbeats 4000000 in
theorem sfacts_any (s : ByteArray) (hs : s.size ≤ 1048576) (w : World) :
    Calls Tryz.prog 36 #[.string s] w fun e w' => Rd2 mfacts s w e w' := by
  have hL : s.data.toList.length = s.size := by simp
  by_cases h45 : s.data.toList = [45]
  · have hm : mfacts s.data.toList = some [] := by unfold mfacts; rw [if_pos h45]
    have he : (s.toList == [45]) = true := by rw [ByteArray.toList_eq, h45]; rfl
    clear h45
    go_enter Tryz.func36, Tryz.ntmps36
    go_wp2
    go_ret2
    exact Rd2.of _ [] true rfl (World.ownsRow_lit w #[] 0 (Nat.le_refl _) (by unfold maxLen; omega) rfl) (fun h => by cases h) (by simp) hm (balloc _ (Below.refl _ _))
  · have hd := dash_no h45
    have hm : Hid (mfacts s.data.toList = alls mf (cutL 44 s.data.toList)) := by unfold Hid mfacts; rw [if_neg h45]
    obtain ⟨ti, hi, hz0, hz1, hz2⟩ := info_parts infoF
    go_enter Tryz.func36, Tryz.ntmps36
    go_wp2_with fail
    have hw0 : w.heap.size < (w.alloc (.cells #[] 53)).heap.size := by simp
    have B0 : Below w.heap.size w (w.alloc (.cells #[] 53)) := balloc _ (Below.refl _ _)
    have O0 : (w.alloc (.cells #[] 53)).ownsRow w.heap.size 53 4 (.slice (some ⟨w.heap.size, 0, none⟩) 0 0) 0 [] := World.ownsRow_lit w #[] 0 (Nat.le_refl _) (by unfold maxLen; omega) rfl
    generalize w.alloc (.cells #[] 53) = w0 at *
    refine (scut_lit s 44 44 rfl hs _).mono ?_
    rintro _ w1 ⟨v, rfl, hown, b1⟩
    replace B0 := btrans B0 b1
    replace O0 := own_below O0 b1
    clear b1
    obtain ⟨pb, cap, rfl, hpb, hp2, hp3, hpc⟩ := cut_at (cutL_ne _ _) hown
    clear hown
    have hpc : Pcs w1 pb (cutL 44 s.data.toList) := hpc
    have hfew := cutL_len 44 s.size s.data.toList (by omega)
    go_wp2_with fail
    go_loopw [4, 6] (fun v i wr => ∃ (k : Nat) (T : List Fc), i = .int .i64 k ∧ k ≤ (cutL 44 s.data.toList).length ∧ alls mf ((cutL 44 s.data.toList).take k) = some T ∧ wr.ownsRow w.heap.size 53 4 v T.length (fl T) ∧ Below w.heap.size w wr ∧ pb < wr.heap.size ∧ v.ownBlock ≠ some pb ∧ Pcs wr pb (cutL 44 s.data.toList)) (fun _ i _ => (cutL 44 s.data.toList).length - (intOf i).toNat)
    case atStart => exact ⟨0, [], rfl, Nat.zero_le _, rfl, O0, B0, hp2, by simp [Value.ownBlock]; omega, hpc⟩
    case round =>
      clear hpc O0 B0
      obtain ⟨k, T, rfl, hk, hT, hown, hb, hp1, hvb, hpc⟩ := hrel
      by_cases hlt : k < (cutL 44 s.data.toList).length
      · have i0 : (0 : Int) ≤ (k : Int) := by omega
        have i1 : (k : Int) < ((cutL 44 s.data.toList).length : Int) := by omega
        obtain ⟨p, hpk⟩ : ∃ p, (cutL 44 s.data.toList)[k]? = some p := ⟨_, List.getElem?_eq_getElem hlt⟩
        have c0 := hpc k p hpk
        have lp := cutL_mem 44 _ p (List.mem_of_getElem? hpk)
        have lp' : (⟨p.toArray⟩ : ByteArray).size ≤ 1048576 := by show p.toArray.size ≤ _; rw [List.size_toArray]; omega
        go_wp2_with fail
        refine (sread_any ⟨p.toArray⟩ lp' _).mono ?_
        rintro _ w2 ⟨f, q, rfl, hr, b2⟩
        have hr' : mf p = if q = true then some f else none := hr
        have B1 := btrans hb b2
        have O1 := own_below hown b2
        have hp1' := Nat.lt_of_lt_of_le hp1 b2.size
        have hpc2 : Pcs w2 pb (cutL 44 s.data.toList) := fun j p hj => keep_below b2 (hpc j p hj)
        clear c0 b2 hr hown hb hpc
        cases q
        · have hno : Hid (mf p = none) := by unfold Hid; rw [hr']; rfl
          have hal : alls mf (cutL 44 s.data.toList) = none := alls_none mf hpk hno.out
          go_wp2
          go_ret2
          exact Rd2.of _ [] false rfl (by have := World.ownsRow_lit (base := w.heap.size) (e := 53) (size := 4) (w2.alloc (.cells #[.int .i64 f.n, .int .i64 f.i, .int .i64 f.s, .bool f.g] 53)) #[] 0 (by have := B1.size; simp; omega) (by unfold maxLen; omega) rfl; simpa [fl] using this) (fun _ => rfl) (by simp) (by rw [hm.out, hal]; rfl) (balloc _ (balloc _ B1))
        · have hsm : mf p = some f := by rw [hr']; rfl
          have hts := alls_take mf hpk hT hsm
          have hle : T.length ≤ k := by rw [alls_len mf hT, List.length_take]; omega
          have B2 := balloc (.cells #[.int .i64 f.n, .int .i64 f.i, .int .i64 f.s, .bool f.g] 53) B1
          have O2 := O1.alloc (.cells #[.int .i64 f.n, .int .i64 f.i, .int .i64 f.s, .bool f.g] 53)
          have cA : (w2.alloc (.cells #[.int .i64 f.n, .int .i64 f.i, .int .i64 f.s, .bool f.g] 53)).cell? ⟨w2.heap.size, 0, none⟩ = some (.int .i64 f.n) := by simp
          have cB : (w2.alloc (.cells #[.int .i64 f.n, .int .i64 f.i, .int .i64 f.s, .bool f.g] 53)).cell? ⟨w2.heap.size, 1, none⟩ = some (.int .i64 f.i) := by simp
          have cC : (w2.alloc (.cells #[.int .i64 f.n, .int .i64 f.i, .int .i64 f.s, .bool f.g] 53)).cell? ⟨w2.heap.size, 2, none⟩ = some (.int .i64 f.s) := by simp
          have cD : (w2.alloc (.cells #[.int .i64 f.n, .int .i64 f.i, .int .i64 f.s, .bool f.g] 53)).cell? ⟨w2.heap.size, 3, none⟩ = some (.bool f.g) := by simp
          have hp3 : pb < (w2.alloc (.cells #[.int .i64 f.n, .int .i64 f.i, .int .i64 f.s, .bool f.g] 53)).heap.size := by simp; omega
          have hpc3 : Pcs (w2.alloc (.cells #[.int .i64 f.n, .int .i64 f.i, .int .i64 f.s, .bool f.g] 53)) pb (cutL 44 s.data.toList) := fun j p hj => keep_al _ hp1' (hpc2 j p hj)
          clear hr' hpc2 hp1 hp1'
          go_upto_region 11 with fail
          generalize w2.alloc (.cells #[.int .i64 f.n, .int .i64 f.i, .int .i64 f.s, .bool f.g] 53) = w3 at *
          generalize w2.heap.size = b7 at *
          go_wp2_with (at_builtin; refine wpList_append_own_at _ rfl _ _ 24 rfl w.heap.size 53 ti (fval Fc.zero) 4 32 Tryz.underlying24 hi hz0 hz1 hz2 rfl (by decide) _ _ _ rfl (O2.alloc _) ⟨w3.heap.size, 0, none⟩ 1 1 [.int .i64 f.n, .int .i64 f.i, .int .i64 f.s, .bool f.g] rfl rfl ?c1 ?c2 ?c3 ?c4 ?c5 ?_)
          case c1 =>
            intro j u hj
            match j, hj with
            | 0, hj => simp at hj; subst hj; simp [Addr.add]
            | 1, hj => simp at hj; subst hj; simp [Addr.add]
            | 2, hj => simp at hj; subst hj; simp [Addr.add]
            | 3, hj => simp at hj; subst hj; simp [Addr.add]
          case c2 => intro u hu; simp at hu; rcases hu with rfl | rfl | rfl | rfl <;> rfl
          case c3 => unfold maxLen; omega
          case c4 => omega
          case c5 => have := B2.size; simp; omega
          · intro v' w4 hown' hgrow _ hob
            have B4 := own_grow (balloc (.cells #[.int .i64 f.n, .int .i64 f.i, .int .i64 f.s, .bool f.g] 53) B2) (by have := B2.size; simp; omega) (O2.alloc _) hgrow
            have hp4 : pb < w4.heap.size := by have := hgrow.size; simp at this; omega
            have hpc4 : Pcs w4 pb (cutL 44 s.data.toList) := fun j p hj => by
              rw [← keep_al (.cells #[.int .i64 f.n, .int .i64 f.i, .int .i64 f.s, .bool f.g] 53) hp3 (hpc3 j p hj)]
              exact World.cell?_of_block (hgrow.block pb (by simp; omega) (Ne.symm hvb))
            have hvb' : v'.ownBlock ≠ some pb := by
              rcases hob with e | e
              · rw [e]; exact hvb
              · rw [e]; simp; omega
            clear O1 O2 hgrow B2 B1 cA cB cC cD hpc3 hp3 hob
            go_wp2
            go_roundw
            case rel => exact ⟨k + 1, T ++ [f], by go_num, by omega, hts, by rw [List.length_append, fl_snoc]; exact hown', B4, hp4, hvb', hpc4⟩
            case measure => simp [intOf]; omega
      · obtain rfl : k = (cutL 44 s.data.toList).length := by omega
        rw [List.take_length] at hT
        have hTl := alls_few mf mf_nil (by omega) hT
        have hmm : Hid (mfacts s.data.toList = some T) := by unfold Hid; rw [hm.out, hT]
        go_wp2
        go_ret2
        exact Rd2.of _ T true rfl hown (fun h => by cases h) hTl hmm.out hb
set_option maxRecDepth 20000 in
set_option maxHeartbeats 4000000 in
theorem sparse_any (s : ByteArray) (hs : s.size ≤ 1048576) (w : World) :
    Calls Tryz.prog 10 #[.string s] w fun e w' => Rd2 mt s w e w' := by
  have hmt : Hid (mt s.data.toList = match mfacts s.data.toList with | none => none | some T => if txL T = s.data.toList then some T else none) := by
    unfold Hid mt mfacts
    by_cases h : s.data.toList = [45]
    · rw [if_pos h, if_pos h]
      simp only
      rw [if_pos (by rw [h]; rfl)]
    · rw [if_neg h, if_neg h]
      cases alls mf (cutL 44 s.data.toList) <;> rfl
  go_enter Tryz.func10, Tryz.ntmps10
  go_wp2_with fail
  refine (sfacts_any s hs _).mono ?_
  rintro _ w1 ⟨v, T, q, rfl, hown, hn, hl, hr, b1⟩
  rw [hr] at hmt
  clear hr
  obtain ⟨a, cap, rfl, hcap, -, hF⟩ := own_facts hown
  cases q
  · have hno : Hid (mt s.data.toList = none) := hmt
    have O2 : (w1.alloc (.cells #[] 53)).ownsRow w.heap.size 53 4 (.slice (some ⟨w1.heap.size, 0, none⟩) 0 0) 0 (fl []) := World.ownsRow_lit w1 #[] 0 b1.size (by unfold maxLen; omega) rfl
    clear hmt hown hn hl hF
    go_wp2
    go_ret2
    exact Rd2.of _ [] false rfl O2 (fun _ => rfl) (by simp) hno.out (balloc _ b1)
  · have hmt' : Hid (mt s.data.toList = if txL T = s.data.toList then some T else none) := hmt
    have hT := stext_any a T.length cap (atF T) w1 hF hl
    rw [txt_txL] at hT
    obtain ⟨x, hx⟩ : ∃ x, Hid (bs (txL T) = x) := ⟨_, rfl⟩
    rw [hx.out] at hT
    clear hmt hF hn
    by_cases he : txL T = s.data.toList
    · have hxe : (x.toList == s.toList) = true := by
        rw [← hx.out, ByteArray.toList_eq, ByteArray.toList_eq]
        exact beq_iff_eq.2 he
      have hy : Hid (mt s.data.toList = some T) := by unfold Hid; rw [hmt'.out, if_pos he]
      clear hmt' he
      go_wp2_with fail
      refine hT.mono ?_
      rintro _ w2 ⟨rfl, b2⟩
      have O2 := own_below hown b2
      have B2 := btrans b1 b2
      clear hT hown b1 b2
      go_wp2
      go_ret2
      exact Rd2.of _ T true rfl O2 (fun h => by cases h) hl hy.out B2
    · have hxe : (x.toList == s.toList) = false := by
        rw [← hx.out, ByteArray.toList_eq, ByteArray.toList_eq]
        exact beq_eq_false_iff_ne.2 he
      have hy : Hid (mt s.data.toList = none) := by unfold Hid; rw [hmt'.out, if_neg he]
      clear hmt' he
      go_wp2_with fail
      refine hT.mono ?_
      rintro _ w2 ⟨rfl, b2⟩
      have B2 := btrans b1 b2
      have O2 : (w2.alloc (.cells #[] 53)).ownsRow w.heap.size 53 4 (.slice (some ⟨w2.heap.size, 0, none⟩) 0 0) 0 (fl []) := World.ownsRow_lit w2 #[] 0 B2.size (by unfold maxLen; omega) rfl
      clear hT hown b1 b2
      go_wp2
      go_ret2
      exact Rd2.of _ [] false rfl O2 (fun _ => rfl) (by simp) hy.out (balloc _ B2)
theorem pf_nil : pf [] = none := rfl
set_option maxRecDepth 20000 in
set_option maxHeartbeats 4000000 in
theorem tparse_any (s : ByteArray) (hs : s.size ≤ 1048576) (w : World) (hp : Pst w) :
    Calls Tryz.prog 9 #[.string s] w fun e w' => Rd2 pt s w e w' := by
  have hL : s.data.toList.length = s.size := by simp
  by_cases h45 : s.data.toList = [45]
  · have hm : pt s.data.toList = some [] := by unfold pt; rw [if_pos h45]
    have he : (s.toList == [45]) = true := by rw [ByteArray.toList_eq, h45]; rfl
    clear h45
    go_enter Tryz.func9, Tryz.ntmps9
    go_wp2
    go_ret2
    exact Rd2.of _ [] true rfl (World.ownsRow_nil _ _ _ _) (fun h => by cases h) (by simp) hm (Below.refl _ _)
  · have hd := dash_no h45
    have hm : Hid (pt s.data.toList = match alls pf (cutL 44 s.data.toList) with | none => none | some T => if tokL T = true then some T else none) := by
      unfold Hid pt
      rw [if_neg h45]
      cases alls pf (cutL 44 s.data.toList) <;> rfl
    obtain ⟨ti, hi, hz0, hz1, hz2⟩ := info_parts infoF
    go_enter Tryz.func9, Tryz.ntmps9
    go_wp2_with fail
    refine (split_any s 44 _ rfl hs _ hp).mono ?_
    rintro _ w1 ⟨pb, rfl, hpb, hp2, hpc, B0⟩
    have hpc : Pcs w1 pb (cutL 44 s.data.toList) := hpc
    have hfew := cutL_len 44 s.size s.data.toList (by omega)
    go_wp2_with fail
    go_loopw [4, 14] (fun v i wr => ∃ (k : Nat) (T : List Fc), i = .int .i64 k ∧ k ≤ (cutL 44 s.data.toList).length ∧ alls pf ((cutL 44 s.data.toList).take k) = some T ∧ wr.ownsRow w.heap.size 53 4 v T.length (fl T) ∧ Below w.heap.size w wr ∧ pb < wr.heap.size ∧ v.ownBlock ≠ some pb ∧ Pcs wr pb (cutL 44 s.data.toList)) (fun _ i _ => (cutL 44 s.data.toList).length - (intOf i).toNat)
    case atStart => exact ⟨0, [], rfl, Nat.zero_le _, rfl, World.ownsRow_nil _ _ _ _, B0, hp2, by simp [Value.ownBlock], hpc⟩
    case round =>
      clear hpc B0
      obtain ⟨k, T, rfl, hk, hT, hown, hb, hp1, hvb, hpc⟩ := hrel
      by_cases hlt : k < (cutL 44 s.data.toList).length
      · have i0 : (0 : Int) ≤ (k : Int) := by omega
        have i1 : (k : Int) < ((cutL 44 s.data.toList).length : Int) := by omega
        obtain ⟨p, hpk⟩ : ∃ p, (cutL 44 s.data.toList)[k]? = some p := ⟨_, List.getElem?_eq_getElem hlt⟩
        have c0 := hpc k p hpk
        have lp := cutL_mem 44 _ p (List.mem_of_getElem? hpk)
        have lp' : (⟨p.toArray⟩ : ByteArray).size ≤ 1048576 := by show p.toArray.size ≤ _; rw [List.size_toArray]; omega
        go_wp2_with fail
        refine (fparse_any ⟨p.toArray⟩ lp' _ (hp.below hb)).mono ?_
        rintro _ w2 ⟨f, q, rfl, hr, b2⟩
        have hr' : pf p = if q = true then some f else none := hr
        have B1 := btrans hb b2
        have O1 := own_below hown b2
        have hp1' := Nat.lt_of_lt_of_le hp1 b2.size
        have hpc2 : Pcs w2 pb (cutL 44 s.data.toList) := fun j p hj => keep_below b2 (hpc j p hj)
        clear c0 b2 hr hown hb hpc
        cases q
        · have hno : Hid (pf p = none) := by unfold Hid; rw [hr']; rfl
          have hal : alls pf (cutL 44 s.data.toList) = none := alls_none pf hpk hno.out
          go_wp2
          go_ret2
          exact Rd2.of _ [] false rfl (World.ownsRow_nil _ _ _ _) (fun _ => rfl) (by simp) (by rw [hm.out, hal]; rfl) (balloc _ B1)
        · have hsm : pf p = some f := by rw [hr']; rfl
          have hts := alls_take pf hpk hT hsm
          have hle : T.length ≤ k := by rw [alls_len pf hT, List.length_take]; omega
          have B2 := balloc (.cells #[.int .i64 f.n, .int .i64 f.i, .int .i64 f.s, .bool f.g] 53) B1
          have O2 := O1.alloc (.cells #[.int .i64 f.n, .int .i64 f.i, .int .i64 f.s, .bool f.g] 53)
          have cA : (w2.alloc (.cells #[.int .i64 f.n, .int .i64 f.i, .int .i64 f.s, .bool f.g] 53)).cell? ⟨w2.heap.size, 0, none⟩ = some (.int .i64 f.n) := by simp
          have cB : (w2.alloc (.cells #[.int .i64 f.n, .int .i64 f.i, .int .i64 f.s, .bool f.g] 53)).cell? ⟨w2.heap.size, 1, none⟩ = some (.int .i64 f.i) := by simp
          have cC : (w2.alloc (.cells #[.int .i64 f.n, .int .i64 f.i, .int .i64 f.s, .bool f.g] 53)).cell? ⟨w2.heap.size, 2, none⟩ = some (.int .i64 f.s) := by simp
          have cD : (w2.alloc (.cells #[.int .i64 f.n, .int .i64 f.i, .int .i64 f.s, .bool f.g] 53)).cell? ⟨w2.heap.size, 3, none⟩ = some (.bool f.g) := by simp
          have hp3 : pb < (w2.alloc (.cells #[.int .i64 f.n, .int .i64 f.i, .int .i64 f.s, .bool f.g] 53)).heap.size := by simp; omega
          have hpc3 : Pcs (w2.alloc (.cells #[.int .i64 f.n, .int .i64 f.i, .int .i64 f.s, .bool f.g] 53)) pb (cutL 44 s.data.toList) := fun j p hj => keep_al _ hp1' (hpc2 j p hj)
          clear hr' hpc2 hp1 hp1'
          go_upto_region 10 with fail
          generalize w2.alloc (.cells #[.int .i64 f.n, .int .i64 f.i, .int .i64 f.s, .bool f.g] 53) = w3 at *
          generalize w2.heap.size = b7 at *
          go_wp2_with (at_builtin; refine wpList_append_own_at _ rfl _ _ 24 rfl w.heap.size 53 ti (fval Fc.zero) 4 32 Tryz.underlying24 hi hz0 hz1 hz2 rfl (by decide) _ _ _ rfl (O2.alloc _) ⟨w3.heap.size, 0, none⟩ 1 1 [.int .i64 f.n, .int .i64 f.i, .int .i64 f.s, .bool f.g] rfl rfl ?c1 ?c2 ?c3 ?c4 ?c5 ?_)
          case c1 =>
            intro j u hj
            match j, hj with
            | 0, hj => simp at hj; subst hj; simp [Addr.add]
            | 1, hj => simp at hj; subst hj; simp [Addr.add]
            | 2, hj => simp at hj; subst hj; simp [Addr.add]
            | 3, hj => simp at hj; subst hj; simp [Addr.add]
          case c2 => intro u hu; simp at hu; rcases hu with rfl | rfl | rfl | rfl <;> rfl
          case c3 => unfold maxLen; omega
          case c4 => omega
          case c5 => have := B2.size; simp; omega
          · intro v' w4 hown' hgrow _ hob
            have B4 := own_grow (balloc (.cells #[.int .i64 f.n, .int .i64 f.i, .int .i64 f.s, .bool f.g] 53) B2) (by have := B2.size; simp; omega) (O2.alloc _) hgrow
            have hp4 : pb < w4.heap.size := by have := hgrow.size; simp at this; omega
            have hpc4 : Pcs w4 pb (cutL 44 s.data.toList) := fun j p hj => by
              rw [← keep_al (.cells #[.int .i64 f.n, .int .i64 f.i, .int .i64 f.s, .bool f.g] 53) hp3 (hpc3 j p hj)]
              exact World.cell?_of_block (hgrow.block pb (by simp; omega) (Ne.symm hvb))
            have hvb' : v'.ownBlock ≠ some pb := by
              rcases hob with e | e
              · rw [e]; exact hvb
              · rw [e]; simp; omega
            clear O1 O2 hgrow B2 B1 cA cB cC cD hpc3 hp3 hob
            go_wp2
            go_roundw
            case rel => exact ⟨k + 1, T ++ [f], by go_num, by omega, hts, by rw [List.length_append, fl_snoc]; exact hown', B4, hp4, hvb', hpc4⟩
            case measure => simp [intOf]; omega
      · obtain rfl : k = (cutL 44 s.data.toList).length := by omega
        rw [List.take_length] at hT
        have hTl := alls_few pf pf_nil (by omega) hT
        have hm' : Hid (pt s.data.toList = if tokL T = true then some T else none) := by unfold Hid; rw [hm.out, hT]
        clear hm hpc
        obtain ⟨a, cap, rfl, hcap, -, hF⟩ := own_facts hown
        cases hq0 : tokL T
        · have hno : Hid (pt s.data.toList = none) := by unfold Hid; rw [hm'.out, hq0]; rfl
          have hq : Hid (tokB T.length (atF T) = false) := hq0
          clear hm' hq0
          go_wp2_with fail
          refine (tok_litt a T.length cap (atF T) false _ hF hTl hq.out).mono ?_
          rintro _ w2 ⟨rfl, b2⟩
          have B2 := btrans hb b2
          clear hF hown hb b2
          go_wp2
          go_ret2
          exact Rd2.of _ [] false rfl (World.ownsRow_nil _ _ _ _) (fun _ => rfl) (by simp) hno.out B2
        · have hy : Hid (pt s.data.toList = some T) := by unfold Hid; rw [hm'.out, hq0]; rfl
          have hq : Hid (tokB T.length (atF T) = true) := hq0
          clear hm' hq0
          go_wp2_with fail
          refine (tok_litt a T.length cap (atF T) true _ hF hTl hq.out).mono ?_
          rintro _ w2 ⟨rfl, b2⟩
          have O2 := own_below hown b2
          have B2 := btrans hb b2
          clear hF hown hb b2
          go_wp2
          go_ret2
          exact Rd2.of _ T true rfl O2 (fun h => by cases h) hTl hy.out B2
end Go.Proofs.YtibnojbhoepcdaaGreatDoor
/- Names and numbers with a sign, read by the program. -/
namespace Go.Proofs.YtibnojbhoepcdaaGreatDoor
open Go.ChangeShapes Go.WideShapes Go.ChangeAt Go.RowKit
attribute [local go_sem ↓] Go.wp_at_zero Go.wp_at_succ
theorem idx_pool (x : List UInt8) : Lib.idxOfS [bs pool1, bs pool2] (bs x) = poolN x - 1 := by
  have e : ∀ a : List UInt8, (bs a = bs x) ↔ x = a := fun a => ⟨fun h => by have := congrArg (fun z => z.data.toList) h; simpa using this.symm, fun h => by rw [h]⟩
  unfold Lib.idxOfS poolN
  simp only [Lib.idxFromS, e]
  split
  · rfl
  · split
    · rfl
    · rfl
theorem pool_range (x : List UInt8) : 0 ≤ poolN x ∧ poolN x ≤ 2 := by
  unfold poolN
  split
  · omega
  · split
    · omega
    · omega
set_option maxRecDepth 20000 in
set_option maxHeartbeats 4000000 in
theorem poolNo_any (x : List UInt8) (w : World) (ht : Tabs w) :
    Calls Tryz.prog 73 #[.string (bs [108, 97, 110, 32, 119, 97, 110]), .string (bs x)] w fun e w' => e = .returned (.tuple #[.int .i64 (poolN x), .bool (decide (poolN x ≠ 0))]) ∧ Below w.heap.size w w' := by
  obtain ⟨r0, r4⟩ := pool_range x
  have hw := idx_pool x
  generalize poolN x = z at *
  go_enter Tryz.func73, Tryz.ntmps73
  go_wp2_with fail
  refine (pools_any _ ht).mono ?_
  rintro e w1 ⟨rfl, rfl⟩
  have hI := Tryz.slices_Index_string w.heap.size 0 2 2 [bs pool1, bs pool2] (bs x) (w.alloc (.cells #[.string (bs pool1), .string (bs pool2)] 9)) (Nat.le_refl _) (by omega) (fun j hj => by
    match j, hj with
    | 0, _ => simp
    | 1, _ => simp)
  rw [show List.take 2 [bs pool1, bs pool2] = [bs pool1, bs pool2] from rfl, hw] at hI
  clear hw
  have b1 : Below w.heap.size w (w.alloc (.cells #[.string (bs pool1), .string (bs pool2)] 9)) := balloc _ (Below.refl _ _)
  generalize w.alloc (.cells #[.string (bs pool1), .string (bs pool2)] 9) = w2 at *
  go_wp2_with fail
  refine hI.mono ?_
  rintro e w3 ⟨rfl, rfl⟩
  clear hI
  by_cases hz : z = 0
  · subst hz
    go_wp2
    go_ret2
    exact ⟨rfl, b1⟩
  · have hge : (0 : Int) ≤ z - 1 := by omega
    go_wp2
    go_ret2
    exact ⟨by simp [hz]; omega, b1⟩
theorem idx_kind (x : List UInt8) : Lib.idxOfS [bs kind1, bs kind2, bs kind3, bs kind4, bs kind5, bs kind6] (bs x) = kindN x - 1 := by
  have e : ∀ a : List UInt8, (bs a = bs x) ↔ x = a := fun a => ⟨fun h => by have := congrArg (fun z => z.data.toList) h; simpa using this.symm, fun h => by rw [h]⟩
  unfold Lib.idxOfS kindN
  simp only [Lib.idxFromS, e]
  split
  · rfl
  · split
    · rfl
    · split
      · rfl
      · split
        · rfl
        · split
          · rfl
          · split
            · rfl
            · rfl
theorem kind_range (x : List UInt8) : 0 ≤ kindN x ∧ kindN x ≤ 6 := by
  unfold kindN
  split
  · omega
  · split
    · omega
    · split
      · omega
      · split
        · omega
        · split
          · omega
          · split
            · omega
            · omega
set_option maxRecDepth 20000 in
set_option maxHeartbeats 4000000 in
theorem kindNo_any (x : List UInt8) (w : World) (ht : Tabs w) :
    Calls Tryz.prog 73 #[.string (bs [112, 105, 110, 103, 32, 97, 99, 107, 32, 97, 115, 107, 32, 115, 121, 110, 99, 32, 98, 97, 99, 107, 32, 115, 117, 109]), .string (bs x)] w fun e w' => e = .returned (.tuple #[.int .i64 (kindN x), .bool (decide (kindN x ≠ 0))]) ∧ Below w.heap.size w w' := by
  obtain ⟨r0, r4⟩ := kind_range x
  have hw := idx_kind x
  generalize kindN x = z at *
  go_enter Tryz.func73, Tryz.ntmps73
  go_wp2_with fail
  refine (kinds_any _ ht).mono ?_
  rintro e w1 ⟨rfl, rfl⟩
  have hI := Tryz.slices_Index_string w.heap.size 0 6 6 [bs kind1, bs kind2, bs kind3, bs kind4, bs kind5, bs kind6] (bs x) (w.alloc (.cells #[.string (bs kind1), .string (bs kind2), .string (bs kind3), .string (bs kind4), .string (bs kind5), .string (bs kind6)] 9)) (Nat.le_refl _) (by omega) (fun j hj => by
    match j, hj with
    | 0, _ => simp
    | 1, _ => simp
    | 2, _ => simp
    | 3, _ => simp
    | 4, _ => simp
    | 5, _ => simp)
  rw [show List.take 6 [bs kind1, bs kind2, bs kind3, bs kind4, bs kind5, bs kind6] = [bs kind1, bs kind2, bs kind3, bs kind4, bs kind5, bs kind6] from rfl, hw] at hI
  clear hw
  have b1 : Below w.heap.size w (w.alloc (.cells #[.string (bs kind1), .string (bs kind2), .string (bs kind3), .string (bs kind4), .string (bs kind5), .string (bs kind6)] 9)) := balloc _ (Below.refl _ _)
  generalize w.alloc (.cells #[.string (bs kind1), .string (bs kind2), .string (bs kind3), .string (bs kind4), .string (bs kind5), .string (bs kind6)] 9) = w2 at *
  go_wp2_with fail
  refine hI.mono ?_
  rintro e w3 ⟨rfl, rfl⟩
  clear hI
  by_cases hz : z = 0
  · subst hz
    go_wp2
    go_ret2
    exact ⟨rfl, b1⟩
  · have hge : (0 : Int) ≤ z - 1 := by omega
    go_wp2
    go_ret2
    exact ⟨by simp [hz]; omega, b1⟩
set_option maxRecDepth 20000 in
theorem sgn_all (n : Int) (h0 : -9223372036854775808 ≤ n) (h1 : n ≤ 9223372036854775807) (x : ByteArray) (hx : bs (sgn n) = x) (w : World) (ht : Tabs w) :
    Calls Tryz.prog 50 #[.int .i64 n] w fun e w' => e = .returned (.string x) ∧ Below w.heap.size w w' := by
  have hi := itoa_all n h0 h1 _ rfl
  have hl := Lib.itoa_length_le n h0 h1
  by_cases hn : n < 0
  · have e : Lib.itoa n = sgn n := by
      obtain ⟨u, rfl⟩ : ∃ u : Nat, n = -(u : Int) := ⟨n.natAbs, by omega⟩
      rw [Lib.itoa_neg u (by omega), sgn, if_pos hn]
      simp
    rw [e, hx] at hi
    clear e hx hl
    go_enter Tryz.func50, Tryz.ntmps50
    go_wp2_with fail
    refine (hi w ht).mono ?_
    rintro e w1 ⟨rfl, b1⟩
    clear hi
    go_wp2
    go_ret
    exact ⟨rfl, b1⟩
  · have e : sgn n = [43] ++ Lib.itoa n := by
      obtain ⟨u, rfl⟩ : ∃ u : Nat, n = (u : Int) := ⟨n.natAbs, by omega⟩
      rw [Lib.itoa_nonneg, sgn, if_neg hn]
      simp
    have e2 : Hid (ByteArray.mk #[43] ++ bs (Lib.itoa n) = x) := by
      unfold Hid
      rw [← hx, e]
      exact bs_append [43] _
    have hs : (bs (Lib.itoa n)).size ≤ 21 := hl
    clear e hl hx
    generalize bs (Lib.itoa n) = y at *
    have k1 : ¬ 9223372036854775807 < 1 + y.size := by omega
    go_enter Tryz.func50, Tryz.ntmps50
    go_wp2_with fail
    refine (hi w ht).mono ?_
    rintro e w1 ⟨rfl, b1⟩
    clear hi
    go_wp2
    go_ret
    exact ⟨by rw [← e2.out]; rfl, b1⟩
set_option maxRecDepth 20000 in
set_option maxHeartbeats 4000000 in
theorem signed_any (s : ByteArray) (hs : s.size ≤ 1048576) (w : World) (hp : Pst w) :
    Calls Tryz.prog 163 #[.string s] w fun e w' => e = .returned (.tuple #[.int .i64 (psg s.data.toList).1, .bool (psg s.data.toList).2]) ∧ Below w.heap.size w w' := by
  cases hat : Lib.atoiAll s.data.toList with
  | ok v =>
    obtain ⟨v0, v1⟩ := atoi_bound hat
    have hpn : psg s.data.toList = (v, sgn v == s.data.toList) := by unfold psg; rw [hat]
    rw [hpn]
    obtain ⟨q, hq⟩ : ∃ q, Hid ((sgn v == s.data.toList) = q) := ⟨_, rfl⟩
    obtain ⟨x, hx⟩ : ∃ x, Hid (bs (sgn v) = x) := ⟨_, rfl⟩
    have hxq : (x.toList == s.toList) = q := by
      rw [← hq.out, ← hx.out, ByteArray.toList_eq, ByteArray.toList_eq]
    rw [hq.out]
    clear hpn
    go_enter Tryz.func163, Tryz.ntmps163
    go_wp2_with fail
    refine (atoi_any s hs v hat _).mono ?_
    rintro e w1 ⟨rfl, b1⟩
    go_wp2_with fail
    refine (sgn_all v v0 v1 x hx.out _ (hp.below b1).t).mono ?_
    rintro e w2 ⟨rfl, b2⟩
    have B2 := btrans b1 b2
    clear b1 b2
    go_wp2
    go_ret2
    exact ⟨rfl, B2⟩
  | «syntax» =>
    have hpn : psg s.data.toList = (0, false) := by unfold psg; rw [hat]
    rw [hpn]
    obtain ⟨tp, pv, hv⟩ := hp.s
    go_enter Tryz.func163, Tryz.ntmps163
    go_wp2_with fail
    refine (Tryz.strconv_Atoi_syntax_var s (by omega) hat tp pv _ hv).mono ?_
    rintro e w1 ⟨N, rfl, -, -, b1⟩
    clear hv
    go_wp2
    go_ret2
    exact ⟨rfl, b1⟩
  | range =>
    have hpn : psg s.data.toList = (Lib.atoiSat s.data.toList, false) := by unfold psg; rw [hat]
    rw [hpn]
    generalize hsat : Lib.atoiSat s.data.toList = z
    obtain ⟨tp, pv, hv⟩ := hp.r
    have hC := Tryz.strconv_Atoi_range_var s (by omega) hat tp pv w hv
    rw [hsat] at hC
    clear hv
    go_enter Tryz.func163, Tryz.ntmps163
    go_wp2_with fail
    refine hC.mono ?_
    rintro e w1 ⟨N, rfl, -, -, b1⟩
    clear hC
    go_wp2
    go_ret2
    exact ⟨rfl, b1⟩
end Go.Proofs.YtibnojbhoepcdaaGreatDoor
/- A text that is read piece by piece: the program's reader. -/
namespace Go.Proofs.YtibnojbhoepcdaaGreatDoor
open Go.ChangeShapes Go.WideShapes Go.ChangeAt Go.RowKit
attribute [local go_sem ↓] Go.wp_at_zero Go.wp_at_succ
/-- nothing is changed but one block -/
structure But (c : Nat) (w w' : World) : Prop where
  os : w'.os = w.os
  tape : w'.tape = w.tape
  output : w'.output = w.output
  size : w.heap.size ≤ w'.heap.size
  block : ∀ b, b < w.heap.size → b ≠ c → w'.heap[b]? = w.heap[b]?
theorem But.of {c : Nat} {w w' : World} (h : Below w.heap.size w w') : But c w w' := ⟨h.os, h.tape, h.output, h.size, fun b hb _ => h.block b hb⟩
theorem But.trans {c : Nat} {a b d : World} (h : But c a b) (k : But c b d) : But c a d :=
  ⟨k.os.trans h.os, k.tape.trans h.tape, k.output.trans h.output, Nat.le_trans h.size k.size, fun i hi hc => (k.block i (Nat.lt_of_lt_of_le hi h.size) hc).trans (h.block i hi hc)⟩
theorem But.set {c k : Nat} {w w' : World} (v : Value) (h : But c w w') : But c w (w'.setCell ⟨c, k, none⟩ v) :=
  ⟨h.os, h.tape, h.output, by simpa [World.setCell] using h.size, fun b hb hc => (Below.heap_setCell w' ⟨c, k, none⟩ v b hc).trans (h.block b hb hc)⟩
theorem But.base {c : Nat} {a w w' : World} (h : Below a.heap.size a w) (hc : a.heap.size ≤ c) (k : But c w w') : Below a.heap.size a w' :=
  ⟨k.os.trans h.os, k.tape.trans h.tape, k.output.trans h.output, Nat.le_trans h.size k.size, fun i hi => (k.block i (Nat.lt_of_lt_of_le hi h.size) (by omega)).trans (h.block i hi)⟩
theorem But.cell {c : Nat} {w w' : World} (k : But c w w') {b o : Nat} {v : Value} (hb : b ≠ c) (h : w.cell? ⟨b, o, none⟩ = some v) : w'.cell? ⟨b, o, none⟩ = some v :=
  (World.cell?_of_block (w := w) (k.block b (World.block_lt_of_cell? w _ h) hb)).trans h
theorem But.froz {c : Nat} {w w' : World} (k : But c w w') {b o : Nat} (hl : b < w.heap.size) (hb : b ≠ c) (h : w.frozen? ⟨b, o, none⟩ = false) : w'.frozen? ⟨b, o, none⟩ = false :=
  (World.frozen?_of_block (a := ⟨b, o, none⟩) (k.block b hl hb)).trans h
/-- where a reader stands -/
structure Rs (a w : World) (c : Nat) (s : ByteArray) (n : Nat) : Prop where
  p : Pst a
  d : a.cell? ⟨9, 15, none⟩ = some (.int .u8 4)
  b : Below a.heap.size a w
  le : a.heap.size ≤ c
  lt : c < w.heap.size
  c0 : w.cell? ⟨c, 0, none⟩ = some (.string s)
  c1 : w.cell? ⟨c, 1, none⟩ = some (.int .i64 (n : Int))
  z : w.frozen? ⟨c, 1, none⟩ = false
  hn : n ≤ s.size
  hs : s.size ≤ 300
theorem Rs.pst {a w : World} {c : Nat} {s : ByteArray} {n : Nat} (h : Rs a w c s n) : Pst w := h.p.below h.b
theorem Rs.below {a w w' : World} {c : Nat} {s : ByteArray} {n : Nat} (h : Rs a w c s n) (k : Below w.heap.size w w') : Rs a w' c s n :=
  ⟨h.p, h.d, btrans h.b k, h.le, Nat.lt_of_lt_of_le h.lt k.size, keep_below k h.c0, keep_below k h.c1, frozen_below k h.lt h.z, h.hn, h.hs⟩
theorem Rs.move {a w : World} {c : Nat} {s : ByteArray} {n : Nat} (h : Rs a w c s n) (m : Nat) (hm : m ≤ s.size) (v : Int) (hv : v = (m : Int)) : Rs a (w.setCell ⟨c, 1, none⟩ (.int .i64 v)) c s m := by
  subst hv
  exact ⟨h.p, h.d, But.base h.b h.le ((But.of (Below.refl _ _)).set _), h.le, by simpa [World.setCell] using h.lt, (World.cell?_setCell_other _ _ _ _ (by simp)).trans h.c0, by rw [World.cell?_setCell_same' _ _ _ (by rw [h.c1]; rfl)], by rw [World.frozen?_setCell]; exact h.z, hm, h.hs⟩
theorem bs_drop (s : ByteArray) (n : Nat) : s.extract n s.size = bs (s.data.toList.drop n) := by
  rw [ext_list]
  have : s.data.toList.take s.size = s.data.toList := List.take_of_length_le (by simp)
  rw [this]
set_option maxRecDepth 20000 in
theorem rest_any {a w : World} {c : Nat} {s : ByteArray} {n : Nat} (h : Rs a w c s n) :
    Calls Tryz.prog 117 #[.pointer (some ⟨c, 0, none⟩)] w fun e w' => e = .returned (.string (bs (s.data.toList.drop n))) ∧ Below w.heap.size w w' := by
  have c0 := h.c0
  have c1 := h.c1
  have hn := h.hn
  have hs := h.hs
  have b1 : Below w.heap.size w w.drew := qd (Below.refl _ _)
  rw [← bs_drop]
  clear h
  go_enter Tryz.func117, Tryz.ntmps117
  go_upto_region 1 with fail
  refine wp_region_held_drew (S := fun w' => w'.cell? ⟨c, 0, none⟩ = some (.string s) ∧ w'.cell? ⟨c, 1, none⟩ = some (.int .i64 (n : Int))) (by kernel_rfl) ?_ (fun hHeld => ?_)
  · (try dsimp only); (refine ⟨?_, ?_⟩ <;> (repeat (first | with_reducible assumption | with_reducible refine keep_drew ?_ | with_reducible refine keep_alloc _ ?_ | with_reducible refine keep_below (by assumption) ?_)))
  refine tl (i := 0) (oi := { dst := some 3, op := .move (.tmp 0), type := 138, pos := "l4_word.go:109", after := #[], guard := none }) ?_
  (try simp only [pq])
  refine tl (i := 1) (oi := { dst := some 4, op := .nilCheck (.tmp 3), type := 0, pos := "l4_word.go:109", after := #[{ on := 0, ground := .data }], guard := none }) ?_
  (try simp only [pq])
  refine tl (i := 2) (oi := { dst := some 5, op := .fieldAddr 93 (.tmp 4) 0, type := 0, pos := "l4_word.go:109", after := #[{ on := 1, ground := .data }], guard := none }) ?_
  (try simp only [pq])
  refine tl (i := 3) (oi := { dst := some 6, op := .load 9 (.tmp 5), type := 9, pos := "l4_word.go:109", after := #[{ on := 2, ground := .data }], guard := none }) ?_
  (try simp only [pq])
  refine tl (i := 4) (oi := { dst := some 7, op := .move (.tmp 0), type := 138, pos := "l4_word.go:109", after := #[], guard := none }) ?_
  (try simp only [pq])
  refine tl (i := 5) (oi := { dst := some 8, op := .nilCheck (.tmp 7), type := 0, pos := "l4_word.go:109", after := #[{ on := 4, ground := .data }], guard := none }) ?_
  (try simp only [pq])
  refine tl (i := 6) (oi := { dst := some 9, op := .fieldAddr 93 (.tmp 8) 1, type := 0, pos := "l4_word.go:109", after := #[{ on := 5, ground := .data }], guard := none }) ?_
  (try simp only [pq])
  refine tl (i := 7) (oi := { dst := some 10, op := .load 3 (.tmp 9), type := 3, pos := "l4_word.go:109", after := #[{ on := 6, ground := .data }], guard := none }) ?_
  (try simp only [pq])
  refine tl (i := 8) (oi := { dst := some 11, op := .slice 9 (.tmp 6) (some (.tmp 10)) none none, type := 9, pos := "l4_word.go:109", after := #[{ on := 3, ground := .data }, { on := 7, ground := .data }], guard := none }) ?_
  (try simp only [pq])
  refine tl (i := 9) (oi := { dst := some 2, op := .assign (.tmp 11), type := 9, pos := "l4_word.go:109", after := #[{ on := 8, ground := .data }, { on := 0, ground := .phase }, { on := 1, ground := .phase }, { on := 2, ground := .phase }, { on := 3, ground := .phase }, { on := 4, ground := .phase }, { on := 5, ground := .phase }, { on := 6, ground := .phase }, { on := 7, ground := .phase }, { on := 8, ground := .phase }], guard := none }) ?_
  (try simp only [pq])
  refine wpAnyH_done (by kernel_rfl) ?_ _
  go_wp2
  go_ret
  exact ⟨rfl, b1⟩
set_option maxRecDepth 20000 in
theorem passed_any {a w : World} {c : Nat} {s : ByteArray} {n : Nat} (h : Rs a w c s n) :
    Calls Tryz.prog 118 #[.pointer (some ⟨c, 0, none⟩)] w fun e w' => e = .returned (.string (bs (Lib.trimSuffix (s.data.toList.take n) [32]))) ∧ Below w.heap.size w w' := by
  have c0 := h.c0
  have c1 := h.c1
  have hn := h.hn
  have hs := h.hs
  have b1 : Below w.heap.size w w.drew := qd (Below.refl _ _)
  have hsz : (s.extract 0 n).size ≤ 9223372036854775807 := by rw [ByteArray.size_extract]; omega
  clear h
  go_enter Tryz.func118, Tryz.ntmps118
  go_upto_region 1 with fail
  refine wp_region_held_drew (S := fun w' => w'.cell? ⟨c, 0, none⟩ = some (.string s) ∧ w'.cell? ⟨c, 1, none⟩ = some (.int .i64 (n : Int))) (by kernel_rfl) ?_ (fun hHeld => ?_)
  · (try dsimp only); (refine ⟨?_, ?_⟩ <;> (repeat (first | with_reducible assumption | with_reducible refine keep_drew ?_ | with_reducible refine keep_alloc _ ?_ | with_reducible refine keep_below (by assumption) ?_)))
  refine tl (i := 0) (oi := { dst := some 3, op := .move (.tmp 0), type := 138, pos := "l4_word.go:114", after := #[], guard := none }) ?_
  (try simp only [pq])
  refine tl (i := 1) (oi := { dst := some 4, op := .nilCheck (.tmp 3), type := 0, pos := "l4_word.go:114", after := #[{ on := 0, ground := .data }], guard := none }) ?_
  (try simp only [pq])
  refine tl (i := 2) (oi := { dst := some 5, op := .fieldAddr 93 (.tmp 4) 0, type := 0, pos := "l4_word.go:114", after := #[{ on := 1, ground := .data }], guard := none }) ?_
  (try simp only [pq])
  refine tl (i := 3) (oi := { dst := some 6, op := .load 9 (.tmp 5), type := 9, pos := "l4_word.go:114", after := #[{ on := 2, ground := .data }], guard := none }) ?_
  (try simp only [pq])
  refine tl (i := 4) (oi := { dst := some 7, op := .move (.tmp 0), type := 138, pos := "l4_word.go:114", after := #[], guard := none }) ?_
  (try simp only [pq])
  refine tl (i := 5) (oi := { dst := some 8, op := .nilCheck (.tmp 7), type := 0, pos := "l4_word.go:114", after := #[{ on := 4, ground := .data }], guard := none }) ?_
  (try simp only [pq])
  refine tl (i := 6) (oi := { dst := some 9, op := .fieldAddr 93 (.tmp 8) 1, type := 0, pos := "l4_word.go:114", after := #[{ on := 5, ground := .data }], guard := none }) ?_
  (try simp only [pq])
  refine tl (i := 7) (oi := { dst := some 10, op := .load 3 (.tmp 9), type := 3, pos := "l4_word.go:114", after := #[{ on := 6, ground := .data }], guard := none }) ?_
  (try simp only [pq])
  refine tl (i := 8) (oi := { dst := some 11, op := .slice 9 (.tmp 6) none (some (.tmp 10)) none, type := 9, pos := "l4_word.go:114", after := #[{ on := 3, ground := .data }, { on := 7, ground := .data }], guard := none }) ?_
  (try simp only [pq])
  refine wpAnyH_ready (rs := [9]) (by kernel_rfl) (by simp) ?_
  refine AllReadyH.cons (o := { dst := some 12, op := .call { callee := .value (.func 140), args := #[.tmp 11, .const (.string { data := #[32] })], argTypes := #[9, 9] }, type := 9, pos := "l4_word.go:114", after := #[{ on := 8, ground := .data }], guard := none }) rfl (fun K hK => ?_) AllReadyH.nil
  go_simp
  refine (Tryz.strings_TrimSuffix _ _ _ hsz).mono ?_; rintro e w1 ⟨rfl, rfl⟩
  go_wp2_with fail
  refine hK.out _ _ ?_ (fun hHeld => ?_)
  · (try dsimp only); (refine ⟨?_, ?_⟩ <;> (repeat (first | with_reducible assumption | with_reducible refine keep_drew ?_ | with_reducible refine keep_alloc _ ?_ | with_reducible refine keep_below (by assumption) ?_)))
  clear hK K
  (try simp only [pq])
  refine tl (i := 10) (oi := { dst := some 2, op := .assign (.tmp 12), type := 9, pos := "l4_word.go:114", after := #[{ on := 9, ground := .data }, { on := 9, ground := .chain }, { on := 0, ground := .phase }, { on := 1, ground := .phase }, { on := 2, ground := .phase }, { on := 3, ground := .phase }, { on := 4, ground := .phase }, { on := 5, ground := .phase }, { on := 6, ground := .phase }, { on := 7, ground := .phase }, { on := 8, ground := .phase }, { on := 9, ground := .phase }], guard := none }) ?_
  (try simp only [pq])
  refine wpAnyH_done (by kernel_rfl) ?_ _
  go_wp2
  go_ret
  exact ⟨rfl, b1⟩
/-- what is thrown where a text is no word -/
def nw : PanicEntry := { v := .iface 141 (.agg #[]), recovered := false }
theorem must_str (v : ByteArray) (w : World) : Calls Tryz.prog 161 #[.string v, .bool true] w fun e w' => e = .returned (.string v) ∧ w' = w := by
  go_enter Tryz.func161, Tryz.ntmps161
  go_wp2
  go_ret
  exact ⟨rfl, rfl⟩
theorem must_str_no (v : ByteArray) (w : World) : Calls Tryz.prog 161 #[.string v, .bool false] w fun e w' => e = .panicked [nw] ∧ w' = w := by
  go_enter Tryz.func161, Tryz.ntmps161
  go_wp2
  exact ⟨rfl, rfl, rfl⟩
theorem must_int (v : Int) (w : World) : Calls Tryz.prog 136 #[.int .i64 v, .bool true] w fun e w' => e = .returned (.int .i64 v) ∧ w' = w := by
  go_enter Tryz.func136, Tryz.ntmps136
  go_wp2
  go_ret
  exact ⟨rfl, rfl⟩
theorem must_int_no (v : Int) (w : World) : Calls Tryz.prog 136 #[.int .i64 v, .bool false] w fun e w' => e = .panicked [nw] ∧ w' = w := by
  go_enter Tryz.func136, Tryz.ntmps136
  go_wp2
  exact ⟨rfl, rfl, rfl⟩
theorem must_sl (b : Option Addr) (l k : Nat) (w : World) : Calls Tryz.prog 139 #[.slice b l k, .bool true] w fun e w' => e = .returned (.slice b l k) ∧ w' = w := by
  go_enter Tryz.func139, Tryz.ntmps139
  go_wp2
  go_ret
  exact ⟨rfl, rfl⟩
theorem must_sl_no (b : Option Addr) (l k : Nat) (w : World) : Calls Tryz.prog 139 #[.slice b l k, .bool false] w fun e w' => e = .panicked [nw] ∧ w' = w := by
  go_enter Tryz.func139, Tryz.ntmps139
  go_wp2
  exact ⟨rfl, rfl, rfl⟩
theorem index_free (c : UInt8) : ∀ s : List UInt8, c ∉ s → Lib.index s [c] = -1
  | [], _ => rfl
  | x :: l, h => by
    have hx : ¬ c = x := fun e => h (by rw [e]; exact List.mem_cons_self ..)
    have := index_free c l (fun e => h (List.mem_cons_of_mem _ e))
    simp [Lib.index, this, hx]
theorem index_hit (c : UInt8) : ∀ (p r : List UInt8), c ∉ p → Lib.index (p ++ c :: r) [c] = (p.length : Int)
  | [], r, _ => by simp [Lib.index]
  | x :: l, r, h => by
    have hx : ¬ c = x := fun e => h (by rw [e]; exact List.mem_cons_self ..)
    have := index_hit c l r (fun e => h (List.mem_cons_of_mem _ e))
    simp only [List.cons_append, Lib.index, this]
    rw [if_neg (by simp [hx]), if_neg (by simp)]
    simp
theorem lcut_hit (c : UInt8) (p r : List UInt8) (h : c ∉ p) : Lib.cut (p ++ c :: r) [c] = (p, r, true) := by
  unfold Lib.cut
  rw [index_hit c p r h, if_pos (by omega)]
  simp
theorem lcut_free (c : UInt8) (s : List UInt8) (h : c ∉ s) : Lib.cut s [c] = (s, [], false) := by
  unfold Lib.cut
  rw [index_free c s h, if_neg (by omega)]
theorem drop_le {s p r : List UInt8} {n : Nat} (h : s.drop n = p ++ 32 :: r) : n + p.length + 1 ≤ s.length := by
  have := congrArg List.length h
  rw [List.length_drop, List.length_append, List.length_cons] at this
  omega
theorem drewN_below (w : World) (n : Nat) : Below w.heap.size w (w.drewN n) := ⟨rfl, rfl, rfl, Nat.le_refl _, fun _ _ => rfl⟩
set_option maxRecDepth 20000 in
theorem cut_yes {a w : World} {c : Nat} {s : ByteArray} {n : Nat} (h : Rs a w c s n) (p r : List UInt8) (hr : s.data.toList.drop n = p ++ 32 :: r) (hp : (32 : UInt8) ∉ p) :
    Calls Tryz.prog 162 #[.pointer (some ⟨c, 0, none⟩)] w fun e w' => e = .returned (.tuple #[.string (bs p), .bool true]) ∧ Rs a w' c s (n + p.length + 1) ∧ But c w w' := by
  have hL : s.data.toList.length = s.size := by simp
  have hle := drop_le hr
  have hs := h.hs
  have hR := rest_any h
  rw [hr] at hR
  obtain ⟨m, hm⟩ := h.pst.m
  have hC := Tryz.strings_Cut (bs (p ++ 32 :: r)) (bs [32]) m
  rw [show Lib.cut (bs (p ++ 32 :: r)).data.toList (bs [32]).data.toList = (p, r, true) from lcut_hit 32 p r hp] at hC
  have hz : (bs (p ++ 32 :: r)).size < 4294967281 := by
    show (p ++ 32 :: r).length < _
    rw [← hr, List.length_drop]
    omega
  have hpz : (bs p).size = p.length := rfl
  generalize bs (p ++ 32 :: r) = y at *
  simp only at hC
  go_enter Tryz.func162, Tryz.ntmps162
  go_wp2_with fail
  refine hR.mono ?_
  rintro e w1 ⟨rfl, b1⟩
  go_wp2_with fail
  refine (hC w1 hz (keep_below b1 hm)).mono ?_
  rintro e w2 ⟨rfl, N, rfl⟩
  have B2 := btrans b1 (drewN_below w1 N)
  have R2 := h.below B2
  generalize w1.drewN N = W2 at *
  have c0 := R2.c0
  have c1 := R2.c1
  have z := R2.z
  clear hR hC
  go_wp2
  go_ret2
  exact ⟨rfl, R2.move (n + p.length + 1) (by omega) _ (by omega), (But.of B2).set _⟩
set_option maxRecDepth 20000 in
theorem cut_no {a w : World} {c : Nat} {s : ByteArray} {n : Nat} (h : Rs a w c s n) (hr : (32 : UInt8) ∉ s.data.toList.drop n) :
    Calls Tryz.prog 162 #[.pointer (some ⟨c, 0, none⟩)] w fun e w' => e = .returned (.tuple #[.string (bs (s.data.toList.drop n)), .bool false]) ∧ Below w.heap.size w w' := by
  have hL : s.data.toList.length = s.size := by simp
  have hs := h.hs
  have hR := rest_any h
  obtain ⟨m, hm⟩ := h.pst.m
  have hC := Tryz.strings_Cut (bs (s.data.toList.drop n)) (bs [32]) m
  rw [show Lib.cut (bs (s.data.toList.drop n)).data.toList (bs [32]).data.toList = (s.data.toList.drop n, [], false) from lcut_free 32 _ hr] at hC
  have hz : (bs (s.data.toList.drop n)).size < 4294967281 := by
    show (s.data.toList.drop n).length < _
    rw [List.length_drop]
    omega
  simp only at hC
  change ∀ w, _ → _ → Calls Tryz.prog 176 #[.string (bs (s.data.toList.drop n)), .string (bs [32])] w fun e w' => e = .returned (.tuple #[.string (bs (s.data.toList.drop n)), .string (bs []), .bool false]) ∧ ∃ n, w' = w.drewN n at hC
  clear h
  generalize bs (s.data.toList.drop n) = y at *
  go_enter Tryz.func162, Tryz.ntmps162
  go_wp2_with fail
  refine hR.mono ?_
  rintro e w1 ⟨rfl, b1⟩
  go_wp2_with fail
  refine (hC w1 hz (keep_below b1 hm)).mono ?_
  rintro e w2 ⟨rfl, N, rfl⟩
  have B2 := btrans b1 (drewN_below w1 N)
  generalize w1.drewN N = W2 at *
  clear hR hC
  go_wp2
  go_ret2
  exact ⟨rfl, B2⟩
/-- what a piece is read as, or that there is none -/
def Got (good : List UInt8 → Prop) (val : List UInt8 → Value → World → Prop) (a w : World) (c : Nat) (s : ByteArray) (n : Nat) (e : Ending) (w' : World) : Prop :=
  (∃ p r v, s.data.toList.drop n = p ++ 32 :: r ∧ (32 : UInt8) ∉ p ∧ good p ∧ e = .returned v ∧ val p v w' ∧ Rs a w' c s (n + p.length + 1) ∧ But c w w') ∨
  ((∀ p r, s.data.toList.drop n = p ++ 32 :: r → (32 : UInt8) ∉ p → ¬ good p) ∧ e = .panicked [nw] ∧ But c w w')
theorem hit_one {s p r p' r' : List UInt8} (h : s = p ++ 32 :: r) (hp : (32 : UInt8) ∉ p) (h' : s = p' ++ 32 :: r') (hp' : (32 : UInt8) ∉ p') : p' = p := by
  have e := cutL_hit 32 p r hp
  rw [← h, h', cutL_hit 32 p' r' hp'] at e
  exact (List.cons.inj e).1
set_option maxRecDepth 20000 in
theorem piece_any {a w : World} {c : Nat} {s : ByteArray} {n : Nat} (h : Rs a w c s n) :
    Calls Tryz.prog 137 #[.pointer (some ⟨c, 0, none⟩)] w fun e w' => Got (fun _ => True) (fun p v _ => v = .string (bs p)) a w c s n e w' := by
  rcases cutL_split 32 (s.data.toList.drop n) with hr | ⟨p, r, hr, hp⟩
  · have hC := cut_no h hr
    generalize bs (s.data.toList.drop n) = y at *
    go_enter Tryz.func137, Tryz.ntmps137
    go_wp2_with fail
    refine hC.mono ?_
    rintro e w1 ⟨rfl, b1⟩
    go_wp2_with fail
    refine (must_str_no y w1).mono ?_
    rintro e w2 ⟨rfl, rfl⟩
    go_wp2
    exact ⟨rfl, Or.inr ⟨fun p r hp _ => absurd (by rw [hp]; simp) hr, rfl, But.of b1⟩⟩
  · have hC := cut_yes h p r hr hp
    generalize hy : bs p = y at *
    go_enter Tryz.func137, Tryz.ntmps137
    go_wp2_with fail
    refine hC.mono ?_
    rintro e w1 ⟨rfl, R1, b1⟩
    go_wp2_with fail
    refine (must_str y w1).mono ?_
    rintro e w2 ⟨rfl, rfl⟩
    go_wp2
    go_ret
    exact Or.inl ⟨p, r, _, hr, hp, trivial, rfl, by show _ = Value.string (bs p); rw [hy]; rfl, R1, b1⟩
set_option maxRecDepth 20000 in
theorem cnum {a w : World} {c : Nat} {s : ByteArray} {n : Nat} (h : Rs a w c s n) :
    Calls Tryz.prog 114 #[.pointer (some ⟨c, 0, none⟩)] w fun e w' => Got (fun p => (pnum p).2 = true) (fun p v _ => v = .int .i64 ((pnum p).1)) a w c s n e w' := by
  go_enter Tryz.func114, Tryz.ntmps114
  go_wp2_with fail
  refine (piece_any h).mono ?_
  rintro e w1 (⟨p, r, v, hr, hp, -, rfl, rfl, R1, b1⟩ | ⟨hb, rfl, b1⟩)
  · have hsz : (bs p).size ≤ 1048576 := by
      have := drop_le hr
      have hL : s.data.toList.length = s.size := by simp
      have := h.hs
      show p.length ≤ _
      omega
    have hC := number_any (bs p) hsz w1 R1.pst
    cases hq : (pnum p).2
    · have hq' : Hid ((pnum p).2 = false) := hq
      rw [hq] at hC
      clear hq
      generalize bs p = y at hC hsz ⊢
      generalize hv : (pnum p).1 = v at hC
      clear hv
      go_wp2_with fail
      refine hC.mono ?_
      rintro e w2 ⟨rfl, b2⟩
      clear hC
      go_wp2_with fail
      refine (must_int_no _ _).mono ?_
      rintro e w3 ⟨rfl, rfl⟩
      go_wp2
      refine ⟨rfl, Or.inr ⟨fun p' r' hr' hp' hg => ?_, rfl, b1.trans (But.of b2)⟩⟩
      rw [hit_one hr hp hr' hp'] at hg
      exact absurd (show (pnum p).2 = true from hg) (by rw [hq'.out]; simp)
    · have hq' : Hid ((pnum p).2 = true) := hq
      rw [hq] at hC
      clear hq
      generalize hv : (pnum p).1 = v at hC
      generalize bs p = y at hC hsz ⊢
      go_wp2_with fail
      refine hC.mono ?_
      rintro e w2 ⟨rfl, b2⟩
      clear hC
      go_wp2_with fail
      refine (must_int _ _).mono ?_
      rintro e w3 ⟨rfl, rfl⟩
      go_wp2
      go_ret
      exact Or.inl ⟨p, r, _, hr, hp, hq'.out, rfl, by show _ = Value.int .i64 ((pnum p).1); rw [hv]; rfl, R1.below b2, b1.trans (But.of b2)⟩
  · go_wp2
    exact ⟨rfl, Or.inr ⟨fun p r hr hp _ => hb p r hr hp trivial, rfl, b1⟩⟩
set_option maxRecDepth 20000 in
theorem csgn {a w : World} {c : Nat} {s : ByteArray} {n : Nat} (h : Rs a w c s n) :
    Calls Tryz.prog 138 #[.pointer (some ⟨c, 0, none⟩)] w fun e w' => Got (fun p => (psg p).2 = true) (fun p v _ => v = .int .i64 ((psg p).1)) a w c s n e w' := by
  go_enter Tryz.func138, Tryz.ntmps138
  go_wp2_with fail
  refine (piece_any h).mono ?_
  rintro e w1 (⟨p, r, v, hr, hp, -, rfl, rfl, R1, b1⟩ | ⟨hb, rfl, b1⟩)
  · have hsz : (bs p).size ≤ 1048576 := by
      have := drop_le hr
      have hL : s.data.toList.length = s.size := by simp
      have := h.hs
      show p.length ≤ _
      omega
    have hC := signed_any (bs p) hsz w1 R1.pst
    cases hq : (psg p).2
    · have hq' : Hid ((psg p).2 = false) := hq
      rw [hq] at hC
      clear hq
      generalize bs p = y at hC hsz ⊢
      generalize hv : (psg p).1 = v at hC
      clear hv
      go_wp2_with fail
      refine hC.mono ?_
      rintro e w2 ⟨rfl, b2⟩
      clear hC
      go_wp2_with fail
      refine (must_int_no _ _).mono ?_
      rintro e w3 ⟨rfl, rfl⟩
      go_wp2
      refine ⟨rfl, Or.inr ⟨fun p' r' hr' hp' hg => ?_, rfl, b1.trans (But.of b2)⟩⟩
      rw [hit_one hr hp hr' hp'] at hg
      exact absurd (show (psg p).2 = true from hg) (by rw [hq'.out]; simp)
    · have hq' : Hid ((psg p).2 = true) := hq
      rw [hq] at hC
      clear hq
      generalize hv : (psg p).1 = v at hC
      generalize bs p = y at hC hsz ⊢
      go_wp2_with fail
      refine hC.mono ?_
      rintro e w2 ⟨rfl, b2⟩
      clear hC
      go_wp2_with fail
      refine (must_int _ _).mono ?_
      rintro e w3 ⟨rfl, rfl⟩
      go_wp2
      go_ret
      exact Or.inl ⟨p, r, _, hr, hp, hq'.out, rfl, by show _ = Value.int .i64 ((psg p).1); rw [hv]; rfl, R1.below b2, b1.trans (But.of b2)⟩
  · go_wp2
    exact ⟨rfl, Or.inr ⟨fun p r hr hp _ => hb p r hr hp trivial, rfl, b1⟩⟩
set_option maxRecDepth 20000 in
theorem cpool {a w : World} {c : Nat} {s : ByteArray} {n : Nat} (h : Rs a w c s n) :
    Calls Tryz.prog 113 #[.pointer (some ⟨c, 0, none⟩), .string (bs [108, 97, 110, 32, 119, 97, 110])] w fun e w' => Got (fun p => poolN p ≠ 0) (fun p v _ => v = .int .i64 (poolN p)) a w c s n e w' := by
  go_enter Tryz.func113, Tryz.ntmps113
  go_wp2_with fail
  refine (piece_any h).mono ?_
  rintro e w1 (⟨p, r, v, hr, hp, -, rfl, rfl, R1, b1⟩ | ⟨hb, rfl, b1⟩)
  · have hsz : (bs p).size ≤ 1048576 := by
      have := drop_le hr
      have hL : s.data.toList.length = s.size := by simp
      have := h.hs
      show p.length ≤ _
      omega
    have hC := poolNo_any p w1 R1.pst.t
    cases hq : decide (poolN p ≠ 0)
    · have hq' : Hid (decide (poolN p ≠ 0) = false) := hq
      rw [hq] at hC
      clear hq
      generalize bs p = y at hC hsz ⊢
      generalize hv : poolN p = v at hC
      clear hv
      go_wp2_with fail
      refine hC.mono ?_
      rintro e w2 ⟨rfl, b2⟩
      clear hC
      go_wp2_with fail
      refine (must_int_no _ _).mono ?_
      rintro e w3 ⟨rfl, rfl⟩
      go_wp2
      refine ⟨rfl, Or.inr ⟨fun p' r' hr' hp' hg => ?_, rfl, b1.trans (But.of b2)⟩⟩
      rw [hit_one hr hp hr' hp'] at hg
      exact absurd (show decide (poolN p ≠ 0) = true from decide_eq_true hg) (by rw [hq'.out]; simp)
    · have hq' : Hid (decide (poolN p ≠ 0) = true) := hq
      rw [hq] at hC
      clear hq
      generalize hv : poolN p = v at hC
      generalize bs p = y at hC hsz ⊢
      go_wp2_with fail
      refine hC.mono ?_
      rintro e w2 ⟨rfl, b2⟩
      clear hC
      go_wp2_with fail
      refine (must_int _ _).mono ?_
      rintro e w3 ⟨rfl, rfl⟩
      go_wp2
      go_ret
      exact Or.inl ⟨p, r, _, hr, hp, of_decide_eq_true hq'.out, rfl, by show _ = Value.int .i64 (poolN p); rw [hv]; rfl, R1.below b2, b1.trans (But.of b2)⟩
  · go_wp2
    exact ⟨rfl, Or.inr ⟨fun p r hr hp _ => hb p r hr hp trivial, rfl, b1⟩⟩
set_option maxRecDepth 20000 in
theorem ckind {a w : World} {c : Nat} {s : ByteArray} {n : Nat} (h : Rs a w c s n) :
    Calls Tryz.prog 113 #[.pointer (some ⟨c, 0, none⟩), .string (bs [112, 105, 110, 103, 32, 97, 99, 107, 32, 97, 115, 107, 32, 115, 121, 110, 99, 32, 98, 97, 99, 107, 32, 115, 117, 109])] w fun e w' => Got (fun p => kindN p ≠ 0) (fun p v _ => v = .int .i64 (kindN p)) a w c s n e w' := by
  go_enter Tryz.func113, Tryz.ntmps113
  go_wp2_with fail
  refine (piece_any h).mono ?_
  rintro e w1 (⟨p, r, v, hr, hp, -, rfl, rfl, R1, b1⟩ | ⟨hb, rfl, b1⟩)
  · have hsz : (bs p).size ≤ 1048576 := by
      have := drop_le hr
      have hL : s.data.toList.length = s.size := by simp
      have := h.hs
      show p.length ≤ _
      omega
    have hC := kindNo_any p w1 R1.pst.t
    cases hq : decide (kindN p ≠ 0)
    · have hq' : Hid (decide (kindN p ≠ 0) = false) := hq
      rw [hq] at hC
      clear hq
      generalize bs p = y at hC hsz ⊢
      generalize hv : kindN p = v at hC
      clear hv
      go_wp2_with fail
      refine hC.mono ?_
      rintro e w2 ⟨rfl, b2⟩
      clear hC
      go_wp2_with fail
      refine (must_int_no _ _).mono ?_
      rintro e w3 ⟨rfl, rfl⟩
      go_wp2
      refine ⟨rfl, Or.inr ⟨fun p' r' hr' hp' hg => ?_, rfl, b1.trans (But.of b2)⟩⟩
      rw [hit_one hr hp hr' hp'] at hg
      exact absurd (show decide (kindN p ≠ 0) = true from decide_eq_true hg) (by rw [hq'.out]; simp)
    · have hq' : Hid (decide (kindN p ≠ 0) = true) := hq
      rw [hq] at hC
      clear hq
      generalize hv : kindN p = v at hC
      generalize bs p = y at hC hsz ⊢
      go_wp2_with fail
      refine hC.mono ?_
      rintro e w2 ⟨rfl, b2⟩
      clear hC
      go_wp2_with fail
      refine (must_int _ _).mono ?_
      rintro e w3 ⟨rfl, rfl⟩
      go_wp2
      go_ret
      exact Or.inl ⟨p, r, _, hr, hp, of_decide_eq_true hq'.out, rfl, by show _ = Value.int .i64 (kindN p); rw [hv]; rfl, R1.below b2, b1.trans (But.of b2)⟩
  · go_wp2
    exact ⟨rfl, Or.inr ⟨fun p r hr hp _ => hb p r hr hp trivial, rfl, b1⟩⟩
end Go.Proofs.YtibnojbhoepcdaaGreatDoor
/- A reader that goes through a text: what it has passed, and what follows where it fails. -/
namespace Go.Proofs.YtibnojbhoepcdaaGreatDoor
structure At (s : List UInt8) (ps : List (List UInt8)) (n : Nat) : Prop where
  cut : cutL 32 s = ps ++ cutL 32 (s.drop n)
  pre : s.take n = (ps.map (· ++ [32])).flatten
theorem At.start (s : List UInt8) : At s [] 0 := ⟨rfl, rfl⟩
theorem At.step {s p r : List UInt8} {ps : List (List UInt8)} {n : Nat} (h : At s ps n) (hr : s.drop n = p ++ 32 :: r) (hp : (32 : UInt8) ∉ p) : At s (ps ++ [p]) (n + p.length + 1) := by
  have e1 : s.drop (n + p.length + 1) = r := by
    rw [show n + p.length + 1 = n + (p.length + 1) by omega, ← List.drop_drop, hr, show p ++ 32 :: r = (p ++ [32]) ++ r by simp]
    exact List.drop_left' (by simp)
  constructor
  · rw [h.cut, hr, cutL_hit 32 p r hp, e1]
    simp
  · rw [show n + p.length + 1 = n + (p.length + 1) by omega, List.take_add, h.pre, hr, show p ++ 32 :: r = (p ++ [32]) ++ r by simp, List.take_left' (by simp)]
    simp
theorem flat_join : ∀ (ps : List (List UInt8)), ps ≠ [] → (ps.map (· ++ [32])).flatten = Lib.join ps [32] ++ [32]
  | [], h => absurd rfl h
  | [p], _ => by simp [Lib.join_one]
  | p :: q :: r, _ => by
    rw [join_two _ _ _ (by simp), List.map_cons, List.flatten_cons, flat_join (q :: r) (by simp)]
    simp
theorem At.no {s : List UInt8} {ps : List (List UInt8)} {n : Nat} (h : At s ps n) (good : List UInt8 → Prop) (f : Wd → List UInt8) (hi : ps.length ≤ 10) (hf : ∀ W : Wd, W.pcs[ps.length]? = some (f W)) (hg : ∀ W : Wd, W.ok = true → good (f W)) (hb : ∀ p r, s.drop n = p ++ 32 :: r → (32 : UInt8) ∉ p → ¬ good p) : NoWd s :=
  fail_at h.cut good hi (fun W hW a ha => by
    rw [hf W] at ha
    exact (Option.some.inj ha) ▸ hg W hW) hb
theorem good0 (W : Wd) (h : W.ok = true) : poolN (poolL W.p) ≠ 0 := by
  have := ok_facts h
  rw [pool_read (by omega) (by omega)]
  omega
theorem good1 (W : Wd) (h : W.ok = true) : kindN (kindL W.k) ≠ 0 := by
  have := ok_facts h
  rw [kind_read (by omega) (by omega)]
  omega
theorem good2 (W : Wd) (h : W.ok = true) : (pnum (Lib.itoa W.f)).2 = true := by
  have := ok_facts h
  rw [pnum_itoa6 (by omega) (by omega)]
theorem good3 (W : Wd) (h : W.ok = true) : (pnum (Lib.itoa W.t)).2 = true := by
  have := ok_facts h
  rw [pnum_itoa6 (by omega) (by omega)]
theorem good4 (W : Wd) (h : W.ok = true) : (pnum (Lib.itoa W.s)).2 = true := by
  have := ok_facts h
  rw [pnum_itoa6 (by omega) (by omega)]
theorem good5 (W : Wd) (h : W.ok = true) : (pnum (Lib.itoa W.q)).2 = true := by
  have := ok_facts h
  rw [pnum_itoa6 (by omega) (by omega)]
theorem good6 (W : Wd) (h : W.ok = true) : (psg (sgn W.x)).2 = true := by
  have := ok_facts h
  rw [psg_sgn (by omega) (by omega)]
theorem good7 (W : Wd) (h : W.ok = true) : (psg (sgn W.y)).2 = true := by
  have := ok_facts h
  rw [psg_sgn (by omega) (by omega)]
theorem good8 (W : Wd) (h : W.ok = true) : (pnum (Lib.itoa W.z)).2 = true := by
  have := ok_facts h
  rw [pnum_itoa6 (by omega) (by omega)]
theorem good9 (W : Wd) (h : W.ok = true) : (pnum (Lib.itoa W.e)).2 = true := by
  have := ok_facts h
  rw [pnum_itoa6 (by omega) (by omega)]
theorem good10 (W : Wd) (h : W.ok = true) : ∃ T, pt (txL W.T) = some T :=
  ⟨W.T, (say_pt (ok_facts h).2.2.2.2.2.2.2.2.2.2.2.2.2.2.2.2.2.2.2.2 rfl).1⟩
/-- what the pieces say -/
def rdW (p0 p1 p2 p3 p4 p5 p6 p7 p8 p9 : List UInt8) (T : List Fc) : Wd := ⟨poolN p0, kindN p1, (pnum p2).1, (pnum p3).1, (pnum p4).1, (pnum p5).1, (psg p6).1, (psg p7).1, (pnum p8).1, (pnum p9).1, T⟩
theorem rd_pcs {p0 p1 p2 p3 p4 p5 p6 p7 p8 p9 p10 : List UInt8} {T : List Fc} (h0 : poolN p0 ≠ 0) (h1 : kindN p1 ≠ 0) (h2 : (pnum p2).2 = true) (h3 : (pnum p3).2 = true) (h4 : (pnum p4).2 = true) (h5 : (pnum p5).2 = true) (h6 : (psg p6).2 = true) (h7 : (psg p7).2 = true) (h8 : (pnum p8).2 = true) (h9 : (pnum p9).2 = true) (h10 : pt p10 = some T) :
    (rdW p0 p1 p2 p3 p4 p5 p6 p7 p8 p9 T).pcs = [p0, p1, p2, p3, p4, p5, p6, p7, p8, p9, p10] := by
  unfold Wd.pcs rdW
  simp only [pool_say h0, kind_say h1, pnum_say h2, pnum_say h3, pnum_say h4, pnum_say h5, psg_say h6, psg_say h7, pnum_say h8, pnum_say h9, (pt_say h10).2]
theorem At.passed {s : List UInt8} {ps : List (List UInt8)} {n : Nat} (h : At s ps n) (hne : ps ≠ []) : Lib.trimSuffix (s.take n) [32] = Lib.join ps [32] := by
  rw [h.pre, flat_join ps hne]
  unfold Lib.trimSuffix Lib.hasSuffix
  rw [if_pos (by simp)]
  simp
/-- all is as it should -/
theorem At.yes {s : List UInt8} {W : Wd} {n : Nat} (h : At s W.pcs n) (hh : s.drop n = S.hex8 (S.sumN (bs (Lib.join W.pcs [32])))) : s = W.txt := by
  rw [← List.take_append_drop n s, h.pre, flat_join _ (by simp [Wd.pcs]), hh]
  unfold Wd.txt Wd.hex Wd.body
  simp
/-- the sum is another one -/
theorem At.nosum {s : List UInt8} {ps : List (List UInt8)} {n : Nat} (h : At s ps n) (hl : ps.length = 11) (hh : s.drop n ≠ S.hex8 (S.sumN (bs (Lib.join ps [32])))) : NoWd s := by
  intro V hv e
  have h1 := cut_txt hv
  rw [← e, h.cut] at h1
  obtain ⟨e1, e2⟩ := List.append_inj h1 (by rw [hl]; rfl)
  have e3 := join_cutL 32 (s.drop n).length (s.drop n) (Nat.le_refl _)
  rw [e2, Lib.join_one] at e3
  apply hh
  rw [← e3, e1]
  rfl
/-- it is not ok -/
theorem At.nook {s p10 : List UInt8} {p0 p1 p2 p3 p4 p5 p6 p7 p8 p9 : List UInt8} {T : List Fc} {n : Nat} (h : At s [p0, p1, p2, p3, p4, p5, p6, p7, p8, p9, p10] n) (hT : pt p10 = some T) (hh : (rdW p0 p1 p2 p3 p4 p5 p6 p7 p8 p9 T).ok = false) : NoWd s := by
  intro V hv e
  have h1 := cut_txt hv
  rw [← e, h.cut] at h1
  obtain ⟨e1, -⟩ := List.append_inj h1 rfl
  unfold Wd.pcs at e1
  simp only [List.cons.injEq, and_true] at e1
  obtain ⟨rfl, rfl, rfl, rfl, rfl, rfl, rfl, rfl, rfl, rfl, rfl⟩ := e1
  obtain ⟨a0, a1, a2, a3, a4, a5, a6, a7, a8, a9, a10, a11, a12, a13, a14, a15, a16, a17, a18, a19, a20⟩ := ok_facts hv
  rw [(say_pt a20 rfl).1] at hT
  injection hT with hT
  subst hT
  have : rdW (poolL V.p) (kindL V.k) (Lib.itoa V.f) (Lib.itoa V.t) (Lib.itoa V.s) (Lib.itoa V.q) (sgn V.x) (sgn V.y) (Lib.itoa V.z) (Lib.itoa V.e) V.T = V := by
    unfold rdW
    rw [pool_read a0 a1, kind_read a2 a3, pnum_itoa6 a4 (by omega), pnum_itoa6 a6 (by omega), pnum_itoa6 a8 (by omega), pnum_itoa6 a10 (by omega), psg_sgn (by omega) (by omega), psg_sgn (by omega) (by omega), pnum_itoa6 a16 (by omega), pnum_itoa6 (by omega) (by omega)]
  rw [this, hv] at hh
  cases hh
end Go.Proofs.YtibnojbhoepcdaaGreatDoor
/- The facts and the coordinate of a word, read. -/
namespace Go.Proofs.YtibnojbhoepcdaaGreatDoor
open Go.ChangeShapes Go.WideShapes Go.ChangeAt Go.RowKit
attribute [local go_sem ↓] Go.wp_at_zero Go.wp_at_succ
set_option maxRecDepth 20000 in
theorem cfacts {a w : World} {c : Nat} {s : ByteArray} {n : Nat} (h : Rs a w c s n) :
    Calls Tryz.prog 116 #[.pointer (some ⟨c, 0, none⟩)] w fun e w' => Got (fun p => ∃ T, pt p = some T) (fun p v w' => ∃ T, pt p = some T ∧ T.length ≤ 1048576 ∧ w'.ownsRow w.heap.size 53 4 v T.length (fl T)) a w c s n e w' := by
  go_enter Tryz.func116, Tryz.ntmps116
  go_wp2_with fail
  refine (piece_any h).mono ?_
  rintro e w1 (⟨p, r, v, hr, hp, -, rfl, rfl, R1, b1⟩ | ⟨hb, rfl, b1⟩)
  · have hsz : (bs p).size ≤ 1048576 := by
      have := drop_le hr
      have hL : s.data.toList.length = s.size := by simp
      have := h.hs
      show p.length ≤ _
      omega
    have hC := tparse_any (bs p) hsz w1 R1.pst
    go_wp2_with fail
    refine hC.mono ?_
    rintro e w2 ⟨v, T, q, rfl, ho, hn, hl, hpt, b2⟩
    clear hC
    change pt p = _ at hpt
    obtain ⟨ad, cp, rfl, -, -, -⟩ := own_facts ho
    cases q
    · rw [if_neg (by simp)] at hpt
      go_wp2_with fail
      refine (must_sl_no _ _ _ _).mono ?_
      rintro e w3 ⟨rfl, rfl⟩
      go_wp2
      refine ⟨rfl, Or.inr ⟨fun p' r' hr' hp' hg => ?_, rfl, b1.trans (But.of b2)⟩⟩
      rw [hit_one hr hp hr' hp', hpt] at hg
      obtain ⟨T', hT'⟩ := hg
      cases hT'
    · rw [if_pos rfl] at hpt
      go_wp2_with fail
      refine (must_sl _ _ _ _).mono ?_
      rintro e w3 ⟨rfl, rfl⟩
      go_wp2
      go_ret
      exact Or.inl ⟨p, r, _, hr, hp, ⟨T, hpt⟩, rfl, ⟨T, hpt, hl, own_mono b1.size ho⟩, R1.below b2, b1.trans (But.of b2)⟩
  · go_wp2
    exact ⟨rfl, Or.inr ⟨fun p r hr hp _ => hb p r hr hp trivial, rfl, b1⟩⟩
/-- a box of values -/
structure Ws (w : World) (b : Nat) (xs : List Value) : Prop where
  lt : b < w.heap.size
  c : ∀ i v, xs[i]? = some v → w.cell? ⟨b, i, none⟩ = some v
  z : ∀ o, w.frozen? ⟨b, o, none⟩ = false
theorem Ws.new {w : World} {b : Nat} {cs : Array Value} {t : TypeId} (h : w.heap[b]? = some (.cells cs t (0, 0))) : Ws w b cs.toList :=
  ⟨lt_of_block h, fun i v hv => cell_block h (by simpa using hv), fun o => by simp [World.frozen?, h]⟩
theorem Ws.below {w w' : World} {b : Nat} {xs : List Value} (h : Ws w b xs) (k : Below w.heap.size w w') : Ws w' b xs :=
  ⟨Nat.lt_of_lt_of_le h.lt k.size, fun i v hv => keep_below k (h.c i v hv), fun o => frozen_below k h.lt (h.z o)⟩
theorem Ws.but {w w' : World} {b c : Nat} {xs : List Value} (h : Ws w b xs) (k : But c w w') (hb : b ≠ c) : Ws w' b xs :=
  ⟨Nat.lt_of_lt_of_le h.lt k.size, fun i v hv => k.cell hb (h.c i v hv), fun o => k.froz h.lt hb (h.z o)⟩
theorem Ws.far {w : World} {b b' k : Nat} {v : Value} {xs : List Value} (h : Ws w b xs) (hb : b ≠ b') : Ws (w.setCell ⟨b', k, none⟩ v) b xs :=
  ⟨by simpa [World.setCell] using h.lt, fun i v hv => (cell_farP _ hb).trans (h.c i v hv), fun o => by rw [World.frozen?_setCell]; exact h.z o⟩
theorem Ws.set {w : World} {b : Nat} {xs : List Value} (h : Ws w b xs) (i : Nat) (hi : i < xs.length) (v : Value) : Ws (w.setCell ⟨b, i, none⟩ v) b (xs.set i v) := by
  refine ⟨by simpa [World.setCell] using h.lt, fun j u hu => ?_, fun o => by rw [World.frozen?_setCell]; exact h.z o⟩
  by_cases e : i = j
  · subst e
    rw [List.getElem?_set_self hi] at hu
    injection hu with hu
    subst hu
    rw [World.cell?_setCell_same' _ _ _ (by rw [h.c i xs[i] (List.getElem?_eq_getElem hi)]; rfl)]
  · rw [List.getElem?_set_ne e] at hu
    exact (World.cell?_setCell_other _ _ _ _ (by simp)).trans (h.c j u hu)
theorem But.new {c b k : Nat} {w w' : World} (v : Value) (h : But c w w') (hb : w.heap.size ≤ b) : But c w (w'.setCell ⟨b, k, none⟩ v) :=
  ⟨h.os, h.tape, h.output, by simpa [World.setCell] using h.size, fun i hi hc => (Below.heap_setCell w' ⟨b, k, none⟩ v i (by simp; omega)).trans (h.block i hi hc)⟩
theorem Rs.far {a w : World} {c b k : Nat} {s : ByteArray} {n : Nat} (v : Value) (h : Rs a w c s n) (hb : c ≠ b) (ha : a.heap.size ≤ b) : Rs a (w.setCell ⟨b, k, none⟩ v) c s n :=
  ⟨h.p, h.d, h.b.setCell ha v, h.le, by simpa [World.setCell] using h.lt, (cell_farP _ hb).trans h.c0, (cell_farP _ hb).trans h.c1, by rw [World.frozen?_setCell]; exact h.z, h.hn, h.hs⟩
/-- four numbers were read -/
def Got4 (a w : World) (c : Nat) (s : ByteArray) (ps : List (List UInt8)) (e : Ending) (w' : World) : Prop :=
  (∃ p6 p7 p8 p9 n', (psg p6).2 = true ∧ (psg p7).2 = true ∧ (pnum p8).2 = true ∧ (pnum p9).2 = true ∧ At s.data.toList (ps ++ [p6] ++ [p7] ++ [p8] ++ [p9]) n' ∧ e = .returned (.agg #[.int .i64 (psg p6).1, .int .i64 (psg p7).1, .int .i64 (pnum p8).1, .int .i64 (pnum p9).1]) ∧ Rs a w' c s n' ∧ But c w w') ∨
  (NoWd s.data.toList ∧ e = .panicked [nw] ∧ But c w w')
set_option maxRecDepth 20000 in
theorem ccoord {a w : World} {c : Nat} {s : ByteArray} {n : Nat} {p0 p1 p2 p3 p4 p5 : List UInt8} (h : Rs a w c s n) (hA : At s.data.toList [p0, p1, p2, p3, p4, p5] n) :
    Calls Tryz.prog 115 #[.pointer (some ⟨c, 0, none⟩)] w fun e w' => Got4 a w c s [p0, p1, p2, p3, p4, p5] e w' := by
  have b0 := balloc (.cells #[.int .i64 0, .int .i64 0, .int .i64 0, .int .i64 0] 33) (Below.refl w.heap.size w)
  have q0 : (w.alloc (.cells #[.int .i64 0, .int .i64 0, .int .i64 0, .int .i64 0] 33)).heap[w.heap.size]? = some (.cells #[.int .i64 0, .int .i64 0, .int .i64 0, .int .i64 0] 33 (0, 0)) := heap_alloc_new _ _
  have R0 := h.below b0
  go_enter Tryz.func115, Tryz.ntmps115
  go_wp2_with fail
  generalize w.alloc (.cells #[.int .i64 0, .int .i64 0, .int .i64 0, .int .i64 0] 33) = w0 at *
  have hbl : w.heap.size < w0.heap.size := lt_of_block q0
  have hbc : w.heap.size ≠ c := by have := h.lt; omega
  have B0 : But c w w0 := But.of b0
  have A0 := hA
  refine (csgn R0).mono ?_
  rintro e w1 (⟨p6, r1, v1, hr1, hp1, hg1, rfl, rfl, R1, k1⟩ | ⟨hb, rfl, k1⟩)
  rotate_left 1
  · go_wp2
    exact ⟨rfl, Or.inr ⟨A0.no (fun p => (psg p).2 = true) (fun W => sgn W.x) (by simp) (fun _ => rfl) good6 hb, rfl, B0.trans k1⟩⟩
  have A1 : At s.data.toList [p0, p1, p2, p3, p4, p5, p6] _ := A0.step hr1 hp1
  have q1 := (k1.block _ hbl hbc).trans q0
  have hbl1 := lt_of_block q1
  have B1 := B0.trans k1
  go_wp2_with fail
  refine (csgn R1).mono ?_
  rintro e w2 (⟨p7, r2, v2, hr2, hp2, hg2, rfl, rfl, R2, k2⟩ | ⟨hb, rfl, k2⟩)
  rotate_left 1
  · go_wp2
    exact ⟨rfl, Or.inr ⟨A1.no (fun p => (psg p).2 = true) (fun W => sgn W.y) (by simp) (fun _ => rfl) good7 hb, rfl, B1.trans k2⟩⟩
  have A2 : At s.data.toList [p0, p1, p2, p3, p4, p5, p6, p7] _ := A1.step hr2 hp2
  have q2 := (k2.block _ hbl1 hbc).trans q1
  have hbl2 := lt_of_block q2
  have B2 := B1.trans k2
  go_wp2_with fail
  refine (cnum R2).mono ?_
  rintro e w3 (⟨p8, r3, v3, hr3, hp3, hg3, rfl, rfl, R3, k3⟩ | ⟨hb, rfl, k3⟩)
  rotate_left 1
  · go_wp2
    exact ⟨rfl, Or.inr ⟨A2.no (fun p => (pnum p).2 = true) (fun W => Lib.itoa W.z) (by simp) (fun _ => rfl) good8 hb, rfl, B2.trans k3⟩⟩
  have A3 : At s.data.toList [p0, p1, p2, p3, p4, p5, p6, p7, p8] _ := A2.step hr3 hp3
  have q3 := (k3.block _ hbl2 hbc).trans q2
  have hbl3 := lt_of_block q3
  have B3 := B2.trans k3
  go_wp2_with fail
  refine (cnum R3).mono ?_
  rintro e w4 (⟨p9, r4, v4, hr4, hp4, hg4, rfl, rfl, R4, k4⟩ | ⟨hb, rfl, k4⟩)
  rotate_left 1
  · go_wp2
    exact ⟨rfl, Or.inr ⟨A3.no (fun p => (pnum p).2 = true) (fun W => Lib.itoa W.e) (by simp) (fun _ => rfl) good9 hb, rfl, B3.trans k4⟩⟩
  have A4 : At s.data.toList [p0, p1, p2, p3, p4, p5, p6, p7, p8, p9] _ := A3.step hr4 hp4
  have q4 := (k4.block _ hbl3 hbc).trans q3
  have hbl4 := lt_of_block q4
  have B4 := B3.trans k4
  have X4 := Ws.new q4
  have z0 := X4.z 0
  have z1 := X4.z 1
  have z2 := X4.z 2
  have z3 := X4.z 3
  have d0 := X4.c 0 _ rfl
  have d1 := X4.c 1 _ rfl
  have d2 := X4.c 2 _ rfl
  have d3 := X4.c 3 _ rfl
  have hw : a.heap.size ≤ w.heap.size := h.b.size
  have X8 := (((X4.set 0 (by simp) (.int .i64 (psg p6).1)).set 1 (by simp) (.int .i64 (psg p7).1)).set 2 (by simp) (.int .i64 (pnum p8).1)).set 3 (by simp) (.int .i64 (pnum p9).1)
  have B8 := (((B4.new (k := 0) (.int .i64 (psg p6).1) (Nat.le_refl _)).new (k := 1) (.int .i64 (psg p7).1) (Nat.le_refl _)).new (k := 2) (.int .i64 (pnum p8).1) (Nat.le_refl _)).new (k := 3) (.int .i64 (pnum p9).1) (Nat.le_refl _)
  have R8 := (((R4.far (k := 0) (.int .i64 (psg p6).1) hbc.symm hw).far (k := 1) (.int .i64 (psg p7).1) hbc.symm hw).far (k := 2) (.int .i64 (pnum p8).1) hbc.symm hw).far (k := 3) (.int .i64 (pnum p9).1) hbc.symm hw
  clear q0 q1 q2 q3
  go_wp2
  clear z0 z1 z2 z3 d0 d1 d2 d3
  generalize (((w4.setCell ⟨w.heap.size, 0, none⟩ (.int .i64 (psg p6).1)).setCell ⟨w.heap.size, 1, none⟩ (.int .i64 (psg p7).1)).setCell ⟨w.heap.size, 2, none⟩ (.int .i64 (pnum p8).1)).setCell ⟨w.heap.size, 3, none⟩ (.int .i64 (pnum p9).1) = w9 at *
  have d0 := X8.c 0 (.int .i64 (psg p6).1) rfl
  have d1 := X8.c 1 (.int .i64 (psg p7).1) rfl
  have d2 := X8.c 2 (.int .i64 (pnum p8).1) rfl
  have d3 := X8.c 3 (.int .i64 (pnum p9).1) rfl
  exact bodyPost_ret (v := .agg #[.int .i64 (psg p6).1, .int .i64 (psg p7).1, .int .i64 (pnum p8).1, .int .i64 (pnum p9).1]) (by simp [results, Tryz.results115, go_sem, d0, d1, d2, d3]) rfl (Or.inl ⟨p6, p7, p8, p9, _, hg1, hg2, hg3, hg4, A4, rfl, R8, B8⟩)
end Go.Proofs.YtibnojbhoepcdaaGreatDoor
