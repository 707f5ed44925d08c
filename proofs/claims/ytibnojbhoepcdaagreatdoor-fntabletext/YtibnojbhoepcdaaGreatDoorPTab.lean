/- A table read: the model's way and the program's. -/
import Derived.Test.YtibnojbhoepcdaaGreatDoorPFact
import Derived.Test.YtibnojbhoepcdaaGreatDoorTxt3
import Derived.Maps.AppendAt
namespace Go.Proofs.YtibnojbhoepcdaaGreatDoor
open Go.ChangeShapes Go.WideShapes Go.ChangeAt Go.RowKit
theorem alls_none (r : List UInt8 → Option Fc) : ∀ {ps : List (List UInt8)} {k : Nat} {p : List UInt8}, ps[k]? = some p → r p = none → alls r ps = none
  | [], _, _, h, _ => by simp at h
  | a :: ps, 0, p, h, hn => by
    simp at h
    subst h
    rw [alls, hn]
  | a :: ps, k + 1, p, h, hn => by
    have := alls_none r (ps := ps) (k := k) (by simpa using h) hn
    rw [alls, this]
    cases r a <;> rfl
theorem alls_snoc (r : List UInt8 → Option Fc) (p : List UInt8) (f : Fc) (hp : r p = some f) : ∀ (ps : List (List UInt8)) (T : List Fc), alls r ps = some T → alls r (ps ++ [p]) = some (T ++ [f])
  | [], T, h => by
    injection h with h
    subst h
    simp [alls, hp]
  | a :: ps, T, h => by
    rw [alls] at h
    rw [List.cons_append, alls]
    cases ha : r a with
    | none => rw [ha] at h; cases h
    | some g =>
      rw [ha] at h
      simp only at h ⊢
      cases hq : alls r ps with
      | none => rw [hq] at h; cases h
      | some T' =>
        rw [hq] at h
        injection h with h
        subst h
        rw [alls_snoc r p f hp ps T' hq]
        rfl
theorem alls_take (r : List UInt8 → Option Fc) {ps : List (List UInt8)} {k : Nat} {p : List UInt8} {f : Fc} {T : List Fc} (hk : ps[k]? = some p) (hT : alls r (ps.take k) = some T) (hp : r p = some f) : alls r (ps.take (k + 1)) = some (T ++ [f]) := by
  rw [List.take_add_one, hk]
  exact alls_snoc r p f hp _ T hT
theorem alls_len (r : List UInt8 → Option Fc) : ∀ {ps : List (List UInt8)} {T : List Fc}, alls r ps = some T → T.length = ps.length
  | [], T, h => by
    injection h with h
    subst h
    rfl
  | a :: ps, T, h => by
    rw [alls] at h
    split at h
    · cases h
    · split at h
      · cases h
      · next T' hT =>
        injection h with h
        subst h
        simp [alls_len r hT]
theorem keep_lt {w w' : World} {base b o : Nat} {v : Value} (hb : Below base w w') (hl : b < base) (h : w.cell? ⟨b, o, none⟩ = some v) : w'.cell? ⟨b, o, none⟩ = some v := by
  rw [← h]
  exact World.cell?_of_block (w := w) (hb.block b hl)
/-- pieces lie in block b -/
def Pcs (w : World) (b : Nat) (l : List (List UInt8)) : Prop := ∀ j p, l[j]? = some p → w.cell? ⟨b, j, none⟩ = some (.string ⟨p.toArray⟩)
theorem keep_al {w : World} {b o : Nat} {v : Value} (x : Obj) (hl : b < w.heap.size) (h : w.cell? ⟨b, o, none⟩ = some v) : (w.alloc x).cell? ⟨b, o, none⟩ = some v := keep_lt (balloc x (Below.refl _ _)) hl h
theorem cutL_len2 (c : UInt8) : ∀ n (s : List UInt8), s.length ≤ n → (∀ p ∈ cutL c s, p ≠ []) → 2 * (cutL c s).length ≤ s.length + 1 := by
  intro n
  induction n with
  | zero =>
    intro s hs h
    have : s = [] := List.length_eq_zero_iff.1 (by omega)
    subst this
    exact absurd rfl (h [] (by simp [cutL]))
  | succ n ih =>
    intro s hs h
    rcases cutL_split c s with hf | ⟨a, r, e, ha⟩
    · rw [cutL_free c s hf] at h ⊢
      have := h s (by simp)
      have : 0 < s.length := List.length_pos_iff.2 this
      simp
      omega
    · subst e
      rw [cutL_hit c a r ha] at h ⊢
      have h1 := ih r (by simp at hs; omega) (fun p hp => h p (List.mem_cons_of_mem _ hp))
      have h2 : 0 < a.length := List.length_pos_iff.2 (h a (by simp))
      simp
      omega
theorem alls_few (r : List UInt8 → Option Fc) (h0 : r [] = none) {s : List UInt8} {T : List Fc} (hs : s.length ≤ 1048576) (h : alls r (cutL 44 s) = some T) : T.length ≤ 1048576 := by
  have := cutL_len2 44 s.length s (Nat.le_refl _) (fun p hp e => by
    obtain ⟨i, hi, e'⟩ := List.getElem_of_mem hp
    have := alls_none r (ps := cutL 44 s) (k := i) (p := []) (by rw [List.getElem?_eq_getElem hi, e', e]) h0
    rw [this] at h
    cases h)
  have := alls_len r h
  omega
/-- a reader of tables answers what r says -/
def Rd2 (r : List UInt8 → Option (List Fc)) (s : ByteArray) (w : World) (e : Ending) (w' : World) : Prop :=
  ∃ v T q, e = .returned (.tuple #[v, .bool q]) ∧ w'.ownsRow w.heap.size 53 4 v T.length (fl T) ∧ (q = false → T = []) ∧ T.length ≤ 1048576 ∧ r s.data.toList = (if q = true then some T else none) ∧ Below w.heap.size w w'
theorem Rd2.of {r : List UInt8 → Option (List Fc)} {s : ByteArray} {w w' : World} {e : Ending} (v : Value) (T : List Fc) (q : Bool) (he : e = .returned (.tuple #[v, .bool q])) (ho : w'.ownsRow w.heap.size 53 4 v T.length (fl T)) (hn : q = false → T = []) (hl : T.length ≤ 1048576) (hr : r s.data.toList = (if q = true then some T else none)) (hb : Below w.heap.size w w') : Rd2 r s w e w' := ⟨v, T, q, he, ho, hn, hl, hr, hb⟩
theorem infoF : (Tryz.prog.info? 53).map (fun i => (i.zero, i.size, i.bytes)) = some (some (fval Fc.zero), 4, 32) := by kernel_rfl
/-- facts as the model reads them, before they are written again -/
def mfacts (s : List UInt8) : Option (List Fc) := if s = [45] then some [] else alls mf (cutL 44 s)
theorem dash_no {s : ByteArray} (h : ¬ s.data.toList = [45]) : (s.toList == [45]) = false := by
  rw [beq_eq_false_iff_ne, ByteArray.toList_eq]
  exact h
set_option maxRecDepth 20000 in
set_option maxHeartbeats 4000000 in
theorem sfacts_any (s : ByteArray) (hs : s.size ≤ 1048576) (w : World) :
    Calls Tryz.prog 36 #[.string s] w fun e w' => Rd2 mfacts s w e w' := by
  have hL : s.data.toList.length = s.size := by simp
  by_cases h45 : s.data.toList = [45]
  · have hm : mfacts s.data.toList = some [] := by unfold mfacts; rw [if_pos h45]
    have he : (s.toList == [45]) = true := by rw [ByteArray.toList_eq, h45]; rfl
    clear h45
    go_enter Tryz.func36, Tryz.ntmps36
    go_wp2
    go_ret2
    exact Rd2.of _ [] true rfl (World.ownsRow_lit w #[] 0 (Nat.le_refl _) (by unfold maxLen; omega) rfl) (fun h => by cases h) (by simp) hm (balloc _ (Below.refl _ _))
  · have hd := dash_no h45
    have hm : Hid (mfacts s.data.toList = alls mf (cutL 44 s.data.toList)) := by unfold Hid mfacts; rw [if_neg h45]
    obtain ⟨ti, hi, hz0, hz1, hz2⟩ := info_parts infoF
    go_enter Tryz.func36, Tryz.ntmps36
    go_wp2_with fail
    have hw0 : w.heap.size < (w.alloc (.cells #[] 53)).heap.size := by simp
    have B0 : Below w.heap.size w (w.alloc (.cells #[] 53)) := balloc _ (Below.refl _ _)
    have O0 : (w.alloc (.cells #[] 53)).ownsRow w.heap.size 53 4 (.slice (some ⟨w.heap.size, 0, none⟩) 0 0) 0 [] := World.ownsRow_lit w #[] 0 (Nat.le_refl _) (by unfold maxLen; omega) rfl
    generalize w.alloc (.cells #[] 53) = w0 at *
    refine (scut_lit s 44 44 rfl hs _).mono ?_
    rintro _ w1 ⟨v, rfl, hown, b1⟩
    replace B0 := btrans B0 b1
    replace O0 := own_below O0 b1
    clear b1
    obtain ⟨pb, cap, rfl, hpb, hp2, hp3, hpc⟩ := cut_at (cutL_ne _ _) hown
    clear hown
    have hpc : Pcs w1 pb (cutL 44 s.data.toList) := hpc
    have hfew := cutL_len 44 s.size s.data.toList (by omega)
    go_wp2_with fail
    go_loopw [4, 6] (fun v i wr => ∃ (k : Nat) (T : List Fc), i = .int .i64 k ∧ k ≤ (cutL 44 s.data.toList).length ∧ alls mf ((cutL 44 s.data.toList).take k) = some T ∧ wr.ownsRow w.heap.size 53 4 v T.length (fl T) ∧ Below w.heap.size w wr ∧ pb < wr.heap.size ∧ v.ownBlock ≠ some pb ∧ Pcs wr pb (cutL 44 s.data.toList)) (fun _ i _ => (cutL 44 s.data.toList).length - (intOf i).toNat)
    case atStart => exact ⟨0, [], rfl, Nat.zero_le _, rfl, O0, B0, hp2, by simp [Value.ownBlock]; omega, hpc⟩
    case round =>
      clear hpc O0 B0
      obtain ⟨k, T, rfl, hk, hT, hown, hb, hp1, hvb, hpc⟩ := hrel
      by_cases hlt : k < (cutL 44 s.data.toList).length
      · have i0 : (0 : Int) ≤ (k : Int) := by omega
        have i1 : (k : Int) < ((cutL 44 s.data.toList).length : Int) := by omega
        obtain ⟨p, hpk⟩ : ∃ p, (cutL 44 s.data.toList)[k]? = some p := ⟨_, List.getElem?_eq_getElem hlt⟩
        have c0 := hpc k p hpk
        have lp := cutL_mem 44 _ p (List.mem_of_getElem? hpk)
        have lp' : (⟨p.toArray⟩ : ByteArray).size ≤ 1048576 := by show p.toArray.size ≤ _; rw [List.size_toArray]; omega
        go_wp2_with fail
        refine (sread_any ⟨p.toArray⟩ lp' _).mono ?_
        rintro _ w2 ⟨f, q, rfl, hr, b2⟩
        have hr' : mf p = if q = true then some f else none := hr
        have B1 := btrans hb b2
        have O1 := own_below hown b2
        have hp1' := Nat.lt_of_lt_of_le hp1 b2.size
        have hpc2 : Pcs w2 pb (cutL 44 s.data.toList) := fun j p hj => keep_below b2 (hpc j p hj)
        clear c0 b2 hr hown hb hpc
        cases q
        · have hno : Hid (mf p = none) := by unfold Hid; rw [hr']; rfl
          have hal : alls mf (cutL 44 s.data.toList) = none := alls_none mf hpk hno.out
          go_wp2
          go_ret2
          exact Rd2.of _ [] false rfl (by have := World.ownsRow_lit (base := w.heap.size) (e := 53) (size := 4) (w2.alloc (.cells #[.int .i64 f.n, .int .i64 f.i, .int .i64 f.s, .bool f.g] 53)) #[] 0 (by have := B1.size; simp; omega) (by unfold maxLen; omega) rfl; simpa [fl] using this) (fun _ => rfl) (by simp) (by rw [hm.out, hal]; rfl) (balloc _ (balloc _ B1))
        · have hsm : mf p = some f := by rw [hr']; rfl
          have hts := alls_take mf hpk hT hsm
          have hle : T.length ≤ k := by rw [alls_len mf hT, List.length_take]; omega
          have B2 := balloc (.cells #[.int .i64 f.n, .int .i64 f.i, .int .i64 f.s, .bool f.g] 53) B1
          have O2 := O1.alloc (.cells #[.int .i64 f.n, .int .i64 f.i, .int .i64 f.s, .bool f.g] 53)
          have cA : (w2.alloc (.cells #[.int .i64 f.n, .int .i64 f.i, .int .i64 f.s, .bool f.g] 53)).cell? ⟨w2.heap.size, 0, none⟩ = some (.int .i64 f.n) := by simp
          have cB : (w2.alloc (.cells #[.int .i64 f.n, .int .i64 f.i, .int .i64 f.s, .bool f.g] 53)).cell? ⟨w2.heap.size, 1, none⟩ = some (.int .i64 f.i) := by simp
          have cC : (w2.alloc (.cells #[.int .i64 f.n, .int .i64 f.i, .int .i64 f.s, .bool f.g] 53)).cell? ⟨w2.heap.size, 2, none⟩ = some (.int .i64 f.s) := by simp
          have cD : (w2.alloc (.cells #[.int .i64 f.n, .int .i64 f.i, .int .i64 f.s, .bool f.g] 53)).cell? ⟨w2.heap.size, 3, none⟩ = some (.bool f.g) := by simp
          have hp3 : pb < (w2.alloc (.cells #[.int .i64 f.n, .int .i64 f.i, .int .i64 f.s, .bool f.g] 53)).heap.size := by simp; omega
          have hpc3 : Pcs (w2.alloc (.cells #[.int .i64 f.n, .int .i64 f.i, .int .i64 f.s, .bool f.g] 53)) pb (cutL 44 s.data.toList) := fun j p hj => keep_al _ hp1' (hpc2 j p hj)
          clear hr' hpc2 hp1 hp1'
          go_upto_region 11 with fail
          generalize w2.alloc (.cells #[.int .i64 f.n, .int .i64 f.i, .int .i64 f.s, .bool f.g] 53) = w3 at *
          generalize w2.heap.size = b7 at *
          go_wp2_with (at_builtin; refine wpList_append_own_at _ rfl _ _ 24 rfl w.heap.size 53 ti (fval Fc.zero) 4 32 Tryz.underlying24 hi hz0 hz1 hz2 rfl (by decide) _ _ _ rfl (O2.alloc _) ⟨w3.heap.size, 0, none⟩ 1 1 [.int .i64 f.n, .int .i64 f.i, .int .i64 f.s, .bool f.g] rfl rfl ?c1 ?c2 ?c3 ?c4 ?c5 ?_)
          case c1 =>
            intro j u hj
            match j, hj with
            | 0, hj => simp at hj; subst hj; simp [Addr.add]
            | 1, hj => simp at hj; subst hj; simp [Addr.add]
            | 2, hj => simp at hj; subst hj; simp [Addr.add]
            | 3, hj => simp at hj; subst hj; simp [Addr.add]
          case c2 => intro u hu; simp at hu; rcases hu with rfl | rfl | rfl | rfl <;> rfl
          case c3 => unfold maxLen; omega
          case c4 => omega
          case c5 => have := B2.size; simp; omega
          · intro v' w4 hown' hgrow _ hob
            have B4 := own_grow (balloc (.cells #[.int .i64 f.n, .int .i64 f.i, .int .i64 f.s, .bool f.g] 53) B2) (by have := B2.size; simp; omega) (O2.alloc _) hgrow
            have hp4 : pb < w4.heap.size := by have := hgrow.size; simp at this; omega
            have hpc4 : Pcs w4 pb (cutL 44 s.data.toList) := fun j p hj => by
              rw [← keep_al (.cells #[.int .i64 f.n, .int .i64 f.i, .int .i64 f.s, .bool f.g] 53) hp3 (hpc3 j p hj)]
              exact World.cell?_of_block (hgrow.block pb (by simp; omega) (Ne.symm hvb))
            have hvb' : v'.ownBlock ≠ some pb := by
              rcases hob with e | e
              · rw [e]; exact hvb
              · rw [e]; simp; omega
            clear O1 O2 hgrow B2 B1 cA cB cC cD hpc3 hp3 hob
            go_wp2
            go_roundw
            case rel => exact ⟨k + 1, T ++ [f], by go_num, by omega, hts, by rw [List.length_append, fl_snoc]; exact hown', B4, hp4, hvb', hpc4⟩
            case measure => simp [intOf]; omega
      · obtain rfl : k = (cutL 44 s.data.toList).length := by omega
        rw [List.take_length] at hT
        have hTl := alls_few mf mf_nil (by omega) hT
        have hmm : Hid (mfacts s.data.toList = some T) := by unfold Hid; rw [hm.out, hT]
        go_wp2
        go_ret2
        exact Rd2.of _ T true rfl hown (fun h => by cases h) hTl hmm.out hb
set_option maxRecDepth 20000 in
set_option maxHeartbeats 4000000 in
theorem sparse_any (s : ByteArray) (hs : s.size ≤ 1048576) (w : World) :
    Calls Tryz.prog 10 #[.string s] w fun e w' => Rd2 mt s w e w' := by
  have hmt : Hid (mt s.data.toList = match mfacts s.data.toList with | none => none | some T => if txL T = s.data.toList then some T else none) := by
    unfold Hid mt mfacts
    by_cases h : s.data.toList = [45]
    · rw [if_pos h, if_pos h]
      simp only
      rw [if_pos (by rw [h]; rfl)]
    · rw [if_neg h, if_neg h]
      cases alls mf (cutL 44 s.data.toList) <;> rfl
  go_enter Tryz.func10, Tryz.ntmps10
  go_wp2_with fail
  refine (sfacts_any s hs _).mono ?_
  rintro _ w1 ⟨v, T, q, rfl, hown, hn, hl, hr, b1⟩
  rw [hr] at hmt
  clear hr
  obtain ⟨a, cap, rfl, hcap, -, hF⟩ := own_facts hown
  cases q
  · have hno : Hid (mt s.data.toList = none) := hmt
    have O2 : (w1.alloc (.cells #[] 53)).ownsRow w.heap.size 53 4 (.slice (some ⟨w1.heap.size, 0, none⟩) 0 0) 0 (fl []) := World.ownsRow_lit w1 #[] 0 b1.size (by unfold maxLen; omega) rfl
    clear hmt hown hn hl hF
    go_wp2
    go_ret2
    exact Rd2.of _ [] false rfl O2 (fun _ => rfl) (by simp) hno.out (balloc _ b1)
  · have hmt' : Hid (mt s.data.toList = if txL T = s.data.toList then some T else none) := hmt
    have hT := stext_any a T.length cap (atF T) w1 hF hl
    rw [txt_txL] at hT
    obtain ⟨x, hx⟩ : ∃ x, Hid (bs (txL T) = x) := ⟨_, rfl⟩
    rw [hx.out] at hT
    clear hmt hF hn
    by_cases he : txL T = s.data.toList
    · have hxe : (x.toList == s.toList) = true := by
        rw [← hx.out, ByteArray.toList_eq, ByteArray.toList_eq]
        exact beq_iff_eq.2 he
      have hy : Hid (mt s.data.toList = some T) := by unfold Hid; rw [hmt'.out, if_pos he]
      clear hmt' he
      go_wp2_with fail
      refine hT.mono ?_
      rintro _ w2 ⟨rfl, b2⟩
      have O2 := own_below hown b2
      have B2 := btrans b1 b2
      clear hT hown b1 b2
      go_wp2
      go_ret2
      exact Rd2.of _ T true rfl O2 (fun h => by cases h) hl hy.out B2
    · have hxe : (x.toList == s.toList) = false := by
        rw [← hx.out, ByteArray.toList_eq, ByteArray.toList_eq]
        exact beq_eq_false_iff_ne.2 he
      have hy : Hid (mt s.data.toList = none) := by unfold Hid; rw [hmt'.out, if_neg he]
      clear hmt' he
      go_wp2_with fail
      refine hT.mono ?_
      rintro _ w2 ⟨rfl, b2⟩
      have B2 := btrans b1 b2
      have O2 : (w2.alloc (.cells #[] 53)).ownsRow w.heap.size 53 4 (.slice (some ⟨w2.heap.size, 0, none⟩) 0 0) 0 (fl []) := World.ownsRow_lit w2 #[] 0 B2.size (by unfold maxLen; omega) rfl
      clear hT hown b1 b2
      go_wp2
      go_ret2
      exact Rd2.of _ [] false rfl O2 (fun _ => rfl) (by simp) hy.out (balloc _ B2)
theorem pf_nil : pf [] = none := rfl
set_option maxRecDepth 20000 in
set_option maxHeartbeats 4000000 in
theorem tparse_any (s : ByteArray) (hs : s.size ≤ 1048576) (w : World) (hp : Pst w) :
    Calls Tryz.prog 9 #[.string s] w fun e w' => Rd2 pt s w e w' := by
  have hL : s.data.toList.length = s.size := by simp
  by_cases h45 : s.data.toList = [45]
  · have hm : pt s.data.toList = some [] := by unfold pt; rw [if_pos h45]
    have he : (s.toList == [45]) = true := by rw [ByteArray.toList_eq, h45]; rfl
    clear h45
    go_enter Tryz.func9, Tryz.ntmps9
    go_wp2
    go_ret2
    exact Rd2.of _ [] true rfl (World.ownsRow_nil _ _ _ _) (fun h => by cases h) (by simp) hm (Below.refl _ _)
  · have hd := dash_no h45
    have hm : Hid (pt s.data.toList = match alls pf (cutL 44 s.data.toList) with | none => none | some T => if tokL T = true then some T else none) := by
      unfold Hid pt
      rw [if_neg h45]
      cases alls pf (cutL 44 s.data.toList) <;> rfl
    obtain ⟨ti, hi, hz0, hz1, hz2⟩ := info_parts infoF
    go_enter Tryz.func9, Tryz.ntmps9
    go_wp2_with fail
    refine (split_any s 44 _ rfl hs _ hp).mono ?_
    rintro _ w1 ⟨pb, rfl, hpb, hp2, hpc, B0⟩
    have hpc : Pcs w1 pb (cutL 44 s.data.toList) := hpc
    have hfew := cutL_len 44 s.size s.data.toList (by omega)
    go_wp2_with fail
    go_loopw [4, 14] (fun v i wr => ∃ (k : Nat) (T : List Fc), i = .int .i64 k ∧ k ≤ (cutL 44 s.data.toList).length ∧ alls pf ((cutL 44 s.data.toList).take k) = some T ∧ wr.ownsRow w.heap.size 53 4 v T.length (fl T) ∧ Below w.heap.size w wr ∧ pb < wr.heap.size ∧ v.ownBlock ≠ some pb ∧ Pcs wr pb (cutL 44 s.data.toList)) (fun _ i _ => (cutL 44 s.data.toList).length - (intOf i).toNat)
    case atStart => exact ⟨0, [], rfl, Nat.zero_le _, rfl, World.ownsRow_nil _ _ _ _, B0, hp2, by simp [Value.ownBlock], hpc⟩
    case round =>
      clear hpc B0
      obtain ⟨k, T, rfl, hk, hT, hown, hb, hp1, hvb, hpc⟩ := hrel
      by_cases hlt : k < (cutL 44 s.data.toList).length
      · have i0 : (0 : Int) ≤ (k : Int) := by omega
        have i1 : (k : Int) < ((cutL 44 s.data.toList).length : Int) := by omega
        obtain ⟨p, hpk⟩ : ∃ p, (cutL 44 s.data.toList)[k]? = some p := ⟨_, List.getElem?_eq_getElem hlt⟩
        have c0 := hpc k p hpk
        have lp := cutL_mem 44 _ p (List.mem_of_getElem? hpk)
        have lp' : (⟨p.toArray⟩ : ByteArray).size ≤ 1048576 := by show p.toArray.size ≤ _; rw [List.size_toArray]; omega
        go_wp2_with fail
        refine (fparse_any ⟨p.toArray⟩ lp' _ (hp.below hb)).mono ?_
        rintro _ w2 ⟨f, q, rfl, hr, b2⟩
        have hr' : pf p = if q = true then some f else none := hr
        have B1 := btrans hb b2
        have O1 := own_below hown b2
        have hp1' := Nat.lt_of_lt_of_le hp1 b2.size
        have hpc2 : Pcs w2 pb (cutL 44 s.data.toList) := fun j p hj => keep_below b2 (hpc j p hj)
        clear c0 b2 hr hown hb hpc
        cases q
        · have hno : Hid (pf p = none) := by unfold Hid; rw [hr']; rfl
          have hal : alls pf (cutL 44 s.data.toList) = none := alls_none pf hpk hno.out
          go_wp2
          go_ret2
          exact Rd2.of _ [] false rfl (World.ownsRow_nil _ _ _ _) (fun _ => rfl) (by simp) (by rw [hm.out, hal]; rfl) (balloc _ B1)
        · have hsm : pf p = some f := by rw [hr']; rfl
          have hts := alls_take pf hpk hT hsm
          have hle : T.length ≤ k := by rw [alls_len pf hT, List.length_take]; omega
          have B2 := balloc (.cells #[.int .i64 f.n, .int .i64 f.i, .int .i64 f.s, .bool f.g] 53) B1
          have O2 := O1.alloc (.cells #[.int .i64 f.n, .int .i64 f.i, .int .i64 f.s, .bool f.g] 53)
          have cA : (w2.alloc (.cells #[.int .i64 f.n, .int .i64 f.i, .int .i64 f.s, .bool f.g] 53)).cell? ⟨w2.heap.size, 0, none⟩ = some (.int .i64 f.n) := by simp
          have cB : (w2.alloc (.cells #[.int .i64 f.n, .int .i64 f.i, .int .i64 f.s, .bool f.g] 53)).cell? ⟨w2.heap.size, 1, none⟩ = some (.int .i64 f.i) := by simp
          have cC : (w2.alloc (.cells #[.int .i64 f.n, .int .i64 f.i, .int .i64 f.s, .bool f.g] 53)).cell? ⟨w2.heap.size, 2, none⟩ = some (.int .i64 f.s) := by simp
          have cD : (w2.alloc (.cells #[.int .i64 f.n, .int .i64 f.i, .int .i64 f.s, .bool f.g] 53)).cell? ⟨w2.heap.size, 3, none⟩ = some (.bool f.g) := by simp
          have hp3 : pb < (w2.alloc (.cells #[.int .i64 f.n, .int .i64 f.i, .int .i64 f.s, .bool f.g] 53)).heap.size := by simp; omega
          have hpc3 : Pcs (w2.alloc (.cells #[.int .i64 f.n, .int .i64 f.i, .int .i64 f.s, .bool f.g] 53)) pb (cutL 44 s.data.toList) := fun j p hj => keep_al _ hp1' (hpc2 j p hj)
          clear hr' hpc2 hp1 hp1'
          go_upto_region 10 with fail
          generalize w2.alloc (.cells #[.int .i64 f.n, .int .i64 f.i, .int .i64 f.s, .bool f.g] 53) = w3 at *
          generalize w2.heap.size = b7 at *
          go_wp2_with (at_builtin; refine wpList_append_own_at _ rfl _ _ 24 rfl w.heap.size 53 ti (fval Fc.zero) 4 32 Tryz.underlying24 hi hz0 hz1 hz2 rfl (by decide) _ _ _ rfl (O2.alloc _) ⟨w3.heap.size, 0, none⟩ 1 1 [.int .i64 f.n, .int .i64 f.i, .int .i64 f.s, .bool f.g] rfl rfl ?c1 ?c2 ?c3 ?c4 ?c5 ?_)
          case c1 =>
            intro j u hj
            match j, hj with
            | 0, hj => simp at hj; subst hj; simp [Addr.add]
            | 1, hj => simp at hj; subst hj; simp [Addr.add]
            | 2, hj => simp at hj; subst hj; simp [Addr.add]
            | 3, hj => simp at hj; subst hj; simp [Addr.add]
          case c2 => intro u hu; simp at hu; rcases hu with rfl | rfl | rfl | rfl <;> rfl
          case c3 => unfold maxLen; omega
          case c4 => omega
          case c5 => have := B2.size; simp; omega
          · intro v' w4 hown' hgrow _ hob
            have B4 := own_grow (balloc (.cells #[.int .i64 f.n, .int .i64 f.i, .int .i64 f.s, .bool f.g] 53) B2) (by have := B2.size; simp; omega) (O2.alloc _) hgrow
            have hp4 : pb < w4.heap.size := by have := hgrow.size; simp at this; omega
            have hpc4 : Pcs w4 pb (cutL 44 s.data.toList) := fun j p hj => by
              rw [← keep_al (.cells #[.int .i64 f.n, .int .i64 f.i, .int .i64 f.s, .bool f.g] 53) hp3 (hpc3 j p hj)]
              exact World.cell?_of_block (hgrow.block pb (by simp; omega) (Ne.symm hvb))
            have hvb' : v'.ownBlock ≠ some pb := by
              rcases hob with e | e
              · rw [e]; exact hvb
              · rw [e]; simp; omega
            clear O1 O2 hgrow B2 B1 cA cB cC cD hpc3 hp3 hob
            go_wp2
            go_roundw
            case rel => exact ⟨k + 1, T ++ [f], by go_num, by omega, hts, by rw [List.length_append, fl_snoc]; exact hown', B4, hp4, hvb', hpc4⟩
            case measure => simp [intOf]; omega
      · obtain rfl : k = (cutL 44 s.data.toList).length := by omega
        rw [List.take_length] at hT
        have hTl := alls_few pf pf_nil (by omega) hT
        have hm' : Hid (pt s.data.toList = if tokL T = true then some T else none) := by unfold Hid; rw [hm.out, hT]
        clear hm hpc
        obtain ⟨a, cap, rfl, hcap, -, hF⟩ := own_facts hown
        cases hq0 : tokL T
        · have hno : Hid (pt s.data.toList = none) := by unfold Hid; rw [hm'.out, hq0]; rfl
          have hq : Hid (tokB T.length (atF T) = false) := hq0
          clear hm' hq0
          go_wp2_with fail
          refine (tok_litt a T.length cap (atF T) false _ hF hTl hq.out).mono ?_
          rintro _ w2 ⟨rfl, b2⟩
          have B2 := btrans hb b2
          clear hF hown hb b2
          go_wp2
          go_ret2
          exact Rd2.of _ [] false rfl (World.ownsRow_nil _ _ _ _) (fun _ => rfl) (by simp) hno.out B2
        · have hy : Hid (pt s.data.toList = some T) := by unfold Hid; rw [hm'.out, hq0]; rfl
          have hq : Hid (tokB T.length (atF T) = true) := hq0
          clear hm' hq0
          go_wp2_with fail
          refine (tok_litt a T.length cap (atF T) true _ hF hTl hq.out).mono ?_
          rintro _ w2 ⟨rfl, b2⟩
          have O2 := own_below hown b2
          have B2 := btrans hb b2
          clear hF hown hb b2
          go_wp2
          go_ret2
          exact Rd2.of _ T true rfl O2 (fun h => by cases h) hTl hy.out B2
end Go.Proofs.YtibnojbhoepcdaaGreatDoor
