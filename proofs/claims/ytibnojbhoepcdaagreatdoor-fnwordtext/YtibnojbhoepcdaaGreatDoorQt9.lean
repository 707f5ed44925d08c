/- Texts of the proof, laid together: PCut, PRead. -/
import Derived.Test.YtibnojbhoepcdaaGreatDoorQt1
import Derived.Test.YtibnojbhoepcdaaGreatDoorQt2
/- A text cut at a byte, and the number that it spells: the model's way. -/
namespace Go.Proofs.YtibnojbhoepcdaaGreatDoor
open Go.ChangeShapes Go.WideShapes Go.ChangeAt Go.RowKit
theorem sin_lit (n : Nat) (lo hi : Int) (q : Bool) (h : inb (n : Int) lo hi = q) (w : World) : Calls Tryz.prog 61 #[.int .i64 (n : Int), .int .i64 lo, .int .i64 hi] w fun e w' => e = .returned (.bool q) ∧ w' = w := h ▸ lin_any (n : Int) lo hi w
/-- texts in memory -/
def svs (l : List (List UInt8)) : List Value := l.map fun x => .string ⟨x.toArray⟩
theorem cutL_last (c x : UInt8) : ∀ a : List UInt8, cutL c (a ++ [x]) = if x = c then cutL c a ++ [[]] else (cutL c a).dropLast ++ [(cutL c a).getLastD [] ++ [x]]
  | [] => by
    by_cases h : x = c <;> simp [cutL, h]
  | y :: r => by
    rw [List.cons_append, cutL, cutL_last c x r, cutL]
    have hn := cutL_ne c r
    cases hc : cutL c r with
    | nil => exact absurd hc hn
    | cons p ps =>
      by_cases hy : y = c
      · by_cases h : x = c
        · simp [hy, h]
        · simp [hy, h]
      · by_cases h : x = c
        · simp [hy, h]
        · cases ps with
          | nil => simp [hy, h]
          | cons q qs => simp [hy, h]
theorem cutL_len (c : UInt8) : ∀ n (s : List UInt8), s.length ≤ n → (cutL c s).length ≤ n + 1
  | n, [], _ => by simp [cutL]
  | 0, x :: r, h => by simp at h
  | n + 1, x :: r, h => by
    have ih := cutL_len c n r (by simp at h; omega)
    rw [cutL]
    split
    · simp; omega
    · split
      · simp
      · next p ps e => rw [e] at ih; simp at ih ⊢; omega
theorem last_back {l : List (List UInt8)} (h : l ≠ []) : l.dropLast ++ [l.getLastD []] = l := by
  cases l with
  | nil => exact absurd rfl h
  | cons a r => rw [List.getLastD_cons, ← List.getLast_eq_getLastD (by simp)]; exact List.dropLast_concat_getLast _
/-- the byte at a place -/
def byt (s : ByteArray) (i : Nat) : UInt8 := s.data.toList[i]?.getD 0
theorem byt_at (s : ByteArray) (k : Nat) (h : k < s.size) : s[k] = byt s k := by
  unfold byt
  have : s.data.toList[k]? = some s[k] := by
    rw [List.getElem?_eq_getElem (by simpa using h)]; rfl
  rw [this]; rfl
theorem byt_drop (s : ByteArray) (k : Nat) (h : k < s.size) : s.data.toList.drop k = byt s k :: s.data.toList.drop (k + 1) := by
  rw [← byt_at s k h]
  exact List.drop_eq_getElem_cons (by simpa using h)
theorem byt_take (s : ByteArray) (k : Nat) (h : k < s.size) : s.data.toList.take (k + 1) = s.data.toList.take k ++ [byt s k] := by
  rw [← byt_at s k h]
  exact List.take_succ_eq_append_getElem (by simpa using h)
theorem ext_list (s : ByteArray) (a b : Nat) : s.extract a b = ⟨((s.data.toList.take b).drop a).toArray⟩ := by
  apply ByteArray.ext
  apply Array.toList_inj.1
  rw [ByteArray.data_extract]
  simp [List.extract_eq_take_drop, List.drop_take]
/-- what is behind the last cut -/
structure Cutting (c : UInt8) (s : ByteArray) (i f : Nat) : Prop where
  le : f ≤ i
  last : (cutL c (s.data.toList.take i)).getLastD [] = (s.data.toList.take i).drop f
set_option maxRecDepth 20000 in
set_option maxHeartbeats 4000000 in
theorem scut_any (s : ByteArray) (c : UInt8) (hs : s.size ≤ 1048576) (w : World) :
    Calls Tryz.prog 44 #[.string s, .int .u8 (c.toNat : Int)] w fun e w' => ∃ v, e = .returned v ∧ w'.ownsRow w.heap.size 9 1 v (cutL c s.data.toList).length (svs (cutL c s.data.toList)) ∧ Below w.heap.size w w' := by
  have hL : s.data.toList.length = s.size := by simp
  obtain ⟨ti, hi, hz0, hz1, hz2⟩ := info_parts (show (Tryz.prog.info? 9).map (fun i => (i.zero, i.size, i.bytes)) = some (some (.string ByteArray.empty), 1, 16) by kernel_rfl)
  go_enter Tryz.func44, Tryz.ntmps44
  go_wp2_with fail
  go_loopw [5, 6, 7] (fun v f i wr => ∃ k g : Nat, i = .int .i64 k ∧ f = .int .i64 g ∧ k ≤ s.size ∧ Cutting c s k g ∧ wr.ownsRow w.heap.size 9 1 v ((cutL c (s.data.toList.take k)).length - 1) (svs (cutL c (s.data.toList.take k)).dropLast) ∧ Below w.heap.size w wr) (fun _ _ i _ => s.size - (intOf i).toNat)
  case atStart => exact ⟨0, 0, rfl, rfl, Nat.zero_le _, ⟨Nat.le_refl _, rfl⟩, World.ownsRow_lit w #[] 0 (Nat.le_refl _) (by unfold maxLen; omega) rfl, balloc _ (Below.refl _ _)⟩
  case round =>
    obtain ⟨k, g, rfl, rfl, hk, hc, hown, hb⟩ := hrel
    have hgk := hc.le
    have hlast := hc.last
    have hne := cutL_ne c (s.data.toList.take k)
    have hlen : (cutL c (s.data.toList.take k)).length ≤ k + 1 := cutL_len c k _ (by simp; omega)
    have hx : s.extract g k = ⟨((s.data.toList.take k).drop g).toArray⟩ := ext_list s g k
    by_cases hlt : k < s.size
    · have hbt := byt_at s k hlt
      have htk := byt_take s k hlt
      have hlt' : (k : Int) < (s.size : Int) := by omega
      by_cases hq : byt s k = c
      · have hq1 : s[k].toNat = c.toNat := by rw [hbt, hq]
        have hcl := cutL_last c (byt s k) (s.data.toList.take k)
        rw [if_pos hq, ← htk] at hcl
        have hsv : Hid (svs (cutL c (s.data.toList.take (k + 1))).dropLast = svs (cutL c (s.data.toList.take k)).dropLast ++ [.string (s.extract g k)]) := by
          unfold Hid
          rw [hcl, List.dropLast_concat, hx, ← hlast]
          conv => lhs; rw [← last_back hne]
          simp [svs]
        have hln : Hid ((cutL c (s.data.toList.take (k + 1))).length - 1 = (cutL c (s.data.toList.take k)).length - 1 + 1) := by
          unfold Hid
          rw [hcl]
          have := List.length_pos_iff.2 hne
          simp
          omega
        have hct : Cutting c s (k + 1) (k + 1) := ⟨Nat.le_refl _, by rw [hcl]; simp⟩
        have hq2 : ((s[k].toNat : Int) == (c.toNat : Int)) = true := by rw [beq_iff_eq]; omega
        have hle : (cutL c (s.data.toList.take k)).length - 1 ≤ 1048576 := by omega
        clear hcl hx hlast hbt hlen hne htk hc
        generalize hxx : s.extract g k = x at *
        generalize (cutL c (s.data.toList.take k)).length - 1 = m at *
        generalize svs (cutL c (s.data.toList.take k)).dropLast = xs at *
        go_wp2_with (at_builtin; refine wpList_append_own _ rfl _ _ 48 rfl w.heap.size 9 ti (.string ByteArray.empty) 1 16 Tryz.underlying48 hi hz0 hz1 hz2 rfl (by decide) _ _ _ rfl (hown.alloc _) ⟨wr.heap.size, 0, none⟩ 1 1 [.string x] rfl rfl ?c1 ?c2 ?c3 ?c4 ?c5 ?_)
        case c1 =>
          intro j u hj
          match j, hj with
          | 0, hj => simp at hj; subst hj; simp [Addr.add]
        case c2 => intro u hu; simp at hu; subst hu; rfl
        case c3 => unfold maxLen; omega
        case c4 => omega
        case c5 => have := hb.size; simp; omega
        · intro v' w4 hown' hgrow _
          have B4 := own_grow (balloc (.cells #[.string x] 9) hb) (by have := hb.size; simp; omega) (hown.alloc _) hgrow
          clear hown hgrow hb
          go_wp2
          go_roundw
          case rel => exact ⟨k + 1, k + 1, by go_num, by go_num, by omega, hct, by rw [hsv.out, hln.out]; exact hown', B4⟩
          case measure => simp [intOf]; omega
      · have hq1 : ¬ s[k].toNat = c.toNat := by rw [hbt]; exact fun e => hq (UInt8.toNat_inj.1 e)
        have hq2 : ((s[k].toNat : Int) == (c.toNat : Int)) = false := by rw [beq_eq_false_iff_ne]; omega
        clear hbt hx
        go_wp2
        go_roundw
        case rel =>
          have hcl := cutL_last c (byt s k) (s.data.toList.take k)
          rw [if_neg hq] at hcl
          refine ⟨k + 1, g, by go_num, rfl, by omega, ⟨by omega, ?_⟩, ?_, hb⟩
          · have hgl : ∀ (a : List (List UInt8)) (b : List UInt8), (a ++ [b]).getLastD [] = b := fun a b => by simp
            rw [htk, hcl, hgl, hlast, List.drop_append_of_le_length (by simp; omega)]
          · rw [htk, hcl]
            simpa using hown
        case measure => simp [intOf]; omega
    · obtain rfl : k = s.size := by omega
      rw [List.take_of_length_le (by omega)] at hown hlast hlen hne hx
      have hx2 : s.extract g s.size = ⟨(s.data.toList.drop g).toArray⟩ := hx
      have hsv : Hid (svs (cutL c s.data.toList) = svs (cutL c s.data.toList).dropLast ++ [.string (s.extract g s.size)]) := by
        unfold Hid
        rw [hx2, ← hlast]
        conv => lhs; rw [← last_back hne]
        simp [svs]
      have hln : Hid ((cutL c s.data.toList).length = (cutL c s.data.toList).length - 1 + 1) := by
        unfold Hid
        have := List.length_pos_iff.2 hne
        omega
      have hle : (cutL c s.data.toList).length - 1 ≤ 1048576 := by omega
      clear hx hx2 hlast hlen hne hc
      generalize hxx : s.extract g s.size = x at *
      generalize (cutL c s.data.toList).length - 1 = m at *
      generalize svs (cutL c s.data.toList).dropLast = xs at *
      go_wp2_with (at_builtin; refine wpList_append_own _ rfl _ _ 48 rfl w.heap.size 9 ti (.string ByteArray.empty) 1 16 Tryz.underlying48 hi hz0 hz1 hz2 rfl (by decide) _ _ _ rfl (hown.alloc _) ⟨wr.heap.size, 0, none⟩ 1 1 [.string x] rfl rfl ?c1 ?c2 ?c3 ?c4 ?c5 ?_)
      case c1 =>
        intro j u hj
        match j, hj with
        | 0, hj => simp at hj; subst hj; simp [Addr.add]
      case c2 => intro u hu; simp at hu; subst hu; rfl
      case c3 => unfold maxLen; omega
      case c4 => omega
      case c5 => have := hb.size; simp; omega
      · intro v' w4 hown' hgrow _
        have B4 := own_grow (balloc (.cells #[.string x] 9) hb) (by have := hb.size; simp; omega) (hown.alloc _) hgrow
        clear hown hgrow hb
        go_wp2
        go_ret
        exact ⟨_, rfl, by rw [hsv.out, hln.out]; exact hown', B4⟩
set_option maxRecDepth 20000 in
set_option maxHeartbeats 4000000 in
theorem snum_any (s : ByteArray) (w : World) (hs : s.size ≤ 1048576) :
    Calls Tryz.prog 46 #[.string s] w fun e w' => e = .returned (.int .i64 (mnum s.data.toList)) ∧ Below w.heap.size w w' := by
  have hL : s.data.toList.length = s.size := by simp
  by_cases h1 : s.size < 1 ∨ 6 < s.size
  · have e1 : mnum s.data.toList = -1 := by
      unfold mnum
      rw [if_pos (by rw [hL]; omega)]
    have hin : Hid (inb (s.size : Int) 1 6 = false) := by
      unfold Hid inb
      rcases h1 with h1 | h1
      · have : ¬ (1 : Int) ≤ (s.size : Int) := by omega
        simp [this]
      · have : ¬ (s.size : Int) ≤ 6 := by omega
        simp [this]
    rw [e1]
    go_enter Tryz.func46, Tryz.ntmps46
    go_wp2_with fail
    refine (sin_lit s.size 1 6 false hin.out _).mono ?_
    rintro r w1 ⟨rfl, rfl⟩
    go_wp2
    go_ret
    exact ⟨rfl, Below.refl _ _⟩
  · have hin : Hid (inb (s.size : Int) 1 6 = true) := by
      unfold Hid inb
      have a1 : (1 : Int) ≤ (s.size : Int) := by omega
      have a2 : (s.size : Int) ≤ 6 := by omega
      simp [a1, a2]
    have h0 : 0 < s.size := by omega
    have hb0 := byt_at s 0 h0
    have hhd : s.data.toList.head? = some (byt s 0) := by
      have := byt_drop s 0 h0
      rw [List.drop_zero] at this
      rw [this]
      rfl
    by_cases h2 : 1 < s.size ∧ byt s 0 = 48
    · have e1 : mnum s.data.toList = -1 := by
        unfold mnum
        rw [if_pos (by rw [hL, hhd, h2.2]; exact .inr (.inr ⟨h2.1, rfl⟩))]
      have hb1 : s[0].toNat = 48 := by rw [hb0, h2.2]; rfl
      have hgt : (1 : Int) < (s.size : Int) := by omega
      rw [e1]
      clear hb0 hhd
      go_enter Tryz.func46, Tryz.ntmps46
      go_wp2_with fail
      refine (sin_lit s.size 1 6 true hin.out _).mono ?_
      rintro r w1 ⟨rfl, rfl⟩
      go_wp2
      go_ret
      exact ⟨rfl, Below.refl _ _⟩
    · have e1 : mnum s.data.toList = mdig 0 s.data.toList := by
        unfold mnum
        rw [if_neg (by rw [hL, hhd]; rintro (h | h | h); · omega
                       · omega
                       · exact h2 ⟨h.1, Option.some.inj h.2⟩)]
      rw [e1]
      clear hhd
      by_cases h3 : 1 < s.size
      · have hb1 : ¬ s[0].toNat = 48 := by
          intro e
          rw [hb0] at e
          exact h2 ⟨h3, UInt8.toNat_inj.1 e⟩
        have hgt : (1 : Int) < (s.size : Int) := by omega
        clear h2 hb0 e1
        go_enter Tryz.func46, Tryz.ntmps46
        go_wp2_with fail
        refine (sin_lit s.size 1 6 true hin.out _).mono ?_
        rintro r w1 ⟨rfl, rfl⟩
        go_wp2
        clear hb1
        go_loopw [3, 4] (fun v i wr => ∃ k acc : Nat, k ≤ s.size ∧ i = .int .i64 k ∧ v = .int .i64 acc ∧ acc + 1 ≤ 10 ^ k ∧ mdig 0 s.data.toList = mdig acc (s.data.toList.drop k) ∧ wr = w1) (fun _ i _ => s.size - (intOf i).toNat)
        case atStart => exact ⟨0, 0, by omega, rfl, rfl, by omega, rfl, rfl⟩
        case round =>
          obtain ⟨k, acc, hk, rfl, rfl, ha, hd, rfl⟩ := hrel
          by_cases hlt : k < s.size
          · have hbt := congrArg UInt8.toNat (byt_at s k hlt)
            have hdr := byt_drop s k hlt
            have hp : 10 ^ k ≤ 10 ^ 5 := Nat.pow_le_pow_right (by omega) (by omega)
            have hp1 : 10 ^ (k + 1) = 10 ^ k * 10 := Nat.pow_succ ..
            have hlt' : (k : Int) < (s.size : Int) := by omega
            rw [hdr, mdig] at hd
            generalize hcv : (byt s k).toNat = cv at *
            have hd' : Hid (mdig 0 s.data.toList = if cv < 48 ∨ 57 < cv then -1 else mdig ((acc : Int) * 10 + ((cv : Int) - 48)) (List.drop (k + 1) s.data.toList)) := hd
            clear hd hdr hcv
            have ha5 : acc < 100000 := by omega
            have ha6 : Hid (acc * 10 + 10 ≤ 10 ^ (k + 1)) := by unfold Hid; omega
            clear hp hp1 ha
            by_cases hc1 : cv < 48
            · have e2 : Hid (mdig 0 s.data.toList = -1) := by unfold Hid; rw [hd'.out, if_pos (.inl hc1)]
              clear hd'
              have hc1' : (cv : Int) < 48 := by omega
              go_wp2
              go_ret
              exact ⟨by rw [e2.out]; rfl, Below.refl _ _⟩
            · by_cases hc2 : 57 < cv
              · have e2 : Hid (mdig 0 s.data.toList = -1) := by unfold Hid; rw [hd'.out, if_pos (.inr hc2)]
                clear hd'
                have hc1' : ¬ (cv : Int) < 48 := by omega
                have hc2' : 57 < (cv : Int) := by omega
                go_wp2
                go_ret
                exact ⟨by rw [e2.out]; rfl, Below.refl _ _⟩
              · have e2 : Hid (mdig 0 s.data.toList = mdig ((acc : Int) * 10 + ((cv : Int) - 48)) (List.drop (k + 1) s.data.toList)) := by unfold Hid; rw [hd'.out, if_neg (by omega)]
                clear hd'
                have hc1' : ¬ (cv : Int) < 48 := by omega
                have hc2' : ¬ 57 < (cv : Int) := by omega
                go_wp2
                go_roundw
                case rel =>
                  refine ⟨k + 1, acc * 10 + (cv - 48), by omega, by go_num, by go_num, by have := ha6.out; omega, ?_, trivial⟩
                  rw [e2.out]
                  congr 1
                  omega
                case measure => simp [intOf]; omega
          · obtain rfl : k = s.size := by omega
            have e2 : Hid (mdig 0 s.data.toList = acc) := by
              unfold Hid
              rw [hd, List.drop_eq_nil_of_le (by omega)]
              rfl
            clear hd ha
            go_wp2
            go_ret
            exact ⟨by rw [e2.out]; rfl, Below.refl _ _⟩
      · have hb1 : ¬ (1 : Int) < (s.size : Int) := by omega
        clear h2 hb0 e1
        go_enter Tryz.func46, Tryz.ntmps46
        go_wp2_with fail
        refine (sin_lit s.size 1 6 true hin.out _).mono ?_
        rintro r w1 ⟨rfl, rfl⟩
        go_wp2
        clear hb1
        go_loopw [3, 4] (fun v i wr => ∃ k acc : Nat, k ≤ s.size ∧ i = .int .i64 k ∧ v = .int .i64 acc ∧ acc + 1 ≤ 10 ^ k ∧ mdig 0 s.data.toList = mdig acc (s.data.toList.drop k) ∧ wr = w1) (fun _ i _ => s.size - (intOf i).toNat)
        case atStart => exact ⟨0, 0, by omega, rfl, rfl, by omega, rfl, rfl⟩
        case round =>
          obtain ⟨k, acc, hk, rfl, rfl, ha, hd, rfl⟩ := hrel
          by_cases hlt : k < s.size
          · have hbt := congrArg UInt8.toNat (byt_at s k hlt)
            have hdr := byt_drop s k hlt
            have hp : 10 ^ k ≤ 10 ^ 5 := Nat.pow_le_pow_right (by omega) (by omega)
            have hp1 : 10 ^ (k + 1) = 10 ^ k * 10 := Nat.pow_succ ..
            have hlt' : (k : Int) < (s.size : Int) := by omega
            rw [hdr, mdig] at hd
            generalize hcv : (byt s k).toNat = cv at *
            have hd' : Hid (mdig 0 s.data.toList = if cv < 48 ∨ 57 < cv then -1 else mdig ((acc : Int) * 10 + ((cv : Int) - 48)) (List.drop (k + 1) s.data.toList)) := hd
            clear hd hdr hcv
            have ha5 : acc < 100000 := by omega
            have ha6 : Hid (acc * 10 + 10 ≤ 10 ^ (k + 1)) := by unfold Hid; omega
            clear hp hp1 ha
            by_cases hc1 : cv < 48
            · have e2 : Hid (mdig 0 s.data.toList = -1) := by unfold Hid; rw [hd'.out, if_pos (.inl hc1)]
              clear hd'
              have hc1' : (cv : Int) < 48 := by omega
              go_wp2
              go_ret
              exact ⟨by rw [e2.out]; rfl, Below.refl _ _⟩
            · by_cases hc2 : 57 < cv
              · have e2 : Hid (mdig 0 s.data.toList = -1) := by unfold Hid; rw [hd'.out, if_pos (.inr hc2)]
                clear hd'
                have hc1' : ¬ (cv : Int) < 48 := by omega
                have hc2' : 57 < (cv : Int) := by omega
                go_wp2
                go_ret
                exact ⟨by rw [e2.out]; rfl, Below.refl _ _⟩
              · have e2 : Hid (mdig 0 s.data.toList = mdig ((acc : Int) * 10 + ((cv : Int) - 48)) (List.drop (k + 1) s.data.toList)) := by unfold Hid; rw [hd'.out, if_neg (by omega)]
                clear hd'
                have hc1' : ¬ (cv : Int) < 48 := by omega
                have hc2' : ¬ 57 < (cv : Int) := by omega
                go_wp2
                go_roundw
                case rel =>
                  refine ⟨k + 1, acc * 10 + (cv - 48), by omega, by go_num, by go_num, by have := ha6.out; omega, ?_, trivial⟩
                  rw [e2.out]
                  congr 1
                  omega
                case measure => simp [intOf]; omega
          · obtain rfl : k = s.size := by omega
            have e2 : Hid (mdig 0 s.data.toList = acc) := by
              unfold Hid
              rw [hd, List.drop_eq_nil_of_le (by omega)]
              rfl
            clear hd ha
            go_wp2
            go_ret
            exact ⟨by rw [e2.out]; rfl, Below.refl _ _⟩
end Go.Proofs.YtibnojbhoepcdaaGreatDoor
/- A fact read: the model's way. -/
namespace Go.Proofs.YtibnojbhoepcdaaGreatDoor
open Go.ChangeShapes Go.WideShapes Go.ChangeAt Go.RowKit
/-- a fact lies in block b -/
structure Bx (w : World) (b : Nat) (f : Fc) : Prop where
  lt : b < w.heap.size
  c0 : w.cell? ⟨b, 0, none⟩ = some (.int .i64 f.n)
  c1 : w.cell? ⟨b, 1, none⟩ = some (.int .i64 f.i)
  c2 : w.cell? ⟨b, 2, none⟩ = some (.int .i64 f.s)
  c3 : w.cell? ⟨b, 3, none⟩ = some (.bool f.g)
  z : ∀ k, w.frozen? ⟨b, k, none⟩ = false
theorem frozen_below {w w' : World} {b k : Nat} (hb : Below w.heap.size w w') (hl : b < w.heap.size) (h : w.frozen? ⟨b, k, none⟩ = false) : w'.frozen? ⟨b, k, none⟩ = false := by
  rw [hb.frozen hl]
  exact h
theorem Bx.below {w w' : World} {b : Nat} {f : Fc} (h : Bx w b f) (hb : Below w.heap.size w w') : Bx w' b f :=
  ⟨Nat.lt_of_lt_of_le h.lt hb.size, keep_below hb h.c0, keep_below hb h.c1, keep_below hb h.c2, keep_below hb h.c3, fun k => frozen_below hb h.lt (h.z k)⟩
theorem Bx.drew {w : World} {b : Nat} {f : Fc} (h : Bx w b f) : Bx w.drew b f := ⟨h.lt, h.c0, h.c1, h.c2, h.c3, h.z⟩
theorem cell_farP {w : World} {p a : Addr} (v : Value) (h : a.block ≠ p.block) : (w.setCell p v).cell? a = w.cell? a :=
  World.cell?_of_block (w := w) (Below.heap_setCell w p v a.block h)
theorem Bx.far {w : World} {b b' k : Nat} {f : Fc} {v : Value} (h : Bx w b f) (hne : b ≠ b') : Bx (w.setCell ⟨b', k, none⟩ v) b f :=
  ⟨by simpa [World.setCell] using h.lt, (cell_farP _ hne).trans h.c0, (cell_farP _ hne).trans h.c1, (cell_farP _ hne).trans h.c2, (cell_farP _ hne).trans h.c3, fun k => by rw [World.frozen?_setCell]; exact h.z k⟩
theorem Bx.set0 {w : World} {b : Nat} {f : Fc} (h : Bx w b f) (n : Int) : Bx (w.setCell ⟨b, 0, none⟩ (.int .i64 n)) b ⟨n, f.i, f.s, f.g⟩ :=
  ⟨by simpa [World.setCell] using h.lt, by rw [World.cell?_setCell_same' _ _ _ (by rw [h.c0]; rfl)], (World.cell?_setCell_other _ _ _ _ (by simp)).trans h.c1, (World.cell?_setCell_other _ _ _ _ (by simp)).trans h.c2, (World.cell?_setCell_other _ _ _ _ (by simp)).trans h.c3, fun k => by rw [World.frozen?_setCell]; exact h.z k⟩
theorem Bx.set1 {w : World} {b : Nat} {f : Fc} (h : Bx w b f) (n : Int) : Bx (w.setCell ⟨b, 1, none⟩ (.int .i64 n)) b ⟨f.n, n, f.s, f.g⟩ :=
  ⟨by simpa [World.setCell] using h.lt, (World.cell?_setCell_other _ _ _ _ (by simp)).trans h.c0, by rw [World.cell?_setCell_same' _ _ _ (by rw [h.c1]; rfl)], (World.cell?_setCell_other _ _ _ _ (by simp)).trans h.c2, (World.cell?_setCell_other _ _ _ _ (by simp)).trans h.c3, fun k => by rw [World.frozen?_setCell]; exact h.z k⟩
theorem Bx.set2 {w : World} {b : Nat} {f : Fc} (h : Bx w b f) (n : Int) : Bx (w.setCell ⟨b, 2, none⟩ (.int .i64 n)) b ⟨f.n, f.i, n, f.g⟩ :=
  ⟨by simpa [World.setCell] using h.lt, (World.cell?_setCell_other _ _ _ _ (by simp)).trans h.c0, (World.cell?_setCell_other _ _ _ _ (by simp)).trans h.c1, by rw [World.cell?_setCell_same' _ _ _ (by rw [h.c2]; rfl)], (World.cell?_setCell_other _ _ _ _ (by simp)).trans h.c3, fun k => by rw [World.frozen?_setCell]; exact h.z k⟩
theorem Bx.set3 {w : World} {b : Nat} {f : Fc} (h : Bx w b f) (g : Bool) : Bx (w.setCell ⟨b, 3, none⟩ (.bool g)) b ⟨f.n, f.i, f.s, g⟩ :=
  ⟨by simpa [World.setCell] using h.lt, (World.cell?_setCell_other _ _ _ _ (by simp)).trans h.c0, (World.cell?_setCell_other _ _ _ _ (by simp)).trans h.c1, (World.cell?_setCell_other _ _ _ _ (by simp)).trans h.c2, by rw [World.cell?_setCell_same' _ _ _ (by rw [h.c3]; rfl)], fun k => by rw [World.frozen?_setCell]; exact h.z k⟩
theorem cutL_mem (c : UInt8) : ∀ (s p : List UInt8), p ∈ cutL c s → p.length ≤ s.length
  | [], p, h => by simp [cutL] at h; simp [h]
  | x :: r, p, h => by
    rw [cutL] at h
    split at h
    · rcases List.mem_cons.1 h with e | e
      · simp [e]
      · have := cutL_mem c r p e; simp; omega
    · split at h
      · simp at h; simp [h]
      · next q qs e =>
        rcases List.mem_cons.1 h with e' | e'
        · have := cutL_mem c r q (by rw [e]; exact List.mem_cons_self ..)
          rw [e']; simp; omega
        · have := cutL_mem c r p (by rw [e]; exact List.mem_cons_of_mem _ e')
          simp; omega
theorem scut_lit (s : ByteArray) (c : UInt8) (z : Int) (hz : (c.toNat : Int) = z) (hs : s.size ≤ 1048576) (w : World) :
    Calls Tryz.prog 44 #[.string s, .int .u8 z] w fun e w' => ∃ v, e = .returned v ∧ w'.ownsRow w.heap.size 9 1 v (cutL c s.data.toList).length (svs (cutL c s.data.toList)) ∧ Below w.heap.size w w' := hz ▸ scut_any s c hs w
theorem threeP {l : List (List UInt8)} (h : l.length = 3) : ∃ a b c, l = [a, b, c] := by
  match l, h with
  | [a, b, c], _ => exact ⟨a, b, c, rfl⟩
/-- the pieces of a cut, where they lie -/
theorem cut_at {w : World} {base : Nat} {v : Value} {l : List (List UInt8)} (hne : l ≠ []) (h : w.ownsRow base 9 1 v l.length (svs l)) : ∃ g cap, v = .slice (some ⟨g, 0, none⟩) l.length cap ∧ base ≤ g ∧ g < w.heap.size ∧ l.length ≤ cap ∧ ∀ j p, l[j]? = some p → w.cell? ⟨g, j, none⟩ = some (.string ⟨p.toArray⟩) := by
  rcases own_str h with ⟨_, e0⟩ | ⟨g, cc, rfl, hg1, hg2, hg3⟩
  · exact absurd (List.length_eq_zero_iff.1 e0) hne
  · refine ⟨g, cc, rfl, hg1, hg2, hg3, fun j p hp => ?_⟩
    have := h.cells (g := g) rfl j (.string ⟨p.toArray⟩) (by simp [svs, hp])
    cases j <;> simpa [Addr.add] using this
/-- the greatest place before k at which a word stands -/
def wst (c : List UInt8) : Nat → Int
  | 0 => 0
  | k + 1 => if wordL ((k : Int) + 1) = c then (k : Int) + 1 else wst c k
theorem wst_wnum (c : List UInt8) : wst c 4 = wnum c := by
  unfold wnum
  simp only [wst]
  show (if wa4 = c then _ else if wa3 = c then _ else if wa2 = c then _ else if wa1 = c then _ else _) = _
  by_cases h1 : c = wa1
  · subst h1; decide
  · by_cases h2 : c = wa2
    · subst h2; decide
    · by_cases h3 : c = wa3
      · subst h3; decide
      · by_cases h4 : c = wa4
        · subst h4; decide
        · rw [if_neg (fun e => h4 e.symm), if_neg (fun e => h3 e.symm), if_neg (fun e => h2 e.symm), if_neg (fun e => h1 e.symm), if_neg h1, if_neg h2, if_neg h3, if_neg h4]
theorem mf_short {s : List UInt8} (h : (cutL 58 (if mst s = true then s.dropLast else s)).length ≠ 3) : mf s = none := by
  unfold mf
  split
  · next e => rw [e] at h; exact absurd rfl h
  · rfl
theorem mf_three {s a b c : List UInt8} (h : cutL 58 (if mst s = true then s.dropLast else s) = [a, b, c]) : mf s = if fok ⟨mnum a, mnum b, wnum c, mst s⟩ = true then some ⟨mnum a, mnum b, wnum c, mst s⟩ else none := by
  unfold mf
  rw [h]
/-- a reader of facts answers what r says -/
def Rd1 (r : List UInt8 → Option Fc) (s : ByteArray) (w : World) (e : Ending) (w' : World) : Prop :=
  ∃ f q, e = .returned (.tuple #[.agg #[.int .i64 f.n, .int .i64 f.i, .int .i64 f.s, .bool f.g], .bool q]) ∧ r s.data.toList = (if q = true then some f else none) ∧ Below w.heap.size w w'
theorem Rd1.of {r : List UInt8 → Option Fc} {s : ByteArray} {w w' : World} {e : Ending} (f : Fc) (q : Bool) (he : e = .returned (.tuple #[.agg #[.int .i64 f.n, .int .i64 f.i, .int .i64 f.s, .bool f.g], .bool q])) (hr : r s.data.toList = (if q = true then some f else none)) (hb : Below w.heap.size w w') : Rd1 r s w e w' := ⟨f, q, he, hr, hb⟩
set_option maxRecDepth 20000 in
set_option maxHeartbeats 4000000 in
theorem sread_any (s : ByteArray) (hs : s.size ≤ 1048576) (w : World) :
    Calls Tryz.prog 76 #[.string s] w fun e w' => Rd1 mf s w e w' := by
  have hL : s.data.toList.length = s.size := by simp
  by_cases h0 : s.size = 0
  · have h0' : ¬ (0 : Int) < (s.size : Int) := by omega
    have hm : mst s.data.toList = false := by
      have : s.data.toList = [] := List.length_eq_zero_iff.1 (by omega)
      rw [this]
      rfl
    have ht : s.size ≤ 1048576 := hs
    have hcs : (if mst s.data.toList = true then s.data.toList.dropLast else s.data.toList) = s.data.toList := by rw [hm]; rfl
    go_enter Tryz.func76, Tryz.ntmps76
    go_wp2_with fail
    have BA : Bx ((w.alloc (.cells #[.int .i64 0, .int .i64 0, .int .i64 0, .bool false] 53)).alloc (.cells #[.int .i64 0, .int .i64 0, .int .i64 0, .bool false] 53)) w.heap.size ⟨0, 0, 0, false⟩ := ⟨by simp; omega, by simp, by simp, by simp, by simp, fun k => by simp⟩
    have BB : Bx ((w.alloc (.cells #[.int .i64 0, .int .i64 0, .int .i64 0, .bool false] 53)).alloc (.cells #[.int .i64 0, .int .i64 0, .int .i64 0, .bool false] 53)) (w.heap.size + 1) ⟨0, 0, 0, false⟩ := ⟨by simp, by simp, by simp, by simp, by simp, fun k => by simp⟩
    have B0 : Below w.heap.size w ((w.alloc (.cells #[.int .i64 0, .int .i64 0, .int .i64 0, .bool false] 53)).alloc (.cells #[.int .i64 0, .int .i64 0, .int .i64 0, .bool false] 53)) := balloc _ (balloc _ (Below.refl _ _))
    have hw0 : w.heap.size + 2 ≤ ((w.alloc (.cells #[.int .i64 0, .int .i64 0, .int .i64 0, .bool false] 53)).alloc (.cells #[.int .i64 0, .int .i64 0, .int .i64 0, .bool false] 53)).heap.size := by simp
    generalize ((w.alloc (.cells #[.int .i64 0, .int .i64 0, .int .i64 0, .bool false] 53)).alloc (.cells #[.int .i64 0, .int .i64 0, .int .i64 0, .bool false] 53)) = w0 at *
    refine (scut_lit s 58 58 rfl ht _).mono ?_
    rintro _ w1 ⟨v, rfl, hown, b1⟩
    have B1 := btrans B0 b1
    have BA1 := BA.below b1
    have BB1 := BB.below b1
    clear B0 b1 BA BB
    obtain ⟨pb, cap, rfl, hp1, hp2, hp3, hpc⟩ := cut_at (cutL_ne _ _) hown
    clear hown
    by_cases h3 : (cutL 58 s.data.toList).length = 3
    · obtain ⟨pa, pbb, pc, e3⟩ := threeP h3
      rw [e3] at hpc
      have p0 := hpc 0 pa rfl
      have p1 := hpc 1 pbb rfl
      have p2 := hpc 2 pc rfl
      have hmf : Hid (mf s.data.toList = if fok ⟨mnum pa, mnum pbb, wnum pc, false⟩ = true then some ⟨mnum pa, mnum pbb, wnum pc, false⟩ else none) := by
        have := mf_three (hcs.symm ▸ e3)
        rw [hm] at this
        exact this
      have la : (⟨pa.toArray⟩ : ByteArray).size ≤ 1048576 := by
        have := cutL_mem 58 _ pa (by rw [e3]; simp)
        have e4 : s.data.toList.length = s.size := by simp
        show pa.toArray.size ≤ _
        rw [List.size_toArray]
        omega
      have lb : (⟨pbb.toArray⟩ : ByteArray).size ≤ 1048576 := by
        have := cutL_mem 58 _ pbb (by rw [e3]; simp)
        have e4 : s.data.toList.length = s.size := by simp
        show pbb.toArray.size ≤ _
        rw [List.size_toArray]
        omega
      clear hpc e3 hcs
      generalize (cutL 58 s.data.toList).length = n3 at *
      subst h3
      go_wp2_with fail
      refine (snum_any ⟨pa.toArray⟩ _ la).mono ?_
      rintro r w2 ⟨rfl, b2⟩
      have hna : Hid (mnum pa = mnum (⟨pa.toArray⟩ : ByteArray).data.toList) := rfl
      have B2 := btrans B1 b2
      have BA2 := BA1.below b2
      have BB2 := BB1.below b2
      have p12 := keep_below b2 p1
      have p22 := keep_below b2 p2
      have hp22 := Nat.lt_of_lt_of_le hp2 b2.size
      clear B1 BA1 BB1 p0 p1 p2 b2
      have q0 := BB2.c0
      have z0 := BB2.z 0
      generalize mnum (⟨pa.toArray⟩ : ByteArray).data.toList = na at *
      go_wp2_with fail
      have B3 := B2.setCell (p := ⟨w.heap.size + 1, 0, none⟩) (Nat.le_succ _) (.int .i64 na)
      have BA3 : Bx (w2.setCell ⟨w.heap.size + 1, 0, none⟩ (.int .i64 na)) _ _ := BA2.far (by omega)
      have BB3 := BB2.set0 na
      have p13 := (cell_farP (w := w2) (p := ⟨w.heap.size + 1, 0, none⟩) (.int .i64 na) (show pb ≠ w.heap.size + 1 by omega)).trans p12
      have p23 := (cell_farP (w := w2) (p := ⟨w.heap.size + 1, 0, none⟩) (.int .i64 na) (show pb ≠ w.heap.size + 1 by omega)).trans p22
      have hp23 : pb < (w2.setCell ⟨w.heap.size + 1, 0, none⟩ (.int .i64 na)).heap.size := by simpa [World.setCell] using hp22
      clear B2 BA2 BB2 p12 p22 q0 z0 hp22
      generalize w2.setCell ⟨w.heap.size + 1, 0, none⟩ (.int .i64 na) = w3 at *
      refine (snum_any ⟨pbb.toArray⟩ _ lb).mono ?_
      rintro r w4 ⟨rfl, b4⟩
      have hnb : Hid (mnum pbb = mnum (⟨pbb.toArray⟩ : ByteArray).data.toList) := rfl
      have B4 := btrans B3 b4
      have BA4 := BA3.below b4
      have BB4 := BB3.below b4
      have p24 := keep_below b4 p23
      have hp24 := Nat.lt_of_lt_of_le hp23 b4.size
      clear B3 BA3 BB3 p13 p23 b4 hp23
      have q1 := BB4.c1
      have z1 := BB4.z 1
      generalize mnum (⟨pbb.toArray⟩ : ByteArray).data.toList = nb at *
      have B5 := B4.setCell (p := ⟨w.heap.size + 1, 1, none⟩) (Nat.le_succ _) (.int .i64 nb)
      have BA5 : Bx (w4.setCell ⟨w.heap.size + 1, 1, none⟩ (.int .i64 nb)) _ _ := BA4.far (by omega)
      have BB5 := BB4.set1 nb
      have p25 := (cell_farP (w := w4) (p := ⟨w.heap.size + 1, 1, none⟩) (.int .i64 nb) (show pb ≠ w.heap.size + 1 by omega)).trans p24
      have hp25 : pb < (w4.setCell ⟨w.heap.size + 1, 1, none⟩ (.int .i64 nb)).heap.size := by simpa [World.setCell] using hp24
      go_wp2_with fail
      clear B4 BA4 BB4 p24 q1 z1 hp24
      generalize w4.setCell ⟨w.heap.size + 1, 1, none⟩ (.int .i64 nb) = w5 at *
      go_loopw [7] (fun i wr => ∃ k : Nat, i = .int .i64 ((k : Int) + 1) ∧ k ≤ 4 ∧ Bx wr w.heap.size ⟨0, 0, 0, false⟩ ∧ Bx wr (w.heap.size + 1) ⟨na, nb, wst pc k, false⟩ ∧ wr.cell? ⟨pb, 2, none⟩ = some (.string ⟨pc.toArray⟩) ∧ pb < wr.heap.size ∧ Below w.heap.size w wr) (fun i _ => 5 - (intOf i).toNat)
      case atStart => exact ⟨0, rfl, Nat.zero_le _, BA5, BB5, p25, hp25, B5⟩
      case round =>
        obtain ⟨k, rfl, hk, BA6, BB6, p26, hp26, B6⟩ := hrel
        by_cases hlt : k < 4
        · have hk1 : (k : Int) + 1 ≤ 4 := by omega
          have hws : Hid (wst pc (k + 1) = if wordL ((k : Int) + 1) = pc then (k : Int) + 1 else wst pc k) := rfl
          obtain ⟨x, hx⟩ : ∃ x, Hid (bs (wordL ((k : Int) + 1)) = x) := ⟨_, rfl⟩
          have hk0 : (1 : Int) ≤ (k : Int) + 1 := by omega
          have epc : (⟨pc.toArray⟩ : ByteArray).toList = pc := by simp
          by_cases he : wordL ((k : Int) + 1) = pc
          · have hxe : (x.toList == (⟨pc.toArray⟩ : ByteArray).toList) = true := by rw [Lib.bytes_beq_iff, ← hx.out, he]
            have hws1 : Hid (wst pc (k + 1) = (k : Int) + 1) := by unfold Hid; rw [hws.out, if_pos he]
            rw [epc] at hxe
            clear hws he
            go_wp2_with fail
            refine wp_region_held_drew (S := fun w' => w'.cell? ⟨pb, 2, none⟩ = some (.string ⟨pc.toArray⟩)) (by kernel_rfl) ?_ (fun hHeld => ?_)
            · (try dsimp only); ((repeat (first | with_reducible assumption | with_reducible refine keep_drew ?_ | with_reducible refine keep_below (by assumption) ?_)))
            refine tl (i := 0) (oi := { dst := some 47, op := .move (.tmp 7), type := 3, pos := "l3_fact.go:187", after := #[], guard := none }) ?_
            (try simp only [pq])
            refine tl (i := 2) (oi := { dst := some 49, op := .move (.tmp 6), type := 48, pos := "l3_fact.go:187", after := #[], guard := none }) ?_
            (try simp only [pq])
            refine tl (i := 3) (oi := { dst := some 50, op := .indexAddr 48 (.tmp 49) (.const (.int .i64 2)), type := 0, pos := "l3_fact.go:187", after := #[{ on := 2, ground := .data }], guard := none }) ?_
            (try simp only [pq])
            refine tl (i := 4) (oi := { dst := some 51, op := .load 9 (.tmp 50), type := 9, pos := "l3_fact.go:187", after := #[{ on := 3, ground := .data }], guard := none }) ?_
            (try simp only [pq])
            refine wpAnyH_ready (rs := [1]) (by kernel_rfl) (by simp) ?_
            refine AllReadyH.cons (o := { dst := some 48, op := .call { callee := .value (.func 82), args := #[.tmp 47], argTypes := #[3] }, type := 9, pos := "l3_fact.go:187", after := #[{ on := 0, ground := .data }], guard := none }) rfl (fun K hK => ?_) AllReadyH.nil
            go_simp
            refine (sword_lit ((k : Int) + 1) x hk0 hk1 hx.out _).mono ?_; rintro e w7 ⟨rfl, b7⟩
            go_wp2_with fail
            refine hK.out _ _ ?_ (fun hHeld => ?_)
            · (try dsimp only); ((repeat (first | with_reducible assumption | with_reducible refine keep_drew ?_ | with_reducible refine keep_below (by assumption) ?_)))
            clear hK K
            (try simp only [pq])
            refine tl (i := 5) (oi := { dst := some 52, op := .binOp .eql 9 (.tmp 48) (.tmp 51) 9, type := 4, pos := "l3_fact.go:187", after := #[{ on := 1, ground := .data }, { on := 4, ground := .data }], guard := none }) ?_
            (try simp only [pq])
            refine wpAnyH_done (by kernel_rfl) ?_ _
            have B7 := btrans (qd B6) b7
            have BA7 := BA6.drew.below b7
            have BB7 := BB6.drew.below b7
            have p27 := keep_below b7 (keep_drew p26)
            have hp27 := Nat.lt_of_lt_of_le hp26 b7.size
            clear hHeld BA6 BB6 p26 hp26 B6 b7
            have q2 := BB7.c2
            have z2 := BB7.z 2
            have B8 := B7.setCell (p := ⟨w.heap.size + 1, 2, none⟩) (Nat.le_succ _) (.int .i64 ((k : Int) + 1))
            have BA8 : Bx (w7.setCell ⟨w.heap.size + 1, 2, none⟩ (.int .i64 ((k : Int) + 1))) _ _ := BA7.far (by omega)
            have BB8 := BB7.set2 ((k : Int) + 1)
            have p28 := (cell_farP (w := w7) (p := ⟨w.heap.size + 1, 2, none⟩) (.int .i64 ((k : Int) + 1)) (show pb ≠ w.heap.size + 1 by omega)).trans p27
            have hp28 : pb < (w7.setCell ⟨w.heap.size + 1, 2, none⟩ (.int .i64 ((k : Int) + 1))).heap.size := by simpa [World.setCell] using hp27
            go_wp2
            clear q2 z2 BA7 BB7 p27 hp27 B7
            generalize w7.setCell ⟨w.heap.size + 1, 2, none⟩ (.int .i64 ((k : Int) + 1)) = w8 at *
            go_roundw
            case rel => exact ⟨k + 1, by go_num, by omega, BA8, by rw [hws1.out]; exact BB8, p28, hp28, B8⟩
            case measure => simp [intOf]; omega
          · have hxe : (x.toList == (⟨pc.toArray⟩ : ByteArray).toList) = false := by
              rw [Lib.bytes_beq_false_iff, ← hx.out]
              intro e
              exact he (by have := congrArg (fun z => z.data.toList) e; simpa using this)
            have hws1 : Hid (wst pc (k + 1) = wst pc k) := by unfold Hid; rw [hws.out, if_neg he]
            rw [epc] at hxe
            clear hws he
            go_wp2_with fail
            refine wp_region_held_drew (S := fun w' => w'.cell? ⟨pb, 2, none⟩ = some (.string ⟨pc.toArray⟩)) (by kernel_rfl) ?_ (fun hHeld => ?_)
            · (try dsimp only); ((repeat (first | with_reducible assumption | with_reducible refine keep_drew ?_ | with_reducible refine keep_below (by assumption) ?_)))
            refine tl (i := 0) (oi := { dst := some 47, op := .move (.tmp 7), type := 3, pos := "l3_fact.go:187", after := #[], guard := none }) ?_
            (try simp only [pq])
            refine tl (i := 2) (oi := { dst := some 49, op := .move (.tmp 6), type := 48, pos := "l3_fact.go:187", after := #[], guard := none }) ?_
            (try simp only [pq])
            refine tl (i := 3) (oi := { dst := some 50, op := .indexAddr 48 (.tmp 49) (.const (.int .i64 2)), type := 0, pos := "l3_fact.go:187", after := #[{ on := 2, ground := .data }], guard := none }) ?_
            (try simp only [pq])
            refine tl (i := 4) (oi := { dst := some 51, op := .load 9 (.tmp 50), type := 9, pos := "l3_fact.go:187", after := #[{ on := 3, ground := .data }], guard := none }) ?_
            (try simp only [pq])
            refine wpAnyH_ready (rs := [1]) (by kernel_rfl) (by simp) ?_
            refine AllReadyH.cons (o := { dst := some 48, op := .call { callee := .value (.func 82), args := #[.tmp 47], argTypes := #[3] }, type := 9, pos := "l3_fact.go:187", after := #[{ on := 0, ground := .data }], guard := none }) rfl (fun K hK => ?_) AllReadyH.nil
            go_simp
            refine (sword_lit ((k : Int) + 1) x hk0 hk1 hx.out _).mono ?_; rintro e w7 ⟨rfl, b7⟩
            go_wp2_with fail
            refine hK.out _ _ ?_ (fun hHeld => ?_)
            · (try dsimp only); ((repeat (first | with_reducible assumption | with_reducible refine keep_drew ?_ | with_reducible refine keep_below (by assumption) ?_)))
            clear hK K
            (try simp only [pq])
            refine tl (i := 5) (oi := { dst := some 52, op := .binOp .eql 9 (.tmp 48) (.tmp 51) 9, type := 4, pos := "l3_fact.go:187", after := #[{ on := 1, ground := .data }, { on := 4, ground := .data }], guard := none }) ?_
            (try simp only [pq])
            refine wpAnyH_done (by kernel_rfl) ?_ _
            have B7 := btrans (qd B6) b7
            have BA7 := BA6.drew.below b7
            have BB7 := BB6.drew.below b7
            have p27 := keep_below b7 (keep_drew p26)
            have hp27 := Nat.lt_of_lt_of_le hp26 b7.size
            clear hHeld BA6 BB6 p26 hp26 B6 b7
            go_wp2
            go_roundw
            case rel => exact ⟨k + 1, by go_num, by omega, BA7, by rw [hws1.out]; exact BB7, p27, hp27, B7⟩
            case measure => simp [intOf]; omega
        · obtain rfl : k = 4 := by omega
          rw [wst_wnum] at BB6
          obtain ⟨q, hq⟩ : ∃ q, Hid (fok ⟨na, nb, wnum pc, false⟩ = q) := ⟨_, rfl⟩
          rw [hq.out] at hmf
          generalize wnum pc = ws at *
          have c0 := BB6.c0
          have c1 := BB6.c1
          have c2 := BB6.c2
          have c3 := BB6.c3
          dsimp only at c0 c1 c2 c3
          go_wp2_with fail
          refine wp_region_held_drew (S := fun w' => w'.cell? ⟨w.heap.size + 1, 0, none⟩ = some (.int .i64 na) ∧ w'.cell? ⟨w.heap.size + 1, 1, none⟩ = some (.int .i64 nb) ∧ w'.cell? ⟨w.heap.size + 1, 2, none⟩ = some (.int .i64 ws) ∧ w'.cell? ⟨w.heap.size + 1, 3, none⟩ = some (.bool false)) (by kernel_rfl) ?_ (fun hHeld => ?_)
          · (try dsimp only); (refine ⟨?_, ?_, ?_, ?_⟩ <;> (repeat (first | with_reducible assumption | with_reducible refine keep_drew ?_ | with_reducible refine (cell_farP _ (show w.heap.size + 1 ≠ w.heap.size by omega)).trans ?_ | with_reducible refine keep_below (by assumption) ?_)))
          refine tl (i := 0) (oi := { dst := some 55, op := .load 53 (.tmp 4), type := 53, pos := "l3_fact.go:191", after := #[], guard := none }) ?_
          (try simp only [pq])
          refine tl (i := 1) (oi := { dst := some 56, op := .load 53 (.tmp 4), type := 53, pos := "l3_fact.go:191", after := #[], guard := none }) ?_
          (try simp only [pq])
          refine wpAnyH_ready (rs := [2]) (by kernel_rfl) (by simp) ?_
          refine AllReadyH.cons (o := { dst := some 57, op := .call { callee := .value (.func 41), args := #[.tmp 56], argTypes := #[53] }, type := 4, pos := "l3_fact.go:191", after := #[{ on := 1, ground := .data }], guard := none }) rfl (fun K hK => ?_) AllReadyH.nil
          go_simp
          refine (sfok_lit na nb ws false q hq.out _).mono ?_; rintro e w7 ⟨rfl, b7⟩; have BA7 := BA6.drew.below b7; have a0 := BA7.c0; have a1 := BA7.c1; have a2 := BA7.c2; have a3 := BA7.c3; have z0 := BA7.z 0; have z1 := BA7.z 1; have z2 := BA7.z 2; have z3 := BA7.z 3
          go_wp2_with fail
          refine hK.out _ _ ?_ (fun hHeld => ?_)
          · (try dsimp only); (refine ⟨?_, ?_, ?_, ?_⟩ <;> (repeat (first | with_reducible assumption | with_reducible refine keep_drew ?_ | with_reducible refine (cell_farP _ (show w.heap.size + 1 ≠ w.heap.size by omega)).trans ?_ | with_reducible refine keep_below (by assumption) ?_)))
          clear hK K
          (try simp only [pq])
          refine wpAnyH_ready (rs := [3]) (by kernel_rfl) (by simp) ?_
          refine AllReadyH.cons (o := { dst := none, op := .store 53 (.tmp 2) (.tmp 55), type := 0, pos := "l3_fact.go:191", after := #[{ on := 0, ground := .data }, { on := 2, ground := .chain }, { on := 0, ground := .phase }, { on := 1, ground := .textOnly .lateStores }, { on := 2, ground := .textOnly .lateStoresUnsure }], guard := none }) rfl (fun K hK => ?_) AllReadyH.nil
          go_simp
          skip
          go_wp2_with fail
          refine hK.out _ _ ?_ (fun hHeld => ?_)
          · (try dsimp only); (refine ⟨?_, ?_, ?_, ?_⟩ <;> (repeat (first | with_reducible assumption | with_reducible refine keep_drew ?_ | with_reducible refine (cell_farP _ (show w.heap.size + 1 ≠ w.heap.size by omega)).trans ?_ | with_reducible refine keep_below (by assumption) ?_)))
          clear hK K
          (try simp only [pq])
          refine tl (i := 4) (oi := { dst := some 3, op := .assign (.tmp 57), type := 4, pos := "l3_fact.go:191", after := #[{ on := 2, ground := .data }, { on := 3, ground := .chain }, { on := 0, ground := .phase }, { on := 1, ground := .phase }, { on := 2, ground := .phase }, { on := 3, ground := .phase }], guard := none }) ?_
          (try simp only [pq])
          refine wpAnyH_done (by kernel_rfl) ?_ _
          have B7 := btrans (qd B6) b7
          have BA8 := (((BA7.set0 na).set1 nb).set2 ws).set3 false
          have BE : Below w.heap.size w ((((w7.setCell ⟨w.heap.size, 0, none⟩ (.int .i64 na)).setCell ⟨w.heap.size, 1, none⟩ (.int .i64 nb)).setCell ⟨w.heap.size, 2, none⟩ (.int .i64 ws)).setCell ⟨w.heap.size, 3, none⟩ (.bool false)) := (((B7.setCell (Nat.le_refl _) _).setCell (Nat.le_refl _) _).setCell (Nat.le_refl _) _).setCell (Nat.le_refl _) _
          clear hHeld a0 a1 a2 a3 z0 z1 z2 z3 c0 c1 c2 c3 BA7 BA6 BB6 B6 B7 b7 p26 hp26
          generalize ((((w7.setCell ⟨w.heap.size, 0, none⟩ (.int .i64 na)).setCell ⟨w.heap.size, 1, none⟩ (.int .i64 nb)).setCell ⟨w.heap.size, 2, none⟩ (.int .i64 ws)).setCell ⟨w.heap.size, 3, none⟩ (.bool false)) = w9 at *
          have a0 := BA8.c0
          have a1 := BA8.c1
          have a2 := BA8.c2
          have a3 := BA8.c3
          go_wp2
          exact bodyPost_ret (v := .tuple #[.agg #[.int .i64 na, .int .i64 nb, .int .i64 ws, .bool false], .bool q]) (by simp [results, Tryz.results76, go_sem, a0, a1, a2, a3]) rfl (Rd1.of ⟨na, nb, ws, false⟩ q rfl hmf.out BE)
    · have h3i : ((cutL 58 s.data.toList).length : Int) ≠ 3 := by omega
      have h3b : (((cutL 58 s.data.toList).length : Int) == 3) = false := by simpa using h3i
      have hmf : Hid (mf s.data.toList = none) := mf_short (by rw [hcs]; exact h3)
      clear hpc
      have a0 := BA1.c0
      have a1 := BA1.c1
      have a2 := BA1.c2
      have a3 := BA1.c3
      have z0 := BA1.z 0
      have z1 := BA1.z 1
      have z2 := BA1.z 2
      have z3 := BA1.z 3
      have c0 := BB1.c0
      have c1 := BB1.c1
      have c2 := BB1.c2
      have c3 := BB1.c3
      go_wp2
      have BA2 := (((BA1.set0 0).set1 0).set2 0).set3 false
      have BE : Below w.heap.size w ((((w1.setCell ⟨w.heap.size, 0, none⟩ (.int .i64 0)).setCell ⟨w.heap.size, 1, none⟩ (.int .i64 0)).setCell ⟨w.heap.size, 2, none⟩ (.int .i64 0)).setCell ⟨w.heap.size, 3, none⟩ (.bool false)) := (((B1.setCell (Nat.le_refl _) _).setCell (Nat.le_refl _) _).setCell (Nat.le_refl _) _).setCell (Nat.le_refl _) _
      clear a0 a1 a2 a3 z0 z1 z2 z3 c0 c1 c2 c3 BA1 BB1 B1
      generalize ((((w1.setCell ⟨w.heap.size, 0, none⟩ (.int .i64 0)).setCell ⟨w.heap.size, 1, none⟩ (.int .i64 0)).setCell ⟨w.heap.size, 2, none⟩ (.int .i64 0)).setCell ⟨w.heap.size, 3, none⟩ (.bool false)) = w2 at *
      have a0 := BA2.c0
      have a1 := BA2.c1
      have a2 := BA2.c2
      have a3 := BA2.c3
      exact bodyPost_ret (v := .tuple #[.agg #[.int .i64 0, .int .i64 0, .int .i64 0, .bool false], .bool false]) (by simp [results, Tryz.results76, go_sem, a0, a1, a2, a3]) rfl (Rd1.of ⟨0, 0, 0, false⟩ false rfl hmf BE)
  · have h0' : (0 : Int) < (s.size : Int) := by omega
    have hbt := byt_at s (s.size - 1) (by omega)
    have hgl : s.data.toList.getLast? = some (byt s (s.size - 1)) := by
      rw [List.getLast?_eq_getElem?, hL, ← hbt, List.getElem?_eq_getElem (by omega)]
      rfl
    by_cases hq : byt s (s.size - 1) = 42
    · have hq1 : s[s.size - 1].toNat = 42 := by rw [hbt, hq]; rfl
      have hm : mst s.data.toList = true := by unfold mst; rw [hgl, hq]; rfl
      have hcs : (if mst s.data.toList = true then s.data.toList.dropLast else s.data.toList) = (s.extract 0 (s.size - 1)).data.toList := by
        rw [hm, if_pos rfl, ext_list, List.dropLast_eq_take, hL]
        simp
      have ht : (s.extract 0 (s.size - 1)).size ≤ 1048576 := by
        rw [ByteArray.size_extract]
        omega
      clear hbt hgl hq
      go_enter Tryz.func76, Tryz.ntmps76
      go_wp2_with fail
      generalize s.extract 0 (s.size - 1) = t at *
      have BA : Bx ((w.alloc (.cells #[.int .i64 0, .int .i64 0, .int .i64 0, .bool false] 53)).alloc (.cells #[.int .i64 0, .int .i64 0, .int .i64 0, .bool true] 53)) w.heap.size ⟨0, 0, 0, false⟩ := ⟨by simp; omega, by simp, by simp, by simp, by simp, fun k => by simp⟩
      have BB : Bx ((w.alloc (.cells #[.int .i64 0, .int .i64 0, .int .i64 0, .bool false] 53)).alloc (.cells #[.int .i64 0, .int .i64 0, .int .i64 0, .bool true] 53)) (w.heap.size + 1) ⟨0, 0, 0, true⟩ := ⟨by simp, by simp, by simp, by simp, by simp, fun k => by simp⟩
      have B0 : Below w.heap.size w ((w.alloc (.cells #[.int .i64 0, .int .i64 0, .int .i64 0, .bool false] 53)).alloc (.cells #[.int .i64 0, .int .i64 0, .int .i64 0, .bool true] 53)) := balloc _ (balloc _ (Below.refl _ _))
      have hw0 : w.heap.size + 2 ≤ ((w.alloc (.cells #[.int .i64 0, .int .i64 0, .int .i64 0, .bool false] 53)).alloc (.cells #[.int .i64 0, .int .i64 0, .int .i64 0, .bool true] 53)).heap.size := by simp
      generalize ((w.alloc (.cells #[.int .i64 0, .int .i64 0, .int .i64 0, .bool false] 53)).alloc (.cells #[.int .i64 0, .int .i64 0, .int .i64 0, .bool true] 53)) = w0 at *
      refine (scut_lit t 58 58 rfl ht _).mono ?_
      rintro _ w1 ⟨v, rfl, hown, b1⟩
      have B1 := btrans B0 b1
      have BA1 := BA.below b1
      have BB1 := BB.below b1
      clear B0 b1 BA BB
      obtain ⟨pb, cap, rfl, hp1, hp2, hp3, hpc⟩ := cut_at (cutL_ne _ _) hown
      clear hown
      by_cases h3 : (cutL 58 t.data.toList).length = 3
      · obtain ⟨pa, pbb, pc, e3⟩ := threeP h3
        rw [e3] at hpc
        have p0 := hpc 0 pa rfl
        have p1 := hpc 1 pbb rfl
        have p2 := hpc 2 pc rfl
        have hmf : Hid (mf s.data.toList = if fok ⟨mnum pa, mnum pbb, wnum pc, true⟩ = true then some ⟨mnum pa, mnum pbb, wnum pc, true⟩ else none) := by
          have := mf_three (hcs.symm ▸ e3)
          rw [hm] at this
          exact this
        have la : (⟨pa.toArray⟩ : ByteArray).size ≤ 1048576 := by
          have := cutL_mem 58 _ pa (by rw [e3]; simp)
          have e4 : t.data.toList.length = t.size := by simp
          show pa.toArray.size ≤ _
          rw [List.size_toArray]
          omega
        have lb : (⟨pbb.toArray⟩ : ByteArray).size ≤ 1048576 := by
          have := cutL_mem 58 _ pbb (by rw [e3]; simp)
          have e4 : t.data.toList.length = t.size := by simp
          show pbb.toArray.size ≤ _
          rw [List.size_toArray]
          omega
        clear hpc e3 hcs
        generalize (cutL 58 t.data.toList).length = n3 at *
        subst h3
        go_wp2_with fail
        refine (snum_any ⟨pa.toArray⟩ _ la).mono ?_
        rintro r w2 ⟨rfl, b2⟩
        have hna : Hid (mnum pa = mnum (⟨pa.toArray⟩ : ByteArray).data.toList) := rfl
        have B2 := btrans B1 b2
        have BA2 := BA1.below b2
        have BB2 := BB1.below b2
        have p12 := keep_below b2 p1
        have p22 := keep_below b2 p2
        have hp22 := Nat.lt_of_lt_of_le hp2 b2.size
        clear B1 BA1 BB1 p0 p1 p2 b2
        have q0 := BB2.c0
        have z0 := BB2.z 0
        generalize mnum (⟨pa.toArray⟩ : ByteArray).data.toList = na at *
        go_wp2_with fail
        have B3 := B2.setCell (p := ⟨w.heap.size + 1, 0, none⟩) (Nat.le_succ _) (.int .i64 na)
        have BA3 : Bx (w2.setCell ⟨w.heap.size + 1, 0, none⟩ (.int .i64 na)) _ _ := BA2.far (by omega)
        have BB3 := BB2.set0 na
        have p13 := (cell_farP (w := w2) (p := ⟨w.heap.size + 1, 0, none⟩) (.int .i64 na) (show pb ≠ w.heap.size + 1 by omega)).trans p12
        have p23 := (cell_farP (w := w2) (p := ⟨w.heap.size + 1, 0, none⟩) (.int .i64 na) (show pb ≠ w.heap.size + 1 by omega)).trans p22
        have hp23 : pb < (w2.setCell ⟨w.heap.size + 1, 0, none⟩ (.int .i64 na)).heap.size := by simpa [World.setCell] using hp22
        clear B2 BA2 BB2 p12 p22 q0 z0 hp22
        generalize w2.setCell ⟨w.heap.size + 1, 0, none⟩ (.int .i64 na) = w3 at *
        refine (snum_any ⟨pbb.toArray⟩ _ lb).mono ?_
        rintro r w4 ⟨rfl, b4⟩
        have hnb : Hid (mnum pbb = mnum (⟨pbb.toArray⟩ : ByteArray).data.toList) := rfl
        have B4 := btrans B3 b4
        have BA4 := BA3.below b4
        have BB4 := BB3.below b4
        have p24 := keep_below b4 p23
        have hp24 := Nat.lt_of_lt_of_le hp23 b4.size
        clear B3 BA3 BB3 p13 p23 b4 hp23
        have q1 := BB4.c1
        have z1 := BB4.z 1
        generalize mnum (⟨pbb.toArray⟩ : ByteArray).data.toList = nb at *
        have B5 := B4.setCell (p := ⟨w.heap.size + 1, 1, none⟩) (Nat.le_succ _) (.int .i64 nb)
        have BA5 : Bx (w4.setCell ⟨w.heap.size + 1, 1, none⟩ (.int .i64 nb)) _ _ := BA4.far (by omega)
        have BB5 := BB4.set1 nb
        have p25 := (cell_farP (w := w4) (p := ⟨w.heap.size + 1, 1, none⟩) (.int .i64 nb) (show pb ≠ w.heap.size + 1 by omega)).trans p24
        have hp25 : pb < (w4.setCell ⟨w.heap.size + 1, 1, none⟩ (.int .i64 nb)).heap.size := by simpa [World.setCell] using hp24
        go_wp2_with fail
        clear B4 BA4 BB4 p24 q1 z1 hp24
        generalize w4.setCell ⟨w.heap.size + 1, 1, none⟩ (.int .i64 nb) = w5 at *
        go_loopw [7] (fun i wr => ∃ k : Nat, i = .int .i64 ((k : Int) + 1) ∧ k ≤ 4 ∧ Bx wr w.heap.size ⟨0, 0, 0, false⟩ ∧ Bx wr (w.heap.size + 1) ⟨na, nb, wst pc k, true⟩ ∧ wr.cell? ⟨pb, 2, none⟩ = some (.string ⟨pc.toArray⟩) ∧ pb < wr.heap.size ∧ Below w.heap.size w wr) (fun i _ => 5 - (intOf i).toNat)
        case atStart => exact ⟨0, rfl, Nat.zero_le _, BA5, BB5, p25, hp25, B5⟩
        case round =>
          obtain ⟨k, rfl, hk, BA6, BB6, p26, hp26, B6⟩ := hrel
          by_cases hlt : k < 4
          · have hk1 : (k : Int) + 1 ≤ 4 := by omega
            have hws : Hid (wst pc (k + 1) = if wordL ((k : Int) + 1) = pc then (k : Int) + 1 else wst pc k) := rfl
            obtain ⟨x, hx⟩ : ∃ x, Hid (bs (wordL ((k : Int) + 1)) = x) := ⟨_, rfl⟩
            have hk0 : (1 : Int) ≤ (k : Int) + 1 := by omega
            have epc : (⟨pc.toArray⟩ : ByteArray).toList = pc := by simp
            by_cases he : wordL ((k : Int) + 1) = pc
            · have hxe : (x.toList == (⟨pc.toArray⟩ : ByteArray).toList) = true := by rw [Lib.bytes_beq_iff, ← hx.out, he]
              have hws1 : Hid (wst pc (k + 1) = (k : Int) + 1) := by unfold Hid; rw [hws.out, if_pos he]
              rw [epc] at hxe
              clear hws he
              go_wp2_with fail
              refine wp_region_held_drew (S := fun w' => w'.cell? ⟨pb, 2, none⟩ = some (.string ⟨pc.toArray⟩)) (by kernel_rfl) ?_ (fun hHeld => ?_)
              · (try dsimp only); ((repeat (first | with_reducible assumption | with_reducible refine keep_drew ?_ | with_reducible refine keep_below (by assumption) ?_)))
              refine tl (i := 0) (oi := { dst := some 47, op := .move (.tmp 7), type := 3, pos := "l3_fact.go:187", after := #[], guard := none }) ?_
              (try simp only [pq])
              refine tl (i := 2) (oi := { dst := some 49, op := .move (.tmp 6), type := 48, pos := "l3_fact.go:187", after := #[], guard := none }) ?_
              (try simp only [pq])
              refine tl (i := 3) (oi := { dst := some 50, op := .indexAddr 48 (.tmp 49) (.const (.int .i64 2)), type := 0, pos := "l3_fact.go:187", after := #[{ on := 2, ground := .data }], guard := none }) ?_
              (try simp only [pq])
              refine tl (i := 4) (oi := { dst := some 51, op := .load 9 (.tmp 50), type := 9, pos := "l3_fact.go:187", after := #[{ on := 3, ground := .data }], guard := none }) ?_
              (try simp only [pq])
              refine wpAnyH_ready (rs := [1]) (by kernel_rfl) (by simp) ?_
              refine AllReadyH.cons (o := { dst := some 48, op := .call { callee := .value (.func 82), args := #[.tmp 47], argTypes := #[3] }, type := 9, pos := "l3_fact.go:187", after := #[{ on := 0, ground := .data }], guard := none }) rfl (fun K hK => ?_) AllReadyH.nil
              go_simp
              refine (sword_lit ((k : Int) + 1) x hk0 hk1 hx.out _).mono ?_; rintro e w7 ⟨rfl, b7⟩
              go_wp2_with fail
              refine hK.out _ _ ?_ (fun hHeld => ?_)
              · (try dsimp only); ((repeat (first | with_reducible assumption | with_reducible refine keep_drew ?_ | with_reducible refine keep_below (by assumption) ?_)))
              clear hK K
              (try simp only [pq])
              refine tl (i := 5) (oi := { dst := some 52, op := .binOp .eql 9 (.tmp 48) (.tmp 51) 9, type := 4, pos := "l3_fact.go:187", after := #[{ on := 1, ground := .data }, { on := 4, ground := .data }], guard := none }) ?_
              (try simp only [pq])
              refine wpAnyH_done (by kernel_rfl) ?_ _
              have B7 := btrans (qd B6) b7
              have BA7 := BA6.drew.below b7
              have BB7 := BB6.drew.below b7
              have p27 := keep_below b7 (keep_drew p26)
              have hp27 := Nat.lt_of_lt_of_le hp26 b7.size
              clear hHeld BA6 BB6 p26 hp26 B6 b7
              have q2 := BB7.c2
              have z2 := BB7.z 2
              have B8 := B7.setCell (p := ⟨w.heap.size + 1, 2, none⟩) (Nat.le_succ _) (.int .i64 ((k : Int) + 1))
              have BA8 : Bx (w7.setCell ⟨w.heap.size + 1, 2, none⟩ (.int .i64 ((k : Int) + 1))) _ _ := BA7.far (by omega)
              have BB8 := BB7.set2 ((k : Int) + 1)
              have p28 := (cell_farP (w := w7) (p := ⟨w.heap.size + 1, 2, none⟩) (.int .i64 ((k : Int) + 1)) (show pb ≠ w.heap.size + 1 by omega)).trans p27
              have hp28 : pb < (w7.setCell ⟨w.heap.size + 1, 2, none⟩ (.int .i64 ((k : Int) + 1))).heap.size := by simpa [World.setCell] using hp27
              go_wp2
              clear q2 z2 BA7 BB7 p27 hp27 B7
              generalize w7.setCell ⟨w.heap.size + 1, 2, none⟩ (.int .i64 ((k : Int) + 1)) = w8 at *
              go_roundw
              case rel => exact ⟨k + 1, by go_num, by omega, BA8, by rw [hws1.out]; exact BB8, p28, hp28, B8⟩
              case measure => simp [intOf]; omega
            · have hxe : (x.toList == (⟨pc.toArray⟩ : ByteArray).toList) = false := by
                rw [Lib.bytes_beq_false_iff, ← hx.out]
                intro e
                exact he (by have := congrArg (fun z => z.data.toList) e; simpa using this)
              have hws1 : Hid (wst pc (k + 1) = wst pc k) := by unfold Hid; rw [hws.out, if_neg he]
              rw [epc] at hxe
              clear hws he
              go_wp2_with fail
              refine wp_region_held_drew (S := fun w' => w'.cell? ⟨pb, 2, none⟩ = some (.string ⟨pc.toArray⟩)) (by kernel_rfl) ?_ (fun hHeld => ?_)
              · (try dsimp only); ((repeat (first | with_reducible assumption | with_reducible refine keep_drew ?_ | with_reducible refine keep_below (by assumption) ?_)))
              refine tl (i := 0) (oi := { dst := some 47, op := .move (.tmp 7), type := 3, pos := "l3_fact.go:187", after := #[], guard := none }) ?_
              (try simp only [pq])
              refine tl (i := 2) (oi := { dst := some 49, op := .move (.tmp 6), type := 48, pos := "l3_fact.go:187", after := #[], guard := none }) ?_
              (try simp only [pq])
              refine tl (i := 3) (oi := { dst := some 50, op := .indexAddr 48 (.tmp 49) (.const (.int .i64 2)), type := 0, pos := "l3_fact.go:187", after := #[{ on := 2, ground := .data }], guard := none }) ?_
              (try simp only [pq])
              refine tl (i := 4) (oi := { dst := some 51, op := .load 9 (.tmp 50), type := 9, pos := "l3_fact.go:187", after := #[{ on := 3, ground := .data }], guard := none }) ?_
              (try simp only [pq])
              refine wpAnyH_ready (rs := [1]) (by kernel_rfl) (by simp) ?_
              refine AllReadyH.cons (o := { dst := some 48, op := .call { callee := .value (.func 82), args := #[.tmp 47], argTypes := #[3] }, type := 9, pos := "l3_fact.go:187", after := #[{ on := 0, ground := .data }], guard := none }) rfl (fun K hK => ?_) AllReadyH.nil
              go_simp
              refine (sword_lit ((k : Int) + 1) x hk0 hk1 hx.out _).mono ?_; rintro e w7 ⟨rfl, b7⟩
              go_wp2_with fail
              refine hK.out _ _ ?_ (fun hHeld => ?_)
              · (try dsimp only); ((repeat (first | with_reducible assumption | with_reducible refine keep_drew ?_ | with_reducible refine keep_below (by assumption) ?_)))
              clear hK K
              (try simp only [pq])
              refine tl (i := 5) (oi := { dst := some 52, op := .binOp .eql 9 (.tmp 48) (.tmp 51) 9, type := 4, pos := "l3_fact.go:187", after := #[{ on := 1, ground := .data }, { on := 4, ground := .data }], guard := none }) ?_
              (try simp only [pq])
              refine wpAnyH_done (by kernel_rfl) ?_ _
              have B7 := btrans (qd B6) b7
              have BA7 := BA6.drew.below b7
              have BB7 := BB6.drew.below b7
              have p27 := keep_below b7 (keep_drew p26)
              have hp27 := Nat.lt_of_lt_of_le hp26 b7.size
              clear hHeld BA6 BB6 p26 hp26 B6 b7
              go_wp2
              go_roundw
              case rel => exact ⟨k + 1, by go_num, by omega, BA7, by rw [hws1.out]; exact BB7, p27, hp27, B7⟩
              case measure => simp [intOf]; omega
          · obtain rfl : k = 4 := by omega
            rw [wst_wnum] at BB6
            obtain ⟨q, hq⟩ : ∃ q, Hid (fok ⟨na, nb, wnum pc, true⟩ = q) := ⟨_, rfl⟩
            rw [hq.out] at hmf
            generalize wnum pc = ws at *
            have c0 := BB6.c0
            have c1 := BB6.c1
            have c2 := BB6.c2
            have c3 := BB6.c3
            dsimp only at c0 c1 c2 c3
            go_wp2_with fail
            refine wp_region_held_drew (S := fun w' => w'.cell? ⟨w.heap.size + 1, 0, none⟩ = some (.int .i64 na) ∧ w'.cell? ⟨w.heap.size + 1, 1, none⟩ = some (.int .i64 nb) ∧ w'.cell? ⟨w.heap.size + 1, 2, none⟩ = some (.int .i64 ws) ∧ w'.cell? ⟨w.heap.size + 1, 3, none⟩ = some (.bool true)) (by kernel_rfl) ?_ (fun hHeld => ?_)
            · (try dsimp only); (refine ⟨?_, ?_, ?_, ?_⟩ <;> (repeat (first | with_reducible assumption | with_reducible refine keep_drew ?_ | with_reducible refine (cell_farP _ (show w.heap.size + 1 ≠ w.heap.size by omega)).trans ?_ | with_reducible refine keep_below (by assumption) ?_)))
            refine tl (i := 0) (oi := { dst := some 55, op := .load 53 (.tmp 4), type := 53, pos := "l3_fact.go:191", after := #[], guard := none }) ?_
            (try simp only [pq])
            refine tl (i := 1) (oi := { dst := some 56, op := .load 53 (.tmp 4), type := 53, pos := "l3_fact.go:191", after := #[], guard := none }) ?_
            (try simp only [pq])
            refine wpAnyH_ready (rs := [2]) (by kernel_rfl) (by simp) ?_
            refine AllReadyH.cons (o := { dst := some 57, op := .call { callee := .value (.func 41), args := #[.tmp 56], argTypes := #[53] }, type := 4, pos := "l3_fact.go:191", after := #[{ on := 1, ground := .data }], guard := none }) rfl (fun K hK => ?_) AllReadyH.nil
            go_simp
            refine (sfok_lit na nb ws true q hq.out _).mono ?_; rintro e w7 ⟨rfl, b7⟩; have BA7 := BA6.drew.below b7; have a0 := BA7.c0; have a1 := BA7.c1; have a2 := BA7.c2; have a3 := BA7.c3; have z0 := BA7.z 0; have z1 := BA7.z 1; have z2 := BA7.z 2; have z3 := BA7.z 3
            go_wp2_with fail
            refine hK.out _ _ ?_ (fun hHeld => ?_)
            · (try dsimp only); (refine ⟨?_, ?_, ?_, ?_⟩ <;> (repeat (first | with_reducible assumption | with_reducible refine keep_drew ?_ | with_reducible refine (cell_farP _ (show w.heap.size + 1 ≠ w.heap.size by omega)).trans ?_ | with_reducible refine keep_below (by assumption) ?_)))
            clear hK K
            (try simp only [pq])
            refine wpAnyH_ready (rs := [3]) (by kernel_rfl) (by simp) ?_
            refine AllReadyH.cons (o := { dst := none, op := .store 53 (.tmp 2) (.tmp 55), type := 0, pos := "l3_fact.go:191", after := #[{ on := 0, ground := .data }, { on := 2, ground := .chain }, { on := 0, ground := .phase }, { on := 1, ground := .textOnly .lateStores }, { on := 2, ground := .textOnly .lateStoresUnsure }], guard := none }) rfl (fun K hK => ?_) AllReadyH.nil
            go_simp
            skip
            go_wp2_with fail
            refine hK.out _ _ ?_ (fun hHeld => ?_)
            · (try dsimp only); (refine ⟨?_, ?_, ?_, ?_⟩ <;> (repeat (first | with_reducible assumption | with_reducible refine keep_drew ?_ | with_reducible refine (cell_farP _ (show w.heap.size + 1 ≠ w.heap.size by omega)).trans ?_ | with_reducible refine keep_below (by assumption) ?_)))
            clear hK K
            (try simp only [pq])
            refine tl (i := 4) (oi := { dst := some 3, op := .assign (.tmp 57), type := 4, pos := "l3_fact.go:191", after := #[{ on := 2, ground := .data }, { on := 3, ground := .chain }, { on := 0, ground := .phase }, { on := 1, ground := .phase }, { on := 2, ground := .phase }, { on := 3, ground := .phase }], guard := none }) ?_
            (try simp only [pq])
            refine wpAnyH_done (by kernel_rfl) ?_ _
            have B7 := btrans (qd B6) b7
            have BA8 := (((BA7.set0 na).set1 nb).set2 ws).set3 true
            have BE : Below w.heap.size w ((((w7.setCell ⟨w.heap.size, 0, none⟩ (.int .i64 na)).setCell ⟨w.heap.size, 1, none⟩ (.int .i64 nb)).setCell ⟨w.heap.size, 2, none⟩ (.int .i64 ws)).setCell ⟨w.heap.size, 3, none⟩ (.bool true)) := (((B7.setCell (Nat.le_refl _) _).setCell (Nat.le_refl _) _).setCell (Nat.le_refl _) _).setCell (Nat.le_refl _) _
            clear hHeld a0 a1 a2 a3 z0 z1 z2 z3 c0 c1 c2 c3 BA7 BA6 BB6 B6 B7 b7 p26 hp26
            generalize ((((w7.setCell ⟨w.heap.size, 0, none⟩ (.int .i64 na)).setCell ⟨w.heap.size, 1, none⟩ (.int .i64 nb)).setCell ⟨w.heap.size, 2, none⟩ (.int .i64 ws)).setCell ⟨w.heap.size, 3, none⟩ (.bool true)) = w9 at *
            have a0 := BA8.c0
            have a1 := BA8.c1
            have a2 := BA8.c2
            have a3 := BA8.c3
            go_wp2
            exact bodyPost_ret (v := .tuple #[.agg #[.int .i64 na, .int .i64 nb, .int .i64 ws, .bool true], .bool q]) (by simp [results, Tryz.results76, go_sem, a0, a1, a2, a3]) rfl (Rd1.of ⟨na, nb, ws, true⟩ q rfl hmf.out BE)
      · have h3i : ((cutL 58 t.data.toList).length : Int) ≠ 3 := by omega
        have h3b : (((cutL 58 t.data.toList).length : Int) == 3) = false := by simpa using h3i
        have hmf : Hid (mf s.data.toList = none) := mf_short (by rw [hcs]; exact h3)
        clear hpc
        have a0 := BA1.c0
        have a1 := BA1.c1
        have a2 := BA1.c2
        have a3 := BA1.c3
        have z0 := BA1.z 0
        have z1 := BA1.z 1
        have z2 := BA1.z 2
        have z3 := BA1.z 3
        have c0 := BB1.c0
        have c1 := BB1.c1
        have c2 := BB1.c2
        have c3 := BB1.c3
        go_wp2
        have BA2 := (((BA1.set0 0).set1 0).set2 0).set3 true
        have BE : Below w.heap.size w ((((w1.setCell ⟨w.heap.size, 0, none⟩ (.int .i64 0)).setCell ⟨w.heap.size, 1, none⟩ (.int .i64 0)).setCell ⟨w.heap.size, 2, none⟩ (.int .i64 0)).setCell ⟨w.heap.size, 3, none⟩ (.bool true)) := (((B1.setCell (Nat.le_refl _) _).setCell (Nat.le_refl _) _).setCell (Nat.le_refl _) _).setCell (Nat.le_refl _) _
        clear a0 a1 a2 a3 z0 z1 z2 z3 c0 c1 c2 c3 BA1 BB1 B1
        generalize ((((w1.setCell ⟨w.heap.size, 0, none⟩ (.int .i64 0)).setCell ⟨w.heap.size, 1, none⟩ (.int .i64 0)).setCell ⟨w.heap.size, 2, none⟩ (.int .i64 0)).setCell ⟨w.heap.size, 3, none⟩ (.bool true)) = w2 at *
        have a0 := BA2.c0
        have a1 := BA2.c1
        have a2 := BA2.c2
        have a3 := BA2.c3
        exact bodyPost_ret (v := .tuple #[.agg #[.int .i64 0, .int .i64 0, .int .i64 0, .bool true], .bool false]) (by simp [results, Tryz.results76, go_sem, a0, a1, a2, a3]) rfl (Rd1.of ⟨0, 0, 0, true⟩ false rfl hmf BE)
    · have hq1 : ¬ s[s.size - 1].toNat = 42 := by
        rw [hbt]
        exact fun e => hq (UInt8.toNat_inj.1 e)
      have hm : mst s.data.toList = false := by
        unfold mst
        rw [hgl]
        simpa using hq
      have hcs : (if mst s.data.toList = true then s.data.toList.dropLast else s.data.toList) = s.data.toList := by rw [hm]; rfl
      have ht : s.size ≤ 1048576 := hs
      clear hbt hgl hq
      go_enter Tryz.func76, Tryz.ntmps76
      go_wp2_with fail
      have BA : Bx ((w.alloc (.cells #[.int .i64 0, .int .i64 0, .int .i64 0, .bool false] 53)).alloc (.cells #[.int .i64 0, .int .i64 0, .int .i64 0, .bool false] 53)) w.heap.size ⟨0, 0, 0, false⟩ := ⟨by simp; omega, by simp, by simp, by simp, by simp, fun k => by simp⟩
      have BB : Bx ((w.alloc (.cells #[.int .i64 0, .int .i64 0, .int .i64 0, .bool false] 53)).alloc (.cells #[.int .i64 0, .int .i64 0, .int .i64 0, .bool false] 53)) (w.heap.size + 1) ⟨0, 0, 0, false⟩ := ⟨by simp, by simp, by simp, by simp, by simp, fun k => by simp⟩
      have B0 : Below w.heap.size w ((w.alloc (.cells #[.int .i64 0, .int .i64 0, .int .i64 0, .bool false] 53)).alloc (.cells #[.int .i64 0, .int .i64 0, .int .i64 0, .bool false] 53)) := balloc _ (balloc _ (Below.refl _ _))
      have hw0 : w.heap.size + 2 ≤ ((w.alloc (.cells #[.int .i64 0, .int .i64 0, .int .i64 0, .bool false] 53)).alloc (.cells #[.int .i64 0, .int .i64 0, .int .i64 0, .bool false] 53)).heap.size := by simp
      generalize ((w.alloc (.cells #[.int .i64 0, .int .i64 0, .int .i64 0, .bool false] 53)).alloc (.cells #[.int .i64 0, .int .i64 0, .int .i64 0, .bool false] 53)) = w0 at *
      refine (scut_lit s 58 58 rfl ht _).mono ?_
      rintro _ w1 ⟨v, rfl, hown, b1⟩
      have B1 := btrans B0 b1
      have BA1 := BA.below b1
      have BB1 := BB.below b1
      clear B0 b1 BA BB
      obtain ⟨pb, cap, rfl, hp1, hp2, hp3, hpc⟩ := cut_at (cutL_ne _ _) hown
      clear hown
      by_cases h3 : (cutL 58 s.data.toList).length = 3
      · obtain ⟨pa, pbb, pc, e3⟩ := threeP h3
        rw [e3] at hpc
        have p0 := hpc 0 pa rfl
        have p1 := hpc 1 pbb rfl
        have p2 := hpc 2 pc rfl
        have hmf : Hid (mf s.data.toList = if fok ⟨mnum pa, mnum pbb, wnum pc, false⟩ = true then some ⟨mnum pa, mnum pbb, wnum pc, false⟩ else none) := by
          have := mf_three (hcs.symm ▸ e3)
          rw [hm] at this
          exact this
        have la : (⟨pa.toArray⟩ : ByteArray).size ≤ 1048576 := by
          have := cutL_mem 58 _ pa (by rw [e3]; simp)
          have e4 : s.data.toList.length = s.size := by simp
          show pa.toArray.size ≤ _
          rw [List.size_toArray]
          omega
        have lb : (⟨pbb.toArray⟩ : ByteArray).size ≤ 1048576 := by
          have := cutL_mem 58 _ pbb (by rw [e3]; simp)
          have e4 : s.data.toList.length = s.size := by simp
          show pbb.toArray.size ≤ _
          rw [List.size_toArray]
          omega
        clear hpc e3 hcs
        generalize (cutL 58 s.data.toList).length = n3 at *
        subst h3
        go_wp2_with fail
        refine (snum_any ⟨pa.toArray⟩ _ la).mono ?_
        rintro r w2 ⟨rfl, b2⟩
        have hna : Hid (mnum pa = mnum (⟨pa.toArray⟩ : ByteArray).data.toList) := rfl
        have B2 := btrans B1 b2
        have BA2 := BA1.below b2
        have BB2 := BB1.below b2
        have p12 := keep_below b2 p1
        have p22 := keep_below b2 p2
        have hp22 := Nat.lt_of_lt_of_le hp2 b2.size
        clear B1 BA1 BB1 p0 p1 p2 b2
        have q0 := BB2.c0
        have z0 := BB2.z 0
        generalize mnum (⟨pa.toArray⟩ : ByteArray).data.toList = na at *
        go_wp2_with fail
        have B3 := B2.setCell (p := ⟨w.heap.size + 1, 0, none⟩) (Nat.le_succ _) (.int .i64 na)
        have BA3 : Bx (w2.setCell ⟨w.heap.size + 1, 0, none⟩ (.int .i64 na)) _ _ := BA2.far (by omega)
        have BB3 := BB2.set0 na
        have p13 := (cell_farP (w := w2) (p := ⟨w.heap.size + 1, 0, none⟩) (.int .i64 na) (show pb ≠ w.heap.size + 1 by omega)).trans p12
        have p23 := (cell_farP (w := w2) (p := ⟨w.heap.size + 1, 0, none⟩) (.int .i64 na) (show pb ≠ w.heap.size + 1 by omega)).trans p22
        have hp23 : pb < (w2.setCell ⟨w.heap.size + 1, 0, none⟩ (.int .i64 na)).heap.size := by simpa [World.setCell] using hp22
        clear B2 BA2 BB2 p12 p22 q0 z0 hp22
        generalize w2.setCell ⟨w.heap.size + 1, 0, none⟩ (.int .i64 na) = w3 at *
        refine (snum_any ⟨pbb.toArray⟩ _ lb).mono ?_
        rintro r w4 ⟨rfl, b4⟩
        have hnb : Hid (mnum pbb = mnum (⟨pbb.toArray⟩ : ByteArray).data.toList) := rfl
        have B4 := btrans B3 b4
        have BA4 := BA3.below b4
        have BB4 := BB3.below b4
        have p24 := keep_below b4 p23
        have hp24 := Nat.lt_of_lt_of_le hp23 b4.size
        clear B3 BA3 BB3 p13 p23 b4 hp23
        have q1 := BB4.c1
        have z1 := BB4.z 1
        generalize mnum (⟨pbb.toArray⟩ : ByteArray).data.toList = nb at *
        have B5 := B4.setCell (p := ⟨w.heap.size + 1, 1, none⟩) (Nat.le_succ _) (.int .i64 nb)
        have BA5 : Bx (w4.setCell ⟨w.heap.size + 1, 1, none⟩ (.int .i64 nb)) _ _ := BA4.far (by omega)
        have BB5 := BB4.set1 nb
        have p25 := (cell_farP (w := w4) (p := ⟨w.heap.size + 1, 1, none⟩) (.int .i64 nb) (show pb ≠ w.heap.size + 1 by omega)).trans p24
        have hp25 : pb < (w4.setCell ⟨w.heap.size + 1, 1, none⟩ (.int .i64 nb)).heap.size := by simpa [World.setCell] using hp24
        go_wp2_with fail
        clear B4 BA4 BB4 p24 q1 z1 hp24
        generalize w4.setCell ⟨w.heap.size + 1, 1, none⟩ (.int .i64 nb) = w5 at *
        go_loopw [7] (fun i wr => ∃ k : Nat, i = .int .i64 ((k : Int) + 1) ∧ k ≤ 4 ∧ Bx wr w.heap.size ⟨0, 0, 0, false⟩ ∧ Bx wr (w.heap.size + 1) ⟨na, nb, wst pc k, false⟩ ∧ wr.cell? ⟨pb, 2, none⟩ = some (.string ⟨pc.toArray⟩) ∧ pb < wr.heap.size ∧ Below w.heap.size w wr) (fun i _ => 5 - (intOf i).toNat)
        case atStart => exact ⟨0, rfl, Nat.zero_le _, BA5, BB5, p25, hp25, B5⟩
        case round =>
          obtain ⟨k, rfl, hk, BA6, BB6, p26, hp26, B6⟩ := hrel
          by_cases hlt : k < 4
          · have hk1 : (k : Int) + 1 ≤ 4 := by omega
            have hws : Hid (wst pc (k + 1) = if wordL ((k : Int) + 1) = pc then (k : Int) + 1 else wst pc k) := rfl
            obtain ⟨x, hx⟩ : ∃ x, Hid (bs (wordL ((k : Int) + 1)) = x) := ⟨_, rfl⟩
            have hk0 : (1 : Int) ≤ (k : Int) + 1 := by omega
            have epc : (⟨pc.toArray⟩ : ByteArray).toList = pc := by simp
            by_cases he : wordL ((k : Int) + 1) = pc
            · have hxe : (x.toList == (⟨pc.toArray⟩ : ByteArray).toList) = true := by rw [Lib.bytes_beq_iff, ← hx.out, he]
              have hws1 : Hid (wst pc (k + 1) = (k : Int) + 1) := by unfold Hid; rw [hws.out, if_pos he]
              rw [epc] at hxe
              clear hws he
              go_wp2_with fail
              refine wp_region_held_drew (S := fun w' => w'.cell? ⟨pb, 2, none⟩ = some (.string ⟨pc.toArray⟩)) (by kernel_rfl) ?_ (fun hHeld => ?_)
              · (try dsimp only); ((repeat (first | with_reducible assumption | with_reducible refine keep_drew ?_ | with_reducible refine keep_below (by assumption) ?_)))
              refine tl (i := 0) (oi := { dst := some 47, op := .move (.tmp 7), type := 3, pos := "l3_fact.go:187", after := #[], guard := none }) ?_
              (try simp only [pq])
              refine tl (i := 2) (oi := { dst := some 49, op := .move (.tmp 6), type := 48, pos := "l3_fact.go:187", after := #[], guard := none }) ?_
              (try simp only [pq])
              refine tl (i := 3) (oi := { dst := some 50, op := .indexAddr 48 (.tmp 49) (.const (.int .i64 2)), type := 0, pos := "l3_fact.go:187", after := #[{ on := 2, ground := .data }], guard := none }) ?_
              (try simp only [pq])
              refine tl (i := 4) (oi := { dst := some 51, op := .load 9 (.tmp 50), type := 9, pos := "l3_fact.go:187", after := #[{ on := 3, ground := .data }], guard := none }) ?_
              (try simp only [pq])
              refine wpAnyH_ready (rs := [1]) (by kernel_rfl) (by simp) ?_
              refine AllReadyH.cons (o := { dst := some 48, op := .call { callee := .value (.func 82), args := #[.tmp 47], argTypes := #[3] }, type := 9, pos := "l3_fact.go:187", after := #[{ on := 0, ground := .data }], guard := none }) rfl (fun K hK => ?_) AllReadyH.nil
              go_simp
              refine (sword_lit ((k : Int) + 1) x hk0 hk1 hx.out _).mono ?_; rintro e w7 ⟨rfl, b7⟩
              go_wp2_with fail
              refine hK.out _ _ ?_ (fun hHeld => ?_)
              · (try dsimp only); ((repeat (first | with_reducible assumption | with_reducible refine keep_drew ?_ | with_reducible refine keep_below (by assumption) ?_)))
              clear hK K
              (try simp only [pq])
              refine tl (i := 5) (oi := { dst := some 52, op := .binOp .eql 9 (.tmp 48) (.tmp 51) 9, type := 4, pos := "l3_fact.go:187", after := #[{ on := 1, ground := .data }, { on := 4, ground := .data }], guard := none }) ?_
              (try simp only [pq])
              refine wpAnyH_done (by kernel_rfl) ?_ _
              have B7 := btrans (qd B6) b7
              have BA7 := BA6.drew.below b7
              have BB7 := BB6.drew.below b7
              have p27 := keep_below b7 (keep_drew p26)
              have hp27 := Nat.lt_of_lt_of_le hp26 b7.size
              clear hHeld BA6 BB6 p26 hp26 B6 b7
              have q2 := BB7.c2
              have z2 := BB7.z 2
              have B8 := B7.setCell (p := ⟨w.heap.size + 1, 2, none⟩) (Nat.le_succ _) (.int .i64 ((k : Int) + 1))
              have BA8 : Bx (w7.setCell ⟨w.heap.size + 1, 2, none⟩ (.int .i64 ((k : Int) + 1))) _ _ := BA7.far (by omega)
              have BB8 := BB7.set2 ((k : Int) + 1)
              have p28 := (cell_farP (w := w7) (p := ⟨w.heap.size + 1, 2, none⟩) (.int .i64 ((k : Int) + 1)) (show pb ≠ w.heap.size + 1 by omega)).trans p27
              have hp28 : pb < (w7.setCell ⟨w.heap.size + 1, 2, none⟩ (.int .i64 ((k : Int) + 1))).heap.size := by simpa [World.setCell] using hp27
              go_wp2
              clear q2 z2 BA7 BB7 p27 hp27 B7
              generalize w7.setCell ⟨w.heap.size + 1, 2, none⟩ (.int .i64 ((k : Int) + 1)) = w8 at *
              go_roundw
              case rel => exact ⟨k + 1, by go_num, by omega, BA8, by rw [hws1.out]; exact BB8, p28, hp28, B8⟩
              case measure => simp [intOf]; omega
            · have hxe : (x.toList == (⟨pc.toArray⟩ : ByteArray).toList) = false := by
                rw [Lib.bytes_beq_false_iff, ← hx.out]
                intro e
                exact he (by have := congrArg (fun z => z.data.toList) e; simpa using this)
              have hws1 : Hid (wst pc (k + 1) = wst pc k) := by unfold Hid; rw [hws.out, if_neg he]
              rw [epc] at hxe
              clear hws he
              go_wp2_with fail
              refine wp_region_held_drew (S := fun w' => w'.cell? ⟨pb, 2, none⟩ = some (.string ⟨pc.toArray⟩)) (by kernel_rfl) ?_ (fun hHeld => ?_)
              · (try dsimp only); ((repeat (first | with_reducible assumption | with_reducible refine keep_drew ?_ | with_reducible refine keep_below (by assumption) ?_)))
              refine tl (i := 0) (oi := { dst := some 47, op := .move (.tmp 7), type := 3, pos := "l3_fact.go:187", after := #[], guard := none }) ?_
              (try simp only [pq])
              refine tl (i := 2) (oi := { dst := some 49, op := .move (.tmp 6), type := 48, pos := "l3_fact.go:187", after := #[], guard := none }) ?_
              (try simp only [pq])
              refine tl (i := 3) (oi := { dst := some 50, op := .indexAddr 48 (.tmp 49) (.const (.int .i64 2)), type := 0, pos := "l3_fact.go:187", after := #[{ on := 2, ground := .data }], guard := none }) ?_
              (try simp only [pq])
              refine tl (i := 4) (oi := { dst := some 51, op := .load 9 (.tmp 50), type := 9, pos := "l3_fact.go:187", after := #[{ on := 3, ground := .data }], guard := none }) ?_
              (try simp only [pq])
              refine wpAnyH_ready (rs := [1]) (by kernel_rfl) (by simp) ?_
              refine AllReadyH.cons (o := { dst := some 48, op := .call { callee := .value (.func 82), args := #[.tmp 47], argTypes := #[3] }, type := 9, pos := "l3_fact.go:187", after := #[{ on := 0, ground := .data }], guard := none }) rfl (fun K hK => ?_) AllReadyH.nil
              go_simp
              refine (sword_lit ((k : Int) + 1) x hk0 hk1 hx.out _).mono ?_; rintro e w7 ⟨rfl, b7⟩
              go_wp2_with fail
              refine hK.out _ _ ?_ (fun hHeld => ?_)
              · (try dsimp only); ((repeat (first | with_reducible assumption | with_reducible refine keep_drew ?_ | with_reducible refine keep_below (by assumption) ?_)))
              clear hK K
              (try simp only [pq])
              refine tl (i := 5) (oi := { dst := some 52, op := .binOp .eql 9 (.tmp 48) (.tmp 51) 9, type := 4, pos := "l3_fact.go:187", after := #[{ on := 1, ground := .data }, { on := 4, ground := .data }], guard := none }) ?_
              (try simp only [pq])
              refine wpAnyH_done (by kernel_rfl) ?_ _
              have B7 := btrans (qd B6) b7
              have BA7 := BA6.drew.below b7
              have BB7 := BB6.drew.below b7
              have p27 := keep_below b7 (keep_drew p26)
              have hp27 := Nat.lt_of_lt_of_le hp26 b7.size
              clear hHeld BA6 BB6 p26 hp26 B6 b7
              go_wp2
              go_roundw
              case rel => exact ⟨k + 1, by go_num, by omega, BA7, by rw [hws1.out]; exact BB7, p27, hp27, B7⟩
              case measure => simp [intOf]; omega
          · obtain rfl : k = 4 := by omega
            rw [wst_wnum] at BB6
            obtain ⟨q, hq⟩ : ∃ q, Hid (fok ⟨na, nb, wnum pc, false⟩ = q) := ⟨_, rfl⟩
            rw [hq.out] at hmf
            generalize wnum pc = ws at *
            have c0 := BB6.c0
            have c1 := BB6.c1
            have c2 := BB6.c2
            have c3 := BB6.c3
            dsimp only at c0 c1 c2 c3
            go_wp2_with fail
            refine wp_region_held_drew (S := fun w' => w'.cell? ⟨w.heap.size + 1, 0, none⟩ = some (.int .i64 na) ∧ w'.cell? ⟨w.heap.size + 1, 1, none⟩ = some (.int .i64 nb) ∧ w'.cell? ⟨w.heap.size + 1, 2, none⟩ = some (.int .i64 ws) ∧ w'.cell? ⟨w.heap.size + 1, 3, none⟩ = some (.bool false)) (by kernel_rfl) ?_ (fun hHeld => ?_)
            · (try dsimp only); (refine ⟨?_, ?_, ?_, ?_⟩ <;> (repeat (first | with_reducible assumption | with_reducible refine keep_drew ?_ | with_reducible refine (cell_farP _ (show w.heap.size + 1 ≠ w.heap.size by omega)).trans ?_ | with_reducible refine keep_below (by assumption) ?_)))
            refine tl (i := 0) (oi := { dst := some 55, op := .load 53 (.tmp 4), type := 53, pos := "l3_fact.go:191", after := #[], guard := none }) ?_
            (try simp only [pq])
            refine tl (i := 1) (oi := { dst := some 56, op := .load 53 (.tmp 4), type := 53, pos := "l3_fact.go:191", after := #[], guard := none }) ?_
            (try simp only [pq])
            refine wpAnyH_ready (rs := [2]) (by kernel_rfl) (by simp) ?_
            refine AllReadyH.cons (o := { dst := some 57, op := .call { callee := .value (.func 41), args := #[.tmp 56], argTypes := #[53] }, type := 4, pos := "l3_fact.go:191", after := #[{ on := 1, ground := .data }], guard := none }) rfl (fun K hK => ?_) AllReadyH.nil
            go_simp
            refine (sfok_lit na nb ws false q hq.out _).mono ?_; rintro e w7 ⟨rfl, b7⟩; have BA7 := BA6.drew.below b7; have a0 := BA7.c0; have a1 := BA7.c1; have a2 := BA7.c2; have a3 := BA7.c3; have z0 := BA7.z 0; have z1 := BA7.z 1; have z2 := BA7.z 2; have z3 := BA7.z 3
            go_wp2_with fail
            refine hK.out _ _ ?_ (fun hHeld => ?_)
            · (try dsimp only); (refine ⟨?_, ?_, ?_, ?_⟩ <;> (repeat (first | with_reducible assumption | with_reducible refine keep_drew ?_ | with_reducible refine (cell_farP _ (show w.heap.size + 1 ≠ w.heap.size by omega)).trans ?_ | with_reducible refine keep_below (by assumption) ?_)))
            clear hK K
            (try simp only [pq])
            refine wpAnyH_ready (rs := [3]) (by kernel_rfl) (by simp) ?_
            refine AllReadyH.cons (o := { dst := none, op := .store 53 (.tmp 2) (.tmp 55), type := 0, pos := "l3_fact.go:191", after := #[{ on := 0, ground := .data }, { on := 2, ground := .chain }, { on := 0, ground := .phase }, { on := 1, ground := .textOnly .lateStores }, { on := 2, ground := .textOnly .lateStoresUnsure }], guard := none }) rfl (fun K hK => ?_) AllReadyH.nil
            go_simp
            skip
            go_wp2_with fail
            refine hK.out _ _ ?_ (fun hHeld => ?_)
            · (try dsimp only); (refine ⟨?_, ?_, ?_, ?_⟩ <;> (repeat (first | with_reducible assumption | with_reducible refine keep_drew ?_ | with_reducible refine (cell_farP _ (show w.heap.size + 1 ≠ w.heap.size by omega)).trans ?_ | with_reducible refine keep_below (by assumption) ?_)))
            clear hK K
            (try simp only [pq])
            refine tl (i := 4) (oi := { dst := some 3, op := .assign (.tmp 57), type := 4, pos := "l3_fact.go:191", after := #[{ on := 2, ground := .data }, { on := 3, ground := .chain }, { on := 0, ground := .phase }, { on := 1, ground := .phase }, { on := 2, ground := .phase }, { on := 3, ground := .phase }], guard := none }) ?_
            (try simp only [pq])
            refine wpAnyH_done (by kernel_rfl) ?_ _
            have B7 := btrans (qd B6) b7
            have BA8 := (((BA7.set0 na).set1 nb).set2 ws).set3 false
            have BE : Below w.heap.size w ((((w7.setCell ⟨w.heap.size, 0, none⟩ (.int .i64 na)).setCell ⟨w.heap.size, 1, none⟩ (.int .i64 nb)).setCell ⟨w.heap.size, 2, none⟩ (.int .i64 ws)).setCell ⟨w.heap.size, 3, none⟩ (.bool false)) := (((B7.setCell (Nat.le_refl _) _).setCell (Nat.le_refl _) _).setCell (Nat.le_refl _) _).setCell (Nat.le_refl _) _
            clear hHeld a0 a1 a2 a3 z0 z1 z2 z3 c0 c1 c2 c3 BA7 BA6 BB6 B6 B7 b7 p26 hp26
            generalize ((((w7.setCell ⟨w.heap.size, 0, none⟩ (.int .i64 na)).setCell ⟨w.heap.size, 1, none⟩ (.int .i64 nb)).setCell ⟨w.heap.size, 2, none⟩ (.int .i64 ws)).setCell ⟨w.heap.size, 3, none⟩ (.bool false)) = w9 at *
            have a0 := BA8.c0
            have a1 := BA8.c1
            have a2 := BA8.c2
            have a3 := BA8.c3
            go_wp2
            exact bodyPost_ret (v := .tuple #[.agg #[.int .i64 na, .int .i64 nb, .int .i64 ws, .bool false], .bool q]) (by simp [results, Tryz.results76, go_sem, a0, a1, a2, a3]) rfl (Rd1.of ⟨na, nb, ws, false⟩ q rfl hmf.out BE)
      · have h3i : ((cutL 58 s.data.toList).length : Int) ≠ 3 := by omega
        have h3b : (((cutL 58 s.data.toList).length : Int) == 3) = false := by simpa using h3i
        have hmf : Hid (mf s.data.toList = none) := mf_short (by rw [hcs]; exact h3)
        clear hpc
        have a0 := BA1.c0
        have a1 := BA1.c1
        have a2 := BA1.c2
        have a3 := BA1.c3
        have z0 := BA1.z 0
        have z1 := BA1.z 1
        have z2 := BA1.z 2
        have z3 := BA1.z 3
        have c0 := BB1.c0
        have c1 := BB1.c1
        have c2 := BB1.c2
        have c3 := BB1.c3
        go_wp2
        have BA2 := (((BA1.set0 0).set1 0).set2 0).set3 false
        have BE : Below w.heap.size w ((((w1.setCell ⟨w.heap.size, 0, none⟩ (.int .i64 0)).setCell ⟨w.heap.size, 1, none⟩ (.int .i64 0)).setCell ⟨w.heap.size, 2, none⟩ (.int .i64 0)).setCell ⟨w.heap.size, 3, none⟩ (.bool false)) := (((B1.setCell (Nat.le_refl _) _).setCell (Nat.le_refl _) _).setCell (Nat.le_refl _) _).setCell (Nat.le_refl _) _
        clear a0 a1 a2 a3 z0 z1 z2 z3 c0 c1 c2 c3 BA1 BB1 B1
        generalize ((((w1.setCell ⟨w.heap.size, 0, none⟩ (.int .i64 0)).setCell ⟨w.heap.size, 1, none⟩ (.int .i64 0)).setCell ⟨w.heap.size, 2, none⟩ (.int .i64 0)).setCell ⟨w.heap.size, 3, none⟩ (.bool false)) = w2 at *
        have a0 := BA2.c0
        have a1 := BA2.c1
        have a2 := BA2.c2
        have a3 := BA2.c3
        exact bodyPost_ret (v := .tuple #[.agg #[.int .i64 0, .int .i64 0, .int .i64 0, .bool false], .bool false]) (by simp [results, Tryz.results76, go_sem, a0, a1, a2, a3]) rfl (Rd1.of ⟨0, 0, 0, false⟩ false rfl hmf BE)
end Go.Proofs.YtibnojbhoepcdaaGreatDoor
