/- A text cut at a byte, and the number that it spells: the model's way. -/
import Derived.Test.YtlebggbbhkiokaaGreatDoorREv
namespace Go.Proofs.YtlebggbbhkiokaaGreatDoor
open Go.ChangeShapes Go.WideShapes Go.ChangeAt Go.RowKit
theorem sin_lit (n : Nat) (lo hi : Int) (q : Bool) (h : inb (n : Int) lo hi = q) (w : World) : Calls Tryz.prog 24 #[.int .i64 (n : Int), .int .i64 lo, .int .i64 hi] w fun e w' => e = .returned (.bool q) ∧ w' = w := h ▸ lin_any (n : Int) lo hi w
/-- texts in memory -/
def svs (l : List (List UInt8)) : List Value := l.map fun x => .string ⟨x.toArray⟩
theorem cutL_last (c x : UInt8) : ∀ a : List UInt8, cutL c (a ++ [x]) = if x = c then cutL c a ++ [[]] else (cutL c a).dropLast ++ [(cutL c a).getLastD [] ++ [x]]
  | [] => by
    by_cases h : x = c <;> simp [cutL, h]
  | y :: r => by
    rw [List.cons_append, cutL, cutL_last c x r, cutL]
    have hn := cutL_ne c r
    cases hc : cutL c r with
    | nil => exact absurd hc hn
    | cons p ps =>
      by_cases hy : y = c
      · by_cases h : x = c
        · simp [hy, h]
        · simp [hy, h]
      · by_cases h : x = c
        · simp [hy, h]
        · cases ps with
          | nil => simp [hy, h]
          | cons q qs => simp [hy, h]
theorem cutL_len (c : UInt8) : ∀ n (s : List UInt8), s.length ≤ n → (cutL c s).length ≤ n + 1
  | n, [], _ => by simp [cutL]
  | 0, x :: r, h => by simp at h
  | n + 1, x :: r, h => by
    have ih := cutL_len c n r (by simp at h; omega)
    rw [cutL]
    split
    · simp; omega
    · split
      · simp
      · next p ps e => rw [e] at ih; simp at ih ⊢; omega
theorem last_back {l : List (List UInt8)} (h : l ≠ []) : l.dropLast ++ [l.getLastD []] = l := by
  cases l with
  | nil => exact absurd rfl h
  | cons a r => rw [List.getLastD_cons, ← List.getLast_eq_getLastD (by simp)]; exact List.dropLast_concat_getLast _
/-- the byte at a place -/
def byt (s : ByteArray) (i : Nat) : UInt8 := s.data.toList[i]?.getD 0
theorem byt_at (s : ByteArray) (k : Nat) (h : k < s.size) : s[k] = byt s k := by
  unfold byt
  have : s.data.toList[k]? = some s[k] := by
    rw [List.getElem?_eq_getElem (by simpa using h)]; rfl
  rw [this]; rfl
theorem byt_drop (s : ByteArray) (k : Nat) (h : k < s.size) : s.data.toList.drop k = byt s k :: s.data.toList.drop (k + 1) := by
  rw [← byt_at s k h]
  exact List.drop_eq_getElem_cons (by simpa using h)
theorem byt_take (s : ByteArray) (k : Nat) (h : k < s.size) : s.data.toList.take (k + 1) = s.data.toList.take k ++ [byt s k] := by
  rw [← byt_at s k h]
  exact List.take_succ_eq_append_getElem (by simpa using h)
theorem ext_list (s : ByteArray) (a b : Nat) : s.extract a b = ⟨((s.data.toList.take b).drop a).toArray⟩ := by
  apply ByteArray.ext
  apply Array.toList_inj.1
  rw [ByteArray.data_extract]
  simp [List.extract_eq_take_drop, List.drop_take]
/-- what is behind the last cut -/
structure Cutting (c : UInt8) (s : ByteArray) (i f : Nat) : Prop where
  le : f ≤ i
  last : (cutL c (s.data.toList.take i)).getLastD [] = (s.data.toList.take i).drop f
set_option maxRecDepth 20000 in
set_option maxHeartbeats 4000000 in
theorem scut_any (s : ByteArray) (c : UInt8) (hs : s.size ≤ 1048576) (w : World) :
    Calls Tryz.prog 9 #[.string s, .int .u8 (c.toNat : Int)] w fun e w' => ∃ v, e = .returned v ∧ w'.ownsRow w.heap.size 9 1 v (cutL c s.data.toList).length (svs (cutL c s.data.toList)) ∧ Below w.heap.size w w' := by
  have hL : s.data.toList.length = s.size := by simp
  obtain ⟨ti, hi, hz0, hz1, hz2⟩ := info_parts (show (Tryz.prog.info? 9).map (fun i => (i.zero, i.size, i.bytes)) = some (some (.string ByteArray.empty), 1, 16) by kernel_rfl)
  go_enter Tryz.func9, Tryz.ntmps9
  go_wp2_with fail
  go_loopw [5, 6, 7] (fun v f i wr => ∃ k g : Nat, i = .int .i64 k ∧ f = .int .i64 g ∧ k ≤ s.size ∧ Cutting c s k g ∧ wr.ownsRow w.heap.size 9 1 v ((cutL c (s.data.toList.take k)).length - 1) (svs (cutL c (s.data.toList.take k)).dropLast) ∧ Below w.heap.size w wr) (fun _ _ i _ => s.size - (intOf i).toNat)
  case atStart => exact ⟨0, 0, rfl, rfl, Nat.zero_le _, ⟨Nat.le_refl _, rfl⟩, World.ownsRow_lit w #[] 0 (Nat.le_refl _) (by unfold maxLen; omega) rfl, balloc _ (Below.refl _ _)⟩
  case round =>
    obtain ⟨k, g, rfl, rfl, hk, hc, hown, hb⟩ := hrel
    have hgk := hc.le
    have hlast := hc.last
    have hne := cutL_ne c (s.data.toList.take k)
    have hlen : (cutL c (s.data.toList.take k)).length ≤ k + 1 := cutL_len c k _ (by simp; omega)
    have hx : s.extract g k = ⟨((s.data.toList.take k).drop g).toArray⟩ := ext_list s g k
    by_cases hlt : k < s.size
    · have hbt := byt_at s k hlt
      have htk := byt_take s k hlt
      have hlt' : (k : Int) < (s.size : Int) := by omega
      by_cases hq : byt s k = c
      · have hq1 : s[k].toNat = c.toNat := by rw [hbt, hq]
        have hcl := cutL_last c (byt s k) (s.data.toList.take k)
        rw [if_pos hq, ← htk] at hcl
        have hsv : Hid (svs (cutL c (s.data.toList.take (k + 1))).dropLast = svs (cutL c (s.data.toList.take k)).dropLast ++ [.string (s.extract g k)]) := by
          unfold Hid
          rw [hcl, List.dropLast_concat, hx, ← hlast]
          conv => lhs; rw [← last_back hne]
          simp [svs]
        have hln : Hid ((cutL c (s.data.toList.take (k + 1))).length - 1 = (cutL c (s.data.toList.take k)).length - 1 + 1) := by
          unfold Hid
          rw [hcl]
          have := List.length_pos_iff.2 hne
          simp
          omega
        have hct : Cutting c s (k + 1) (k + 1) := ⟨Nat.le_refl _, by rw [hcl]; simp⟩
        have hq2 : ((s[k].toNat : Int) == (c.toNat : Int)) = true := by rw [beq_iff_eq]; omega
        have hle : (cutL c (s.data.toList.take k)).length - 1 ≤ 1048576 := by omega
        clear hcl hx hlast hbt hlen hne htk hc
        generalize hxx : s.extract g k = x at *
        generalize (cutL c (s.data.toList.take k)).length - 1 = m at *
        generalize svs (cutL c (s.data.toList.take k)).dropLast = xs at *
        go_wp2_with (at_builtin; refine wpList_append_own _ rfl _ _ 28 rfl w.heap.size 9 ti (.string ByteArray.empty) 1 16 Tryz.underlying28 hi hz0 hz1 hz2 rfl (by decide) _ _ _ rfl (hown.alloc _) ⟨wr.heap.size, 0, none⟩ 1 1 [.string x] rfl rfl ?c1 ?c2 ?c3 ?c4 ?c5 ?_)
        case c1 =>
          intro j u hj
          match j, hj with
          | 0, hj => simp at hj; subst hj; simp [Addr.add]
        case c2 => intro u hu; simp at hu; subst hu; rfl
        case c3 => unfold maxLen; omega
        case c4 => omega
        case c5 => have := hb.size; simp; omega
        · intro v' w4 hown' hgrow _
          have B4 := own_grow (balloc (.cells #[.string x] 9) hb) (by have := hb.size; simp; omega) (hown.alloc _) hgrow
          clear hown hgrow hb
          go_wp2
          go_roundw
          case rel => exact ⟨k + 1, k + 1, by go_num, by go_num, by omega, hct, by rw [hsv.out, hln.out]; exact hown', B4⟩
          case measure => simp [intOf]; omega
      · have hq1 : ¬ s[k].toNat = c.toNat := by rw [hbt]; exact fun e => hq (UInt8.toNat_inj.1 e)
        have hq2 : ((s[k].toNat : Int) == (c.toNat : Int)) = false := by rw [beq_eq_false_iff_ne]; omega
        clear hbt hx
        go_wp2
        go_roundw
        case rel =>
          have hcl := cutL_last c (byt s k) (s.data.toList.take k)
          rw [if_neg hq] at hcl
          refine ⟨k + 1, g, by go_num, rfl, by omega, ⟨by omega, ?_⟩, ?_, hb⟩
          · have hgl : ∀ (a : List (List UInt8)) (b : List UInt8), (a ++ [b]).getLastD [] = b := fun a b => by simp
            rw [htk, hcl, hgl, hlast, List.drop_append_of_le_length (by simp; omega)]
          · rw [htk, hcl]
            simpa using hown
        case measure => simp [intOf]; omega
    · obtain rfl : k = s.size := by omega
      rw [List.take_of_length_le (by omega)] at hown hlast hlen hne hx
      have hx2 : s.extract g s.size = ⟨(s.data.toList.drop g).toArray⟩ := hx
      have hsv : Hid (svs (cutL c s.data.toList) = svs (cutL c s.data.toList).dropLast ++ [.string (s.extract g s.size)]) := by
        unfold Hid
        rw [hx2, ← hlast]
        conv => lhs; rw [← last_back hne]
        simp [svs]
      have hln : Hid ((cutL c s.data.toList).length = (cutL c s.data.toList).length - 1 + 1) := by
        unfold Hid
        have := List.length_pos_iff.2 hne
        omega
      have hle : (cutL c s.data.toList).length - 1 ≤ 1048576 := by omega
      clear hx hx2 hlast hlen hne hc
      generalize hxx : s.extract g s.size = x at *
      generalize (cutL c s.data.toList).length - 1 = m at *
      generalize svs (cutL c s.data.toList).dropLast = xs at *
      go_wp2_with (at_builtin; refine wpList_append_own _ rfl _ _ 28 rfl w.heap.size 9 ti (.string ByteArray.empty) 1 16 Tryz.underlying28 hi hz0 hz1 hz2 rfl (by decide) _ _ _ rfl (hown.alloc _) ⟨wr.heap.size, 0, none⟩ 1 1 [.string x] rfl rfl ?c1 ?c2 ?c3 ?c4 ?c5 ?_)
      case c1 =>
        intro j u hj
        match j, hj with
        | 0, hj => simp at hj; subst hj; simp [Addr.add]
      case c2 => intro u hu; simp at hu; subst hu; rfl
      case c3 => unfold maxLen; omega
      case c4 => omega
      case c5 => have := hb.size; simp; omega
      · intro v' w4 hown' hgrow _
        have B4 := own_grow (balloc (.cells #[.string x] 9) hb) (by have := hb.size; simp; omega) (hown.alloc _) hgrow
        clear hown hgrow hb
        go_wp2
        go_ret
        exact ⟨_, rfl, by rw [hsv.out, hln.out]; exact hown', B4⟩
set_option maxRecDepth 20000 in
set_option maxHeartbeats 4000000 in
theorem snum_any (s : ByteArray) (w : World) (hs : s.size ≤ 1048576) :
    Calls Tryz.prog 15 #[.string s] w fun e w' => e = .returned (.int .i64 (mnum s.data.toList)) ∧ Below w.heap.size w w' := by
  have hL : s.data.toList.length = s.size := by simp
  by_cases h1 : s.size < 1 ∨ 6 < s.size
  · have e1 : mnum s.data.toList = -1 := by
      unfold mnum
      rw [if_pos (by rw [hL]; omega)]
    have hin : Hid (inb (s.size : Int) 1 6 = false) := by
      unfold Hid inb
      rcases h1 with h1 | h1
      · have : ¬ (1 : Int) ≤ (s.size : Int) := by omega
        simp [this]
      · have : ¬ (s.size : Int) ≤ 6 := by omega
        simp [this]
    rw [e1]
    go_enter Tryz.func15, Tryz.ntmps15
    go_wp2_with fail
    refine (sin_lit s.size 1 6 false hin.out _).mono ?_
    rintro r w1 ⟨rfl, rfl⟩
    go_wp2
    go_ret
    exact ⟨rfl, Below.refl _ _⟩
  · have hin : Hid (inb (s.size : Int) 1 6 = true) := by
      unfold Hid inb
      have a1 : (1 : Int) ≤ (s.size : Int) := by omega
      have a2 : (s.size : Int) ≤ 6 := by omega
      simp [a1, a2]
    have h0 : 0 < s.size := by omega
    have hb0 := byt_at s 0 h0
    have hhd : s.data.toList.head? = some (byt s 0) := by
      have := byt_drop s 0 h0
      rw [List.drop_zero] at this
      rw [this]
      rfl
    by_cases h2 : 1 < s.size ∧ byt s 0 = 48
    · have e1 : mnum s.data.toList = -1 := by
        unfold mnum
        rw [if_pos (by rw [hL, hhd, h2.2]; exact .inr (.inr ⟨h2.1, rfl⟩))]
      have hb1 : s[0].toNat = 48 := by rw [hb0, h2.2]; rfl
      have hgt : (1 : Int) < (s.size : Int) := by omega
      rw [e1]
      clear hb0 hhd
      go_enter Tryz.func15, Tryz.ntmps15
      go_wp2_with fail
      refine (sin_lit s.size 1 6 true hin.out _).mono ?_
      rintro r w1 ⟨rfl, rfl⟩
      go_wp2
      go_ret
      exact ⟨rfl, Below.refl _ _⟩
    · have e1 : mnum s.data.toList = mdig 0 s.data.toList := by
        unfold mnum
        rw [if_neg (by rw [hL, hhd]; rintro (h | h | h); · omega
                       · omega
                       · exact h2 ⟨h.1, Option.some.inj h.2⟩)]
      rw [e1]
      clear hhd
      by_cases h3 : 1 < s.size
      · have hb1 : ¬ s[0].toNat = 48 := by
          intro e
          rw [hb0] at e
          exact h2 ⟨h3, UInt8.toNat_inj.1 e⟩
        have hgt : (1 : Int) < (s.size : Int) := by omega
        clear h2 hb0 e1
        go_enter Tryz.func15, Tryz.ntmps15
        go_wp2_with fail
        refine (sin_lit s.size 1 6 true hin.out _).mono ?_
        rintro r w1 ⟨rfl, rfl⟩
        go_wp2
        clear hb1
        go_loopw [3, 4] (fun v i wr => ∃ k acc : Nat, k ≤ s.size ∧ i = .int .i64 k ∧ v = .int .i64 acc ∧ acc + 1 ≤ 10 ^ k ∧ mdig 0 s.data.toList = mdig acc (s.data.toList.drop k) ∧ wr = w1) (fun _ i _ => s.size - (intOf i).toNat)
        case atStart => exact ⟨0, 0, by omega, rfl, rfl, by omega, rfl, rfl⟩
        case round =>
          obtain ⟨k, acc, hk, rfl, rfl, ha, hd, rfl⟩ := hrel
          by_cases hlt : k < s.size
          · have hbt := congrArg UInt8.toNat (byt_at s k hlt)
            have hdr := byt_drop s k hlt
            have hp : 10 ^ k ≤ 10 ^ 5 := Nat.pow_le_pow_right (by omega) (by omega)
            have hp1 : 10 ^ (k + 1) = 10 ^ k * 10 := Nat.pow_succ ..
            have hlt' : (k : Int) < (s.size : Int) := by omega
            rw [hdr, mdig] at hd
            generalize hcv : (byt s k).toNat = cv at *
            have hd' : Hid (mdig 0 s.data.toList = if cv < 48 ∨ 57 < cv then -1 else mdig ((acc : Int) * 10 + ((cv : Int) - 48)) (List.drop (k + 1) s.data.toList)) := hd
            clear hd hdr hcv
            have ha5 : acc < 100000 := by omega
            have ha6 : Hid (acc * 10 + 10 ≤ 10 ^ (k + 1)) := by unfold Hid; omega
            clear hp hp1 ha
            by_cases hc1 : cv < 48
            · have e2 : Hid (mdig 0 s.data.toList = -1) := by unfold Hid; rw [hd'.out, if_pos (.inl hc1)]
              clear hd'
              have hc1' : (cv : Int) < 48 := by omega
              go_wp2
              go_ret
              exact ⟨by rw [e2.out]; rfl, Below.refl _ _⟩
            · by_cases hc2 : 57 < cv
              · have e2 : Hid (mdig 0 s.data.toList = -1) := by unfold Hid; rw [hd'.out, if_pos (.inr hc2)]
                clear hd'
                have hc1' : ¬ (cv : Int) < 48 := by omega
                have hc2' : 57 < (cv : Int) := by omega
                go_wp2
                go_ret
                exact ⟨by rw [e2.out]; rfl, Below.refl _ _⟩
              · have e2 : Hid (mdig 0 s.data.toList = mdig ((acc : Int) * 10 + ((cv : Int) - 48)) (List.drop (k + 1) s.data.toList)) := by unfold Hid; rw [hd'.out, if_neg (by omega)]
                clear hd'
                have hc1' : ¬ (cv : Int) < 48 := by omega
                have hc2' : ¬ 57 < (cv : Int) := by omega
                go_wp2
                go_roundw
                case rel =>
                  refine ⟨k + 1, acc * 10 + (cv - 48), by omega, by go_num, by go_num, by have := ha6.out; omega, ?_, trivial⟩
                  rw [e2.out]
                  congr 1
                  omega
                case measure => simp [intOf]; omega
          · obtain rfl : k = s.size := by omega
            have e2 : Hid (mdig 0 s.data.toList = acc) := by
              unfold Hid
              rw [hd, List.drop_eq_nil_of_le (by omega)]
              rfl
            clear hd ha
            go_wp2
            go_ret
            exact ⟨by rw [e2.out]; rfl, Below.refl _ _⟩
      · have hb1 : ¬ (1 : Int) < (s.size : Int) := by omega
        clear h2 hb0 e1
        go_enter Tryz.func15, Tryz.ntmps15
        go_wp2_with fail
        refine (sin_lit s.size 1 6 true hin.out _).mono ?_
        rintro r w1 ⟨rfl, rfl⟩
        go_wp2
        clear hb1
        go_loopw [3, 4] (fun v i wr => ∃ k acc : Nat, k ≤ s.size ∧ i = .int .i64 k ∧ v = .int .i64 acc ∧ acc + 1 ≤ 10 ^ k ∧ mdig 0 s.data.toList = mdig acc (s.data.toList.drop k) ∧ wr = w1) (fun _ i _ => s.size - (intOf i).toNat)
        case atStart => exact ⟨0, 0, by omega, rfl, rfl, by omega, rfl, rfl⟩
        case round =>
          obtain ⟨k, acc, hk, rfl, rfl, ha, hd, rfl⟩ := hrel
          by_cases hlt : k < s.size
          · have hbt := congrArg UInt8.toNat (byt_at s k hlt)
            have hdr := byt_drop s k hlt
            have hp : 10 ^ k ≤ 10 ^ 5 := Nat.pow_le_pow_right (by omega) (by omega)
            have hp1 : 10 ^ (k + 1) = 10 ^ k * 10 := Nat.pow_succ ..
            have hlt' : (k : Int) < (s.size : Int) := by omega
            rw [hdr, mdig] at hd
            generalize hcv : (byt s k).toNat = cv at *
            have hd' : Hid (mdig 0 s.data.toList = if cv < 48 ∨ 57 < cv then -1 else mdig ((acc : Int) * 10 + ((cv : Int) - 48)) (List.drop (k + 1) s.data.toList)) := hd
            clear hd hdr hcv
            have ha5 : acc < 100000 := by omega
            have ha6 : Hid (acc * 10 + 10 ≤ 10 ^ (k + 1)) := by unfold Hid; omega
            clear hp hp1 ha
            by_cases hc1 : cv < 48
            · have e2 : Hid (mdig 0 s.data.toList = -1) := by unfold Hid; rw [hd'.out, if_pos (.inl hc1)]
              clear hd'
              have hc1' : (cv : Int) < 48 := by omega
              go_wp2
              go_ret
              exact ⟨by rw [e2.out]; rfl, Below.refl _ _⟩
            · by_cases hc2 : 57 < cv
              · have e2 : Hid (mdig 0 s.data.toList = -1) := by unfold Hid; rw [hd'.out, if_pos (.inr hc2)]
                clear hd'
                have hc1' : ¬ (cv : Int) < 48 := by omega
                have hc2' : 57 < (cv : Int) := by omega
                go_wp2
                go_ret
                exact ⟨by rw [e2.out]; rfl, Below.refl _ _⟩
              · have e2 : Hid (mdig 0 s.data.toList = mdig ((acc : Int) * 10 + ((cv : Int) - 48)) (List.drop (k + 1) s.data.toList)) := by unfold Hid; rw [hd'.out, if_neg (by omega)]
                clear hd'
                have hc1' : ¬ (cv : Int) < 48 := by omega
                have hc2' : ¬ 57 < (cv : Int) := by omega
                go_wp2
                go_roundw
                case rel =>
                  refine ⟨k + 1, acc * 10 + (cv - 48), by omega, by go_num, by go_num, by have := ha6.out; omega, ?_, trivial⟩
                  rw [e2.out]
                  congr 1
                  omega
                case measure => simp [intOf]; omega
          · obtain rfl : k = s.size := by omega
            have e2 : Hid (mdig 0 s.data.toList = acc) := by
              unfold Hid
              rw [hd, List.drop_eq_nil_of_le (by omega)]
              rfl
            clear hd ha
            go_wp2
            go_ret
            exact ⟨by rw [e2.out]; rfl, Below.refl _ _⟩
end Go.Proofs.YtlebggbbhkiokaaGreatDoor
