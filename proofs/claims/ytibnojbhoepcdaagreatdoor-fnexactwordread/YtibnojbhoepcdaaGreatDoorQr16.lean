/- Texts of the proof, laid together: SRd1, Rm4. -/
import Derived.Test.YtibnojbhoepcdaaGreatDoorQr14
import Derived.Test.YtibnojbhoepcdaaGreatDoorQr15
import Derived.Test.YtibnojbhoepcdaaGreatDoorQr11
/- A number with a sign, read by the model. -/
namespace Go.Proofs.YtibnojbhoepcdaaGreatDoor
open Go.ChangeShapes Go.WideShapes Go.ChangeAt Go.RowKit
attribute [local go_sem ↓] Go.wp_at_zero Go.wp_at_succ
theorem mdig_rng : ∀ (l : List UInt8) (acc : Int) (k : Nat), 0 ≤ acc → acc < 10 ^ k → -1 ≤ mdig acc l ∧ mdig acc l < 10 ^ (k + l.length)
  | [], acc, k, h0, h1 => ⟨by simp only [mdig]; omega, by simpa [mdig] using h1⟩
  | c :: r, acc, k, h0, h1 => by
    simp only [mdig]
    split
    · have : (0 : Int) < 10 ^ (k + (c :: r).length) := Int.pow_pos (by omega)
      omega
    · next hc =>
      have := mdig_rng r (acc * 10 + ((c.toNat : Int) - 48)) (k + 1) (by omega) (by rw [Int.pow_succ]; omega)
      rw [List.length_cons, show k + (r.length + 1) = k + 1 + r.length by omega]
      exact this
theorem mnum_rng (l : List UInt8) : mnum l < 1000000 ∧ -1 ≤ mnum l := by
  unfold mnum
  split
  · omega
  · next h =>
    have := mdig_rng l 0 0 (by omega) (by decide)
    have h6 : l.length ≤ 6 := by omega
    have h7 : (10 : Int) ^ (0 + l.length) ≤ 10 ^ 6 := by
      rw [Nat.zero_add]
      exact_mod_cast Nat.pow_le_pow_right (by omega) h6
    have : (10 : Int) ^ 6 = 1000000 := by decide
    omega
theorem sread_no {s : ByteArray} {c : UInt8} {r : List UInt8} (h : s.data.toList = c :: r) : byt s 0 = c := by
  unfold byt
  rw [h]
  rfl
set_option maxRecDepth 20000 in
set_option maxHeartbeats 4000000 in
theorem l4read_any (s : ByteArray) (hs : s.size ≤ 1048576) (w : World) :
    Calls Tryz.prog 47 #[.string s] w fun e w' => e = .returned (.tuple #[.int .i64 (msg s.data.toList).1, .bool (msg s.data.toList).2]) ∧ Below w.heap.size w w' := by
  have hL : s.data.toList.length = s.size := by simp
  by_cases h2 : s.size < 2
  · have hm : msg s.data.toList = (-1, false) := by
      match hl : s.data.toList with
      | [] => rfl
      | [c] => simp [msg]
      | c :: d :: r => rw [hl] at hL; simp at hL; omega
    rw [hm]
    have i2 : (s.size : Int) < 2 := by omega
    go_enter Tryz.func47, Tryz.ntmps47
    go_wp2
    go_ret2
    exact ⟨rfl, Below.refl _ _⟩
  · have i2 : ¬ (s.size : Int) < 2 := by omega
    have i0 : 0 < s.size := by omega
    obtain ⟨c, r, hl⟩ : ∃ c r, s.data.toList = c :: r := by
      match hl : s.data.toList with
      | [] => rw [hl] at hL; simp at hL; omega
      | c :: r => exact ⟨c, r, rfl⟩
    have hrn : r ≠ [] := by
      intro e
      rw [hl, e] at hL
      simp at hL
      omega
    have hc0 : s[0] = c := by rw [byt_at s 0 i0, sread_no hl]
    have hx : s.extract 1 s.size = bs r := by
      rw [bs_drop, hl]
      rfl
    have hrl : (bs r).size ≤ 1048576 := by
      show r.length ≤ _
      rw [hl] at hL
      simp at hL
      omega
    have hN := snum_any (bs r) w hrl
    change Calls _ _ _ _ fun e w' => e = .returned (.int .i64 (mnum r)) ∧ _ at hN
    have hmr : ∀ n, mnum r = n → n < 1000000 ∧ -1 ≤ n := fun n e => e ▸ mnum_rng r
    by_cases hc : c = 43 ∨ c = 45
    · obtain ⟨z, hz⟩ : ∃ z, mnum r = z := ⟨_, rfl⟩
      obtain ⟨hz1, hz2⟩ := hmr z hz
      rw [hz] at hN
      clear hmr
      by_cases hzn : z < 0
      · have hm : msg s.data.toList = (-1, false) := by
          rw [hl, msg, if_neg (by rintro (h | ⟨h, h'⟩); exact hrn h; rcases hc with e | e; exact h e; exact h' e), if_pos (Or.inl (by rw [hz]; exact hzn))]
        rw [hm]
        have n12 : (s[0].toNat = 43) ∨ (¬ s[0].toNat = 43 ∧ s[0].toNat = 45) := by
          rw [hc0]
          rcases hc with rfl | rfl
          · exact Or.inl rfl
          · exact Or.inr ⟨by decide, rfl⟩
        clear hm hz hL hl hc0
        rcases n12 with n1 | ⟨n1, n2⟩
        all_goals
          go_enter Tryz.func47, Tryz.ntmps47
          go_wp2_with fail
          refine hN.mono ?_
          rintro e w1 ⟨rfl, b1⟩
          go_wp2
          go_ret2
          exact ⟨rfl, b1⟩
      · by_cases hd : s.data.toList = [45, 48]
        · have hm : msg s.data.toList = (-1, false) := by
            rw [hd]
            rfl
          rw [hm]
          have hq : (s.toList == [45, 48]) = true := by rw [ByteArray.toList_eq, hd]; rfl
          have hc45 : c = 45 := by rw [hd] at hl; exact (List.cons.inj hl).1.symm
          have n1 : ¬ s[0].toNat = 43 := by rw [hc0, hc45]; decide
          have n2 : s[0].toNat = 45 := by rw [hc0, hc45]; rfl
          clear hm hz hL hl hd hc0
          go_enter Tryz.func47, Tryz.ntmps47
          go_wp2_with fail
          refine hN.mono ?_
          rintro e w1 ⟨rfl, b1⟩
          go_wp2
          go_ret2
          exact ⟨rfl, b1⟩
        · have hq : (s.toList == [45, 48]) = false := by rw [beq_eq_false_iff_ne, ByteArray.toList_eq]; exact hd
          have hm : msg s.data.toList = if c = 45 then (-z, true) else (z, true) := by
            rw [hl, msg, if_neg (by rintro (h | ⟨h, h'⟩); exact hrn h; rcases hc with e | e; exact h e; exact h' e), if_neg (by rintro (h | h); (rw [hz] at h; exact hzn h); (exact hd (by rw [hl, h]))), hz]
          rw [hm]
          clear hm hz hL hl hd
          rcases hc with rfl | rfl
          · rw [if_neg (by decide)]
            have n1 : s[0].toNat = 43 := by rw [hc0]; rfl
            clear hc0
            go_enter Tryz.func47, Tryz.ntmps47
            go_wp2_with fail
            refine hN.mono ?_
            rintro e w1 ⟨rfl, b1⟩
            go_wp2
            go_ret2
            exact ⟨rfl, b1⟩
          · rw [if_pos rfl]
            have n1 : ¬ s[0].toNat = 43 := by rw [hc0]; decide
            have n2 : s[0].toNat = 45 := by rw [hc0]; rfl
            clear hc0
            go_enter Tryz.func47, Tryz.ntmps47
            go_wp2_with fail
            refine hN.mono ?_
            rintro e w1 ⟨rfl, b1⟩
            go_wp2
            go_ret2
            exact ⟨rfl, b1⟩
    · have hm : msg s.data.toList = (-1, false) := by
        rw [hl, msg, if_pos (Or.inr (by constructor <;> intro e <;> exact hc (by rw [e]; simp)))]
      rw [hm]
      have n1 : ¬ s[0].toNat = 43 := fun e => hc (Or.inl (by rw [← hc0]; exact UInt8.toNat_inj.1 e))
      have n2 : ¬ s[0].toNat = 45 := fun e => hc (Or.inr (by rw [← hc0]; exact UInt8.toNat_inj.1 e))
      have m1 : ((s[0].toNat : Int) != 43) = true := by rw [bne_iff_ne]; omega
      have m2 : ((s[0].toNat : Int) != 45) = true := by rw [bne_iff_ne]; omega
      clear hm hL hl hmr hN hc0
      go_enter Tryz.func47, Tryz.ntmps47
      go_wp2
      go_ret2
      exact ⟨rfl, Below.refl _ _⟩
end Go.Proofs.YtibnojbhoepcdaaGreatDoor
/- What the model reads in twelve pieces. -/
namespace Go.Proofs.YtibnojbhoepcdaaGreatDoor
def mpool (c : List UInt8) : Int := if c = pool2 then 2 else 1
def kst (c : List UInt8) : Nat → Int
  | 0 => 0
  | k + 1 => if kindL ((k : Int) + 1) = c then (k : Int) + 1 else kst c k
theorem mpool_read {n : Int} (h0 : 1 ≤ n) (h1 : n ≤ 2) : mpool (poolL n) = n := by
  have hs : n = 1 ∨ n = 2 := by omega
  rcases hs with rfl | rfl <;> decide
theorem kst_read {n : Int} (h0 : 1 ≤ n) (h1 : n ≤ 6) : kst (kindL n) 6 = n := by
  have hs : n = 1 ∨ n = 2 ∨ n = 3 ∨ n = 4 ∨ n = 5 ∨ n = 6 := by omega
  rcases hs with rfl | rfl | rfl | rfl | rfl | rfl <;> decide
/-- what the model makes of pieces -/
def mdW (a0 a1 a2 a3 a4 a5 a6 a7 a8 a9 : List UInt8) (T : List Fc) : Wd := ⟨mpool a0, kst a1 6, mnum a2, mnum a3, mnum a4, mnum a5, (msg a6).1, (msg a7).1, mnum a8, mnum a9, T⟩
theorem twelve {l : List (List UInt8)} (h : l.length = 12) : ∃ a0 a1 a2 a3 a4 a5 a6 a7 a8 a9 a10 a11, l = [a0, a1, a2, a3, a4, a5, a6, a7, a8, a9, a10, a11] := by
  match l, h with
  | [a0, a1, a2, a3, a4, a5, a6, a7, a8, a9, a10, a11], _ => exact ⟨a0, a1, a2, a3, a4, a5, a6, a7, a8, a9, a10, a11, rfl⟩
theorem nowd_short {s : List UInt8} (h : (cutL 32 s).length ≠ 12) : NoWd s := fun W hW e => by
  apply h
  rw [e, cut_txt hW]
  rfl
/-- a text that is a word's is read as that word -/
theorem md_back {s a0 a1 a2 a3 a4 a5 a6 a7 a8 a9 a10 a11 : List UInt8} (hc : cutL 32 s = [a0, a1, a2, a3, a4, a5, a6, a7, a8, a9, a10, a11]) {V : Wd} (hv : V.ok = true) (e : s = V.txt) :
    (msg a6).2 = true ∧ (msg a7).2 = true ∧ mt a10 = some V.T ∧ mdW a0 a1 a2 a3 a4 a5 a6 a7 a8 a9 V.T = V := by
  have h1 := cut_txt hv
  rw [← e, hc] at h1
  unfold Wd.pcs at h1
  simp only [List.cons_append, List.nil_append, List.cons.injEq, and_true] at h1
  obtain ⟨rfl, rfl, rfl, rfl, rfl, rfl, rfl, rfl, rfl, rfl, rfl, -⟩ := h1
  obtain ⟨b0, b1, b2, b3, b4, b5, b6, b7, b8, b9, b10, b11, b12, b13, b14, b15, b16, b17, b18, b19, b20⟩ := ok_facts hv
  refine ⟨by rw [msg_sgn (by omega) (by omega)], by rw [msg_sgn (by omega) (by omega)], (say_pt b20 rfl).2, ?_⟩
  unfold mdW
  rw [mpool_read b0 b1, kst_read b2 b3, mnum_itoa6 b4 (by omega), mnum_itoa6 b6 (by omega), mnum_itoa6 b8 (by omega), mnum_itoa6 b10 (by omega), msg_sgn (by omega) (by omega), msg_sgn (by omega) (by omega), mnum_itoa6 b16 (by omega), mnum_itoa6 (by omega) (by omega)]
theorem cut_long {s : List UInt8} (h : (cutL 32 s).length = 12) : s ≠ [] := by
  intro e
  rw [e] at h
  cases h
/-- what is written again as it was is that word -/
theorem md_yes {s : ByteArray} (h : (cutL 32 s.data.toList).length = 12) {W : Wd} (e : W.tx = s) : W.ok = true ∧ s.data.toList = W.txt := by
  cases hok : W.ok
  · rw [wtx_no hok] at e
    exact absurd (by rw [← e]) (cut_long h)
  · rw [wtx_ok hok] at e
    exact ⟨rfl, by rw [← e]⟩
theorem md_no {s : ByteArray} {a0 a1 a2 a3 a4 a5 a6 a7 a8 a9 a10 a11 : List UInt8} (hc : cutL 32 s.data.toList = [a0, a1, a2, a3, a4, a5, a6, a7, a8, a9, a10, a11]) {T : List Fc} {q : Bool} (hT : mt a10 = if q = true then some T else none) (h : ¬ ((msg a6).2 = true ∧ (msg a7).2 = true ∧ q = true ∧ (mdW a0 a1 a2 a3 a4 a5 a6 a7 a8 a9 T).tx = s)) : NoWd s.data.toList := by
  intro V hv e
  obtain ⟨h6, h7, ht, hW⟩ := md_back hc hv e
  rw [ht] at hT
  cases q
  · rw [if_neg (by simp)] at hT
    cases hT
  · rw [if_pos rfl] at hT
    injection hT with hT
    subst hT
    apply h
    refine ⟨h6, h7, rfl, ?_⟩
    rw [hW, wtx_ok hv, ← e]
end Go.Proofs.YtibnojbhoepcdaaGreatDoor
