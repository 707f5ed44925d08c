/- Texts of the proof, laid together: SRd1, Rm4, Lm1, LWs. -/
import Derived.Test.YtibnojbhoepcdaaGreatDoorQs15
import Derived.Test.YtibnojbhoepcdaaGreatDoorQs21
import Derived.Test.YtibnojbhoepcdaaGreatDoorQs12
import Derived.Test.YtibnojbhoepcdaaGreatDoorQs19
/- A number with a sign, read by the model. -/
namespace Go.Proofs.YtibnojbhoepcdaaGreatDoor
open Go.ChangeShapes Go.WideShapes Go.ChangeAt Go.RowKit
attribute [local go_sem ↓] Go.wp_at_zero Go.wp_at_succ
theorem mdig_rng : ∀ (l : List UInt8) (acc : Int) (k : Nat), 0 ≤ acc → acc < 10 ^ k → -1 ≤ mdig acc l ∧ mdig acc l < 10 ^ (k + l.length)
  | [], acc, k, h0, h1 => ⟨by simp only [mdig]; omega, by simpa [mdig] using h1⟩
  | c :: r, acc, k, h0, h1 => by
    simp only [mdig]
    split
    · have : (0 : Int) < 10 ^ (k + (c :: r).length) := Int.pow_pos (by omega)
      omega
    · next hc =>
      have := mdig_rng r (acc * 10 + ((c.toNat : Int) - 48)) (k + 1) (by omega) (by rw [Int.pow_succ]; omega)
      rw [List.length_cons, show k + (r.length + 1) = k + 1 + r.length by omega]
      exact this
theorem mnum_rng (l : List UInt8) : mnum l < 1000000 ∧ -1 ≤ mnum l := by
  unfold mnum
  split
  · omega
  · next h =>
    have := mdig_rng l 0 0 (by omega) (by decide)
    have h6 : l.length ≤ 6 := by omega
    have h7 : (10 : Int) ^ (0 + l.length) ≤ 10 ^ 6 := by
      rw [Nat.zero_add]
      exact_mod_cast Nat.pow_le_pow_right (by omega) h6
    have : (10 : Int) ^ 6 = 1000000 := by decide
    omega
theorem sread_no {s : ByteArray} {c : UInt8} {r : List UInt8} (h : s.data.toList = c :: r) : byt s 0 = c := by
  unfold byt
  rw [h]
  rfl
set_option maxRecDepth 20000 in
set_option maxHeartbeats 4000000 in
theorem l4read_any (s : ByteArray) (hs : s.size ≤ 1048576) (w : World) :
    Calls Tryz.prog 47 #[.string s] w fun e w' => e = .returned (.tuple #[.int .i64 (msg s.data.toList).1, .bool (msg s.data.toList).2]) ∧ Below w.heap.size w w' := by
  have hL : s.data.toList.length = s.size := by simp
  by_cases h2 : s.size < 2
  · have hm : msg s.data.toList = (-1, false) := by
      match hl : s.data.toList with
      | [] => rfl
      | [c] => simp [msg]
      | c :: d :: r => rw [hl] at hL; simp at hL; omega
    rw [hm]
    have i2 : (s.size : Int) < 2 := by omega
    go_enter Tryz.func47, Tryz.ntmps47
    go_wp2
    go_ret2
    exact ⟨rfl, Below.refl _ _⟩
  · have i2 : ¬ (s.size : Int) < 2 := by omega
    have i0 : 0 < s.size := by omega
    obtain ⟨c, r, hl⟩ : ∃ c r, s.data.toList = c :: r := by
      match hl : s.data.toList with
      | [] => rw [hl] at hL; simp at hL; omega
      | c :: r => exact ⟨c, r, rfl⟩
    have hrn : r ≠ [] := by
      intro e
      rw [hl, e] at hL
      simp at hL
      omega
    have hc0 : s[0] = c := by rw [byt_at s 0 i0, sread_no hl]
    have hx : s.extract 1 s.size = bs r := by
      rw [bs_drop, hl]
      rfl
    have hrl : (bs r).size ≤ 1048576 := by
      show r.length ≤ _
      rw [hl] at hL
      simp at hL
      omega
    have hN := snum_any (bs r) w hrl
    change Calls _ _ _ _ fun e w' => e = .returned (.int .i64 (mnum r)) ∧ _ at hN
    have hmr : ∀ n, mnum r = n → n < 1000000 ∧ -1 ≤ n := fun n e => e ▸ mnum_rng r
    by_cases hc : c = 43 ∨ c = 45
    · obtain ⟨z, hz⟩ : ∃ z, mnum r = z := ⟨_, rfl⟩
      obtain ⟨hz1, hz2⟩ := hmr z hz
      rw [hz] at hN
      clear hmr
      by_cases hzn : z < 0
      · have hm : msg s.data.toList = (-1, false) := by
          rw [hl, msg, if_neg (by rintro (h | ⟨h, h'⟩); exact hrn h; rcases hc with e | e; exact h e; exact h' e), if_pos (Or.inl (by rw [hz]; exact hzn))]
        rw [hm]
        have n12 : (s[0].toNat = 43) ∨ (¬ s[0].toNat = 43 ∧ s[0].toNat = 45) := by
          rw [hc0]
          rcases hc with rfl | rfl
          · exact Or.inl rfl
          · exact Or.inr ⟨by decide, rfl⟩
        clear hm hz hL hl hc0
        rcases n12 with n1 | ⟨n1, n2⟩
        all_goals
          go_enter Tryz.func47, Tryz.ntmps47
          go_wp2_with fail
          refine hN.mono ?_
          rintro e w1 ⟨rfl, b1⟩
          go_wp2
          go_ret2
          exact ⟨rfl, b1⟩
      · by_cases hd : s.data.toList = [45, 48]
        · have hm : msg s.data.toList = (-1, false) := by
            rw [hd]
            rfl
          rw [hm]
          have hq : (s.toList == [45, 48]) = true := by rw [ByteArray.toList_eq, hd]; rfl
          have hc45 : c = 45 := by rw [hd] at hl; exact (List.cons.inj hl).1.symm
          have n1 : ¬ s[0].toNat = 43 := by rw [hc0, hc45]; decide
          have n2 : s[0].toNat = 45 := by rw [hc0, hc45]; rfl
          clear hm hz hL hl hd hc0
          go_enter Tryz.func47, Tryz.ntmps47
          go_wp2_with fail
          refine hN.mono ?_
          rintro e w1 ⟨rfl, b1⟩
          go_wp2
          go_ret2
          exact ⟨rfl, b1⟩
        · have hq : (s.toList == [45, 48]) = false := by rw [beq_eq_false_iff_ne, ByteArray.toList_eq]; exact hd
          have hm : msg s.data.toList = if c = 45 then (-z, true) else (z, true) := by
            rw [hl, msg, if_neg (by rintro (h | ⟨h, h'⟩); exact hrn h; rcases hc with e | e; exact h e; exact h' e), if_neg (by rintro (h | h); (rw [hz] at h; exact hzn h); (exact hd (by rw [hl, h]))), hz]
          rw [hm]
          clear hm hz hL hl hd
          rcases hc with rfl | rfl
          · rw [if_neg (by decide)]
            have n1 : s[0].toNat = 43 := by rw [hc0]; rfl
            clear hc0
            go_enter Tryz.func47, Tryz.ntmps47
            go_wp2_with fail
            refine hN.mono ?_
            rintro e w1 ⟨rfl, b1⟩
            go_wp2
            go_ret2
            exact ⟨rfl, b1⟩
          · rw [if_pos rfl]
            have n1 : ¬ s[0].toNat = 43 := by rw [hc0]; decide
            have n2 : s[0].toNat = 45 := by rw [hc0]; rfl
            clear hc0
            go_enter Tryz.func47, Tryz.ntmps47
            go_wp2_with fail
            refine hN.mono ?_
            rintro e w1 ⟨rfl, b1⟩
            go_wp2
            go_ret2
            exact ⟨rfl, b1⟩
    · have hm : msg s.data.toList = (-1, false) := by
        rw [hl, msg, if_pos (Or.inr (by constructor <;> intro e <;> exact hc (by rw [e]; simp)))]
      rw [hm]
      have n1 : ¬ s[0].toNat = 43 := fun e => hc (Or.inl (by rw [← hc0]; exact UInt8.toNat_inj.1 e))
      have n2 : ¬ s[0].toNat = 45 := fun e => hc (Or.inr (by rw [← hc0]; exact UInt8.toNat_inj.1 e))
      have m1 : ((s[0].toNat : Int) != 43) = true := by rw [bne_iff_ne]; omega
      have m2 : ((s[0].toNat : Int) != 45) = true := by rw [bne_iff_ne]; omega
      clear hm hL hl hmr hN hc0
      go_enter Tryz.func47, Tryz.ntmps47
      go_wp2
      go_ret2
      exact ⟨rfl, Below.refl _ _⟩
end Go.Proofs.YtibnojbhoepcdaaGreatDoor
/- What the model reads in twelve pieces. -/
namespace Go.Proofs.YtibnojbhoepcdaaGreatDoor
def mpool (c : List UInt8) : Int := if c = pool2 then 2 else 1
def kst (c : List UInt8) : Nat → Int
  | 0 => 0
  | k + 1 => if kindL ((k : Int) + 1) = c then (k : Int) + 1 else kst c k
theorem mpool_read {n : Int} (h0 : 1 ≤ n) (h1 : n ≤ 2) : mpool (poolL n) = n := by
  have hs : n = 1 ∨ n = 2 := by omega
  rcases hs with rfl | rfl <;> decide
theorem kst_read {n : Int} (h0 : 1 ≤ n) (h1 : n ≤ 6) : kst (kindL n) 6 = n := by
  have hs : n = 1 ∨ n = 2 ∨ n = 3 ∨ n = 4 ∨ n = 5 ∨ n = 6 := by omega
  rcases hs with rfl | rfl | rfl | rfl | rfl | rfl <;> decide
/-- what the model makes of pieces -/
def mdW (a0 a1 a2 a3 a4 a5 a6 a7 a8 a9 : List UInt8) (T : List Fc) : Wd := ⟨mpool a0, kst a1 6, mnum a2, mnum a3, mnum a4, mnum a5, (msg a6).1, (msg a7).1, mnum a8, mnum a9, T⟩
theorem twelve {l : List (List UInt8)} (h : l.length = 12) : ∃ a0 a1 a2 a3 a4 a5 a6 a7 a8 a9 a10 a11, l = [a0, a1, a2, a3, a4, a5, a6, a7, a8, a9, a10, a11] := by
  match l, h with
  | [a0, a1, a2, a3, a4, a5, a6, a7, a8, a9, a10, a11], _ => exact ⟨a0, a1, a2, a3, a4, a5, a6, a7, a8, a9, a10, a11, rfl⟩
theorem nowd_short {s : List UInt8} (h : (cutL 32 s).length ≠ 12) : NoWd s := fun W hW e => by
  apply h
  rw [e, cut_txt hW]
  rfl
/-- a text that is a word's is read as that word -/
theorem md_back {s a0 a1 a2 a3 a4 a5 a6 a7 a8 a9 a10 a11 : List UInt8} (hc : cutL 32 s = [a0, a1, a2, a3, a4, a5, a6, a7, a8, a9, a10, a11]) {V : Wd} (hv : V.ok = true) (e : s = V.txt) :
    (msg a6).2 = true ∧ (msg a7).2 = true ∧ mt a10 = some V.T ∧ mdW a0 a1 a2 a3 a4 a5 a6 a7 a8 a9 V.T = V := by
  have h1 := cut_txt hv
  rw [← e, hc] at h1
  unfold Wd.pcs at h1
  simp only [List.cons_append, List.nil_append, List.cons.injEq, and_true] at h1
  obtain ⟨rfl, rfl, rfl, rfl, rfl, rfl, rfl, rfl, rfl, rfl, rfl, -⟩ := h1
  obtain ⟨b0, b1, b2, b3, b4, b5, b6, b7, b8, b9, b10, b11, b12, b13, b14, b15, b16, b17, b18, b19, b20⟩ := ok_facts hv
  refine ⟨by rw [msg_sgn (by omega) (by omega)], by rw [msg_sgn (by omega) (by omega)], (say_pt b20 rfl).2, ?_⟩
  unfold mdW
  rw [mpool_read b0 b1, kst_read b2 b3, mnum_itoa6 b4 (by omega), mnum_itoa6 b6 (by omega), mnum_itoa6 b8 (by omega), mnum_itoa6 b10 (by omega), msg_sgn (by omega) (by omega), msg_sgn (by omega) (by omega), mnum_itoa6 b16 (by omega), mnum_itoa6 (by omega) (by omega)]
theorem cut_long {s : List UInt8} (h : (cutL 32 s).length = 12) : s ≠ [] := by
  intro e
  rw [e] at h
  cases h
/-- what is written again as it was is that word -/
theorem md_yes {s : ByteArray} (h : (cutL 32 s.data.toList).length = 12) {W : Wd} (e : W.tx = s) : W.ok = true ∧ s.data.toList = W.txt := by
  cases hok : W.ok
  · rw [wtx_no hok] at e
    exact absurd (by rw [← e]) (cut_long h)
  · rw [wtx_ok hok] at e
    exact ⟨rfl, by rw [← e]⟩
theorem md_no {s : ByteArray} {a0 a1 a2 a3 a4 a5 a6 a7 a8 a9 a10 a11 : List UInt8} (hc : cutL 32 s.data.toList = [a0, a1, a2, a3, a4, a5, a6, a7, a8, a9, a10, a11]) {T : List Fc} {q : Bool} (hT : mt a10 = if q = true then some T else none) (h : ¬ ((msg a6).2 = true ∧ (msg a7).2 = true ∧ q = true ∧ (mdW a0 a1 a2 a3 a4 a5 a6 a7 a8 a9 T).tx = s)) : NoWd s.data.toList := by
  intro V hv e
  obtain ⟨h6, h7, ht, hW⟩ := md_back hc hv e
  rw [ht] at hT
  cases q
  · rw [if_neg (by simp)] at hT
    cases hT
  · rw [if_pos rfl] at hT
    injection hT with hT
    subst hT
    apply h
    refine ⟨h6, h7, rfl, ?_⟩
    rw [hW, wtx_ok hv, ← e]
end Go.Proofs.YtibnojbhoepcdaaGreatDoor
/- Texts that are cut short, made longer or spoilt are no words. -/
namespace Go.Proofs.YtibnojbhoepcdaaGreatDoor
theorem txt_at {W : Wd} : W.txt.length = W.body.length + 9 := by
  unfold Wd.txt
  rw [List.length_append, List.length_cons, show W.hex.length = 8 from S.hexP_len 8 _]
theorem txt_sp (W : Wd) : W.txt[W.txt.length - 9]? = some 32 := by
  rw [txt_at, Nat.add_sub_cancel]
  unfold Wd.txt
  rw [List.getElem?_append_right (Nat.le_refl _), Nat.sub_self]
  rfl
theorem txt_hx (W : Wd) (i : Nat) (h : W.txt.length - 8 ≤ i) : W.txt[i]? ≠ some 32 := by
  rw [txt_at] at h
  unfold Wd.txt
  rw [List.getElem?_append_right (by omega)]
  obtain ⟨j, hj⟩ : ∃ j, i - W.body.length = j + 1 := ⟨i - W.body.length - 1, by omega⟩
  rw [hj, List.getElem?_cons_succ]
  intro e
  exact hex_free _ (List.mem_of_getElem? e)
theorem no_short {W : Wd} (h : W.ok = true) (j : Nat) (hj : j < 8) : NoWd (W.txt.take (W.txt.length - 1 - j)) := by
  intro V hv e
  have hl := (txt_len h).2
  have hl' := (txt_len hv).2
  have e1 := congrArg List.length e
  rw [List.length_take, Nat.min_eq_left (by omega)] at e1
  refine txt_hx V (W.txt.length - 9) (by omega) ?_
  rw [← e, List.getElem?_take_of_lt (by omega)]
  exact txt_sp W
theorem no_space (W : Wd) : NoWd (W.txt ++ [32]) := by
  intro V hv e
  have e1 := congrArg List.length e
  rw [List.length_append, List.length_singleton] at e1
  refine txt_hx V W.txt.length (by omega) ?_
  rw [← e, List.getElem?_append_right (Nat.le_refl _), Nat.sub_self]
  rfl
theorem no_zero {W : Wd} (h : W.ok = true) : NoWd (W.txt ++ [48]) := by
  intro V hv e
  have hl := (txt_len h).2
  have e1 := congrArg List.length e
  rw [List.length_append, List.length_singleton] at e1
  have e2 := txt_sp V
  rw [← e, List.length_append, List.length_singleton, List.getElem?_append_left (by omega)] at e2
  exact txt_hx W _ (by omega) e2
end Go.Proofs.YtibnojbhoepcdaaGreatDoor
/- A word cut short or made longer: the law walked. -/
namespace Go.Proofs.YtibnojbhoepcdaaGreatDoor
open Go.ChangeShapes Go.WideShapes Go.ChangeAt Go.RowKit
attribute [local go_sem ↓] Go.wp_at_zero Go.wp_at_succ
theorem rd_no {s : ByteArray} {w w' : World} {e : Ending} (h : RdW s w e w') (hn : NoWd s.data.toList) : ∃ (W : Wd) (ad : Option Addr) (cap : Nat), e = .returned (.tuple #[.agg #[.int .i64 W.p, .int .i64 W.k, .int .i64 W.f, .int .i64 W.t, .int .i64 W.s, .int .i64 W.q, .int .i64 W.x, .int .i64 W.y, .int .i64 W.z, .int .i64 W.e, .slice ad W.T.length cap], .bool false]) ∧ Below w.heap.size w w' := by
  obtain ⟨W, ad, cap, q, rfl, hy, -, -, b⟩ := h
  cases q
  · exact ⟨W, ad, cap, rfl, b⟩
  · exact absurd (hy rfl).2 (hn W (hy rfl).1)
theorem rd_yes {s : ByteArray} {w w' : World} {e : Ending} (h : RdW s w e w') {V : Wd} (hv : V.ok = true) (hs : s.data.toList = V.txt) : ∃ (W : Wd) (ad : Option Addr) (cap : Nat), e = .returned (.tuple #[.agg #[.int .i64 W.p, .int .i64 W.k, .int .i64 W.f, .int .i64 W.t, .int .i64 W.s, .int .i64 W.q, .int .i64 W.x, .int .i64 W.y, .int .i64 W.z, .int .i64 W.e, .slice ad W.T.length cap], .bool true]) ∧ Below w.heap.size w w' := by
  obtain ⟨W, ad, cap, q, rfl, -, hn, -, b⟩ := h
  cases q
  · exact absurd hs ((hn rfl).1 V hv)
  · exact ⟨W, ad, cap, rfl, b⟩
set_option maxRecDepth 20000 in
set_option maxHeartbeats 16000000 in
theorem short_walk (a0 a1 : Option Addr) (l0 c0 l1 c1 : Nat) (w : World) (h0 : Bytes w.heap.size w a0 l0) (hc0 : l0 ≤ c0) (hp : Pst w) (hd : w.cell? ⟨9, 15, none⟩ = some (.int .u8 4)) :
    Calls Tryz.prog 6 #[.slice a0 l0 c0, .slice a1 l1 c1] w fun r w' => r = .returned (.bool true) ∧ Below w.heap.size w w' := by
  by_cases g0 : (1048576 : Int) < (l0 : Int)
  · go_enter Tryz.func6, Tryz.ntmps6
    go_wp2
    go_ret
    exact ⟨rfl, Below.refl _ _⟩
  by_cases g1 : (1048576 : Int) < (l1 : Int)
  · go_enter Tryz.func6, Tryz.ntmps6
    go_wp2
    go_ret
    exact ⟨rfl, Below.refl _ _⟩
  go_enter Tryz.func6, Tryz.ntmps6
  go_wp2_with fail
  refine (drawWW_any a0 l0 c0 w h0 hc0).mono ?_
  rintro _ w1 ⟨W, ad, cp, rfl, own1, hT7, B1⟩
  have b1 := balloc (.cells #[.int .i64 W.p, .int .i64 W.k, .int .i64 W.f, .int .i64 W.t, .int .i64 W.s, .int .i64 W.q, .int .i64 W.x, .int .i64 W.y, .int .i64 W.z, .int .i64 W.e, .slice ad W.T.length cp] 35) (Below.refl w1.heap.size w1)
  have X1 : Ws (w1.alloc (.cells #[.int .i64 W.p, .int .i64 W.k, .int .i64 W.f, .int .i64 W.t, .int .i64 W.s, .int .i64 W.q, .int .i64 W.x, .int .i64 W.y, .int .i64 W.z, .int .i64 W.e, .slice ad W.T.length cp] 35)) w1.heap.size [.int .i64 W.p, .int .i64 W.k, .int .i64 W.f, .int .i64 W.t, .int .i64 W.s, .int .i64 W.q, .int .i64 W.x, .int .i64 W.y, .int .i64 W.z, .int .i64 W.e, .slice ad W.T.length cp] := Ws.new (heap_alloc_new w1 (.cells #[.int .i64 W.p, .int .i64 W.k, .int .i64 W.f, .int .i64 W.t, .int .i64 W.s, .int .i64 W.q, .int .i64 W.x, .int .i64 W.y, .int .i64 W.z, .int .i64 W.e, .slice ad W.T.length cp] 35))
  have B2 := btrans B1 b1
  have o2 := own_below own1 b1
  go_upto_region 4 with fail
  generalize w1.alloc (.cells #[.int .i64 W.p, .int .i64 W.k, .int .i64 W.f, .int .i64 W.t, .int .i64 W.s, .int .i64 W.q, .int .i64 W.x, .int .i64 W.y, .int .i64 W.z, .int .i64 W.e, .slice ad W.T.length cp] 35) = u1 at *
  generalize w1.heap.size = b5 at *
  clear B1 b1 own1 w1
  have hFS : FSl u1 ad W.T.length (atF W.T) := by
    obtain ⟨ad', cp', e0, -, -, hf⟩ := own_facts o2
    injection e0 with e0 _ _
    subst e0
    exact hf
  have hTl : W.T.length ≤ 1048576 := by omega
  obtain ⟨X, hX⟩ : ∃ X, Hid (W.tx = X) := ⟨_, rfl⟩
  have hWr := write_any W.p W.k W.f W.t W.s W.q W.x W.y W.z W.e ad W.T.length cp (atF W.T) u1 hFS hTl (hp.below B2).t (keep_below B2 hd)
  rw [show wtx W.p W.k W.f W.t W.s W.q W.x W.y W.z W.e W.T.length (atF W.T) = X from hX.out] at hWr
  have d0 := X1.c 0 (.int .i64 W.p) rfl
  have d1 := X1.c 1 (.int .i64 W.k) rfl
  have d2 := X1.c 2 (.int .i64 W.f) rfl
  have d3 := X1.c 3 (.int .i64 W.t) rfl
  have d4 := X1.c 4 (.int .i64 W.s) rfl
  have d5 := X1.c 5 (.int .i64 W.q) rfl
  have d6 := X1.c 6 (.int .i64 W.x) rfl
  have d7 := X1.c 7 (.int .i64 W.y) rfl
  have d8 := X1.c 8 (.int .i64 W.z) rfl
  have d9 := X1.c 9 (.int .i64 W.e) rfl
  have d10 := X1.c 10 (.slice ad W.T.length cp) rfl
  go_wp2_with fail
  refine hWr.mono ?_
  rintro _ w2 ⟨rfl, b2⟩
  clear hWr
  have X2 := X1.below b2
  have B3 := btrans B2 b2
  have hF2 := hFS.below b2
  have hLw := lwrite_any W.p W.k W.f W.t W.s W.q W.x W.y W.z W.e ad W.T.length cp (atF W.T) w2 hF2 hTl
  rw [show wtx W.p W.k W.f W.t W.s W.q W.x W.y W.z W.e W.T.length (atF W.T) = X from hX.out] at hLw
  clear d0 d1 d2 d3 d4 d5 d6 d7 d8 d9 d10 X1 B2 hFS b2 o2
  have hXX : (X.toList != X.toList) = false := by simp
  have hXe : (X.toList == X.toList) = true := by simp
  go_upto_region 5 with fail
  have d0 := X2.c 0 (.int .i64 W.p) rfl
  have d1 := X2.c 1 (.int .i64 W.k) rfl
  have d2 := X2.c 2 (.int .i64 W.f) rfl
  have d3 := X2.c 3 (.int .i64 W.t) rfl
  have d4 := X2.c 4 (.int .i64 W.s) rfl
  have d5 := X2.c 5 (.int .i64 W.q) rfl
  have d6 := X2.c 6 (.int .i64 W.x) rfl
  have d7 := X2.c 7 (.int .i64 W.y) rfl
  have d8 := X2.c 8 (.int .i64 W.z) rfl
  have d9 := X2.c 9 (.int .i64 W.e) rfl
  have d10 := X2.c 10 (.slice ad W.T.length cp) rfl
  cases hok : W.ok
  · have hX0 : X = bs [] := by rw [← hX.out, wtx_no hok]
    have hemp : (X.toList == []) = true := by rw [hX0, ByteArray.toList_eq]; rfl
    go_wp2_with fail
    refine hLw.mono ?_
    rintro _ w3 ⟨rfl, b3⟩
    have X3 := X2.below b3
    have hLw3 := lwrite_any W.p W.k W.f W.t W.s W.q W.x W.y W.z W.e ad W.T.length cp (atF W.T) w3 (hF2.below b3) hTl
    rw [show wtx W.p W.k W.f W.t W.s W.q W.x W.y W.z W.e W.T.length (atF W.T) = X from hX.out] at hLw3
    clear hLw d0 d1 d2 d3 d4 d5 d6 d7 d8 d9 d10
    have B4 := btrans B3 b3
    go_upto_region 6 with fail
    have d0 := X3.c 0 (.int .i64 W.p) rfl
    have d1 := X3.c 1 (.int .i64 W.k) rfl
    have d2 := X3.c 2 (.int .i64 W.f) rfl
    have d3 := X3.c 3 (.int .i64 W.t) rfl
    have d4 := X3.c 4 (.int .i64 W.s) rfl
    have d5 := X3.c 5 (.int .i64 W.q) rfl
    have d6 := X3.c 6 (.int .i64 W.x) rfl
    have d7 := X3.c 7 (.int .i64 W.y) rfl
    have d8 := X3.c 8 (.int .i64 W.z) rfl
    have d9 := X3.c 9 (.int .i64 W.e) rfl
    have d10 := X3.c 10 (.slice ad W.T.length cp) rfl
    go_wp2_with fail
    refine hLw3.mono ?_
    rintro _ w4 ⟨rfl, b4⟩
    clear hLw3 d0 d1 d2 d3 d4 d5 d6 d7 d8 d9 d10
    go_wp2
    go_ret
    exact ⟨rfl, btrans B4 b4⟩
  · have hXt : X = bs W.txt := by rw [← hX.out, wtx_ok hok]
    have hXl : X.data.toList = W.txt := by rw [hXt]
    have hlen := txt_len hok
    have hsz : X.size = W.txt.length := by rw [hXt]; rfl
    have hemp : (X.toList == []) = false := by
      rw [beq_eq_false_iff_ne, ByteArray.toList_eq, hXl]
      intro e
      rw [e] at hlen
      simp at hlen
    clear hXt
    go_wp2_with fail
    refine hLw.mono ?_
    rintro _ w3 ⟨rfl, b3⟩
    have B4 := btrans B3 b3
    clear hLw d0 d1 d2 d3 d4 d5 d6 d7 d8 d9 d10 X2 hF2 b3 B3
    go_wp2_with fail
    refine (read_any _ _ (hp.below B4) (keep_below B4 hd) (by rw [ByteArray.size_extract]; omega)).mono ?_
    intro r1 w5 hrd
    obtain ⟨V1, e1, q1, rfl, b5⟩ := rd_no hrd (by rw [bs_take, hXl]; exact no_short hok (l1 % 8) (by omega))
    have B5 := btrans B4 b5
    clear hrd b5 B4
    have k1 : ¬ 9223372036854775807 < W.txt.length + 1 := by omega
    have k2 : ¬ 9223372036854775807 < X.size + 1 := by omega
    go_wp2_with fail
    refine (read_any _ _ (hp.below (btrans B5 (balloc _ (Below.refl _ _)))) (keep_below (btrans B5 (balloc _ (Below.refl _ _))) hd) (by rw [ByteArray.size_append]; show X.size + 1 ≤ _; omega)).mono ?_
    intro r2 w6 hrd
    obtain ⟨V2, e2, q2, rfl, b6⟩ := rd_no hrd (by rw [ByteArray.data_append, Array.toList_append, hXl]; exact no_space W)
    have B6 := btrans (btrans B5 (balloc _ (Below.refl _ _))) b6
    clear hrd b6 B5
    go_wp2_with fail
    refine (read_any _ _ (hp.below (btrans B6 (balloc _ (Below.refl _ _)))) (keep_below (btrans B6 (balloc _ (Below.refl _ _))) hd) (by rw [ByteArray.size_append]; show X.size + 1 ≤ _; omega)).mono ?_
    intro r3 w7 hrd
    obtain ⟨V3, e3, q3, rfl, b7⟩ := rd_no hrd (by rw [ByteArray.data_append, Array.toList_append, hXl]; exact no_zero hok)
    have B7 := btrans (btrans B6 (balloc _ (Below.refl _ _))) b7
    clear hrd b7 B6
    go_wp2_with fail
    refine (read_any _ _ (hp.below (btrans B7 (balloc _ (Below.refl _ _)))) (keep_below (btrans B7 (balloc _ (Below.refl _ _))) hd) (by omega)).mono ?_
    intro r4 w8 hrd
    obtain ⟨V4, e4, q4, rfl, b8⟩ := rd_yes hrd hok hXl
    have B8 := btrans (btrans B7 (balloc _ (Below.refl _ _))) b8
    clear hrd b8 B7
    go_wp2
    go_ret
    exact ⟨rfl, btrans B8 (balloc _ (Below.refl _ _))⟩
end Go.Proofs.YtibnojbhoepcdaaGreatDoor
