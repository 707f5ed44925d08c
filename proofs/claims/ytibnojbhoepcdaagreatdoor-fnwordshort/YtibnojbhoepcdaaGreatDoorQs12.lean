/- Texts of the proof, laid together: Rm2, PCut. -/
import Derived.Test.YtibnojbhoepcdaaGreatDoorQs11
import Derived.Test.YtibnojbhoepcdaaGreatDoorQs2
import Derived.Test.YtibnojbhoepcdaaGreatDoorQs3
/- Words: what is written is read, and what is read was written so. -/
namespace Go.Proofs.YtibnojbhoepcdaaGreatDoor
/-- a word -/
structure Wd where
  p : Int
  k : Int
  f : Int
  t : Int
  s : Int
  q : Int
  x : Int
  y : Int
  z : Int
  e : Int
  T : List Fc
def Wd.ok (W : Wd) : Bool := wokB W.p W.k W.f W.t W.s W.q W.x W.y W.z W.e W.T.length (atF W.T)
/-- its pieces -/
def Wd.pcs (W : Wd) : List (List UInt8) := [poolL W.p, kindL W.k, Lib.itoa W.f, Lib.itoa W.t, Lib.itoa W.s, Lib.itoa W.q, sgn W.x, sgn W.y, Lib.itoa W.z, Lib.itoa W.e, txL W.T]
def Wd.body (W : Wd) : List UInt8 := Lib.join W.pcs [32]
def Wd.hex (W : Wd) : List UInt8 := S.hex8 (S.sumN (bs W.body))
def Wd.txt (W : Wd) : List UInt8 := W.body ++ 32 :: W.hex
def Wd.tx (W : Wd) : ByteArray := wtx W.p W.k W.f W.t W.s W.q W.x W.y W.z W.e W.T.length (atF W.T)
theorem body_eq (W : Wd) : bodyL W.p W.k W.f W.t W.s W.q W.x W.y W.z W.e (txt W.T.length (atF W.T)) = W.body := by
  unfold bodyL Wd.body Wd.pcs
  rw [txt_txL]
theorem bs_app (a b : List UInt8) : bs a ++ bs b = bs (a ++ b) := by
  apply ByteArray.ext
  apply Array.toList_inj.1
  simp [bs]
theorem wtx_ok {W : Wd} (h : W.ok = true) : W.tx = bs W.txt := by
  unfold Wd.tx wtx
  rw [if_pos (show wokB _ _ _ _ _ _ _ _ _ _ _ _ = true from h), body_eq, bs_app, bs_app]
  unfold Wd.txt Wd.hex
  simp
theorem wtx_no {W : Wd} (h : W.ok = false) : W.tx = bs [] := by
  unfold Wd.tx wtx
  rw [if_neg (by rw [show wokB _ _ _ _ _ _ _ _ _ _ _ _ = false from h]; simp)]
theorem mem_join {c : UInt8} {sep : List UInt8} : ∀ {r : List (List UInt8)}, c ∈ Lib.join r sep → c ∈ sep ∨ ∃ p ∈ r, c ∈ p
  | [], h => by simp [Lib.join] at h
  | [a], h => by
    rw [Lib.join_one] at h
    exact Or.inr ⟨a, List.mem_cons_self .., h⟩
  | a :: b :: r, h => by
    rw [join_two _ _ _ (by simp), List.mem_append, List.mem_append] at h
    rcases h with (h | h) | h
    · exact Or.inr ⟨a, List.mem_cons_self .., h⟩
    · exact Or.inl h
    · rcases mem_join h with h | ⟨p, hp, hc⟩
      · exact Or.inl h
      · exact Or.inr ⟨p, List.mem_cons_of_mem _ hp, hc⟩
theorem ftx_free {f : Fc} (h : fok f = true) : (32 : UInt8) ∉ ftx f := by
  obtain ⟨a, b, c, d, -, -⟩ := fok_all h
  rw [ftx_form]
  intro hm
  simp only [List.mem_append, List.mem_cons] at hm
  rcases hm with hm | hm | hm | hm | hm | hm
  · exact itoa_miss a (by omega) 32 (by decide) hm
  · exact absurd hm (by decide)
  · exact itoa_miss c d 32 (by decide) hm
  · exact absurd hm (by decide)
  · exact word_miss _ 32 (by decide) hm
  · exact star_miss _ 32 (by decide) hm
theorem txL_free (T : List Fc) : (32 : UInt8) ∉ txL T := by
  unfold txL
  split
  · next h =>
    split
    · decide
    · intro hm
      rcases mem_join hm with hm | ⟨p, hp, hc⟩
      · exact absurd hm (by decide)
      · obtain ⟨f, hf, e⟩ := List.mem_map.1 hp
        rw [← e] at hc
        exact ftx_free (tokL_fok h f hf) hc
  · decide
theorem hexD_free : ∀ d : Nat, d < 16 → S.hexD d ≠ 32 := by decide
theorem hexP_free : ∀ (k n : Nat), (32 : UInt8) ∉ S.hexP k n
  | 0, _ => by simp [S.hexP]
  | k + 1, n => by
    intro h
    rw [S.hexP, List.mem_append] at h
    rcases h with h | h
    · exact hexP_free k _ h
    · simp only [List.mem_cons, List.not_mem_nil, or_false] at h
      exact hexD_free (n % 16) (Nat.mod_lt _ (by omega)) h.symm
theorem hex_free (n : Nat) : (32 : UInt8) ∉ S.hex8 n := hexP_free 8 n
theorem pool_free (s : Int) : (32 : UInt8) ∉ poolL s := by
  unfold poolL
  split <;> decide
theorem kind_free (s : Int) : (32 : UInt8) ∉ kindL s := by
  unfold kindL
  split
  · decide
  · split
    · decide
    · split
      · decide
      · split
        · decide
        · split <;> decide
theorem ok_facts {W : Wd} (h : W.ok = true) : 1 ≤ W.p ∧ W.p ≤ 2 ∧ 1 ≤ W.k ∧ W.k ≤ 6 ∧ 0 ≤ W.f ∧ W.f ≤ 7 ∧ 0 ≤ W.t ∧ W.t ≤ 7 ∧ 0 ≤ W.s ∧ W.s ≤ 999999 ∧ 0 ≤ W.q ∧ W.q ≤ 7 ∧ -100000 ≤ W.x ∧ W.x ≤ 100000 ∧ -100000 ≤ W.y ∧ W.y ≤ 100000 ∧ 0 ≤ W.z ∧ W.z ≤ 100000 ∧ 1 ≤ W.e ∧ W.e ≤ 1500 ∧ tokL W.T = true := wok_facts h
theorem pcs_free {W : Wd} (h : W.ok = true) : ∀ p ∈ W.pcs ++ [W.hex], (32 : UInt8) ∉ p := by
  obtain ⟨r0, r1, r2, r3, r4, r5, r6, r7, r8, r9, r10, r11, r12, r13, r14, r15, r16, r17, r18, r19, r20⟩ := ok_facts h
  intro p hp
  unfold Wd.pcs at hp
  simp only [List.cons_append, List.nil_append, List.mem_cons, List.not_mem_nil, or_false] at hp
  rcases hp with rfl | rfl | rfl | rfl | rfl | rfl | rfl | rfl | rfl | rfl | rfl | rfl
  · exact pool_free _
  · exact kind_free _
  · exact itoa_miss6 r4 32 (by decide)
  · exact itoa_miss6 r6 32 (by decide)
  · exact itoa_miss6 r8 32 (by decide)
  · exact itoa_miss6 r10 32 (by decide)
  · exact sgn_miss _ 32 rfl
  · exact sgn_miss _ 32 rfl
  · exact itoa_miss6 r16 32 (by decide)
  · exact itoa_miss6 (by omega) 32 (by decide)
  · exact txL_free _
  · exact hex_free _
theorem txt_join (W : Wd) : W.txt = Lib.join (W.pcs ++ [W.hex]) [32] := by
  rw [join_snoc _ _ _ (by simp [Wd.pcs])]
  unfold Wd.txt Wd.body
  simp
theorem cut_txt {W : Wd} (h : W.ok = true) : cutL 32 W.txt = W.pcs ++ [W.hex] := by
  rw [txt_join]
  exact cutL_join 32 _ (by simp [Wd.pcs]) (pcs_free h)
theorem txt_len {W : Wd} (h : W.ok = true) : W.txt.length ≤ 300 ∧ 9 ≤ W.txt.length := by
  have hb : W.body.length ≤ 291 := by
    rw [← body_eq]
    exact body_len2 h
  have hh : W.hex.length = 8 := S.hexP_len 8 _
  unfold Wd.txt
  rw [List.length_append, List.length_cons]
  omega
/-- the number of a pool's name; 0 of another text -/
def poolN (s : List UInt8) : Int := if s = pool1 then 1 else if s = pool2 then 2 else 0
def kindN (s : List UInt8) : Int := if s = kind1 then 1 else if s = kind2 then 2 else if s = kind3 then 3 else if s = kind4 then 4 else if s = kind5 then 5 else if s = kind6 then 6 else 0
theorem pool_say {s : List UInt8} (h : poolN s ≠ 0) : poolL (poolN s) = s := by
  unfold poolN at h ⊢
  split
  · next e => exact e ▸ rfl
  · next h1 =>
    rw [if_neg h1] at h
    split
    · next e => exact e ▸ rfl
    · next h2 => rw [if_neg h2] at h; exact absurd rfl h
theorem pool_read {n : Int} (h0 : 1 ≤ n) (h1 : n ≤ 2) : poolN (poolL n) = n := by
  have hs : n = 1 ∨ n = 2 := by omega
  rcases hs with rfl | rfl <;> decide
theorem kind_say {s : List UInt8} (h : kindN s ≠ 0) : kindL (kindN s) = s := by
  unfold kindN at h ⊢
  split
  · next e => exact e ▸ rfl
  · next h1 =>
    rw [if_neg h1] at h
    split
    · next e => exact e ▸ rfl
    · next h2 =>
      rw [if_neg h2] at h
      split
      · next e => exact e ▸ rfl
      · next h3 =>
        rw [if_neg h3] at h
        split
        · next e => exact e ▸ rfl
        · next h4 =>
          rw [if_neg h4] at h
          split
          · next e => exact e ▸ rfl
          · next h5 =>
            rw [if_neg h5] at h
            split
            · next e => exact e ▸ rfl
            · next h6 => rw [if_neg h6] at h; exact absurd rfl h
theorem kind_read {n : Int} (h0 : 1 ≤ n) (h1 : n ≤ 6) : kindN (kindL n) = n := by
  have hs : n = 1 ∨ n = 2 ∨ n = 3 ∨ n = 4 ∨ n = 5 ∨ n = 6 := by omega
  rcases hs with rfl | rfl | rfl | rfl | rfl | rfl <;> decide
/-- nothing that is ok is written so -/
def NoWd (s : List UInt8) : Prop := ∀ W : Wd, W.ok = true → s ≠ W.txt
/-- a reader that stands behind some pieces and finds no good one -/
theorem fail_at {s r : List UInt8} {ps : List (List UInt8)} (hc : cutL 32 s = ps ++ cutL 32 r) (good : List UInt8 → Prop) (hi : ps.length ≤ 10) (hg : ∀ W : Wd, W.ok = true → ∀ a, W.pcs[ps.length]? = some a → good a) (hb : ∀ a r', r = a ++ 32 :: r' → (32 : UInt8) ∉ a → ¬ good a) : NoWd s := by
  intro W h e
  have h1 := cut_txt h
  rw [← e, hc] at h1
  have hl : W.pcs.length = 11 := rfl
  have h2 := congrArg List.length h1
  rw [List.length_append, List.length_append, hl, List.length_singleton] at h2
  rcases cutL_split 32 r with hr | ⟨a, r', hr, ha⟩
  · rw [cutL_free 32 r hr, List.length_singleton] at h2
    omega
  · have h3 := congrArg (fun l => l[ps.length]?) h1
    try dsimp only at h3
    rw [hr, cutL_hit 32 a r' ha, List.getElem?_append_right (Nat.le_refl _), Nat.sub_self, List.getElem?_append_left (by omega)] at h3
    exact hb a r' hr ha (hg W h a h3.symm)
/-- two words of one text are one -/
theorem itoa_inj6 {m n : Int} (h0 : 0 ≤ m) (h1 : m ≤ 999999) (h2 : 0 ≤ n) (h3 : n ≤ 999999) (h : Lib.itoa m = Lib.itoa n) : m = n := by
  have := congrArg mnum h
  rwa [mnum_itoa6 h0 h1, mnum_itoa6 h2 h3] at this
theorem sgn_inj6 {m n : Int} (h0 : -999999 ≤ m) (h1 : m ≤ 999999) (h2 : -999999 ≤ n) (h3 : n ≤ 999999) (h : sgn m = sgn n) : m = n := by
  have := congrArg (fun s => (msg s).1) h
  simp only [msg_sgn h0 h1, msg_sgn h2 h3] at this
  exact this
theorem txL_inj {A B : List Fc} (h0 : tokL A = true) (h1 : tokL B = true) (h : txL A = txL B) : A = B := by
  have a := (say_pt h0 rfl).1
  have b := (say_pt h1 rfl).1
  rw [h, b] at a
  exact (Option.some.inj a).symm
theorem txt_inj {V W : Wd} (hv : V.ok = true) (hw : W.ok = true) (h : V.txt = W.txt) : V = W := by
  have e := cut_txt hv
  rw [h, cut_txt hw] at e
  obtain ⟨a0, a1, a2, a3, a4, a5, a6, a7, a8, a9, a10, a11, a12, a13, a14, a15, a16, a17, a18, a19, a20⟩ := ok_facts hv
  obtain ⟨b0, b1, b2, b3, b4, b5, b6, b7, b8, b9, b10, b11, b12, b13, b14, b15, b16, b17, b18, b19, b20⟩ := ok_facts hw
  simp only [Wd.pcs, List.cons_append, List.nil_append, List.cons.injEq, and_true] at e
  obtain ⟨e0, e1, e2, e3, e4, e5, e6, e7, e8, e9, e10, -⟩ := e
  have f0 := congrArg poolN e0
  rw [pool_read b0 b1, pool_read a0 a1] at f0
  have f1 := congrArg kindN e1
  rw [kind_read b2 b3, kind_read a2 a3] at f1
  have f2 := itoa_inj6 b4 (by omega) a4 (by omega) e2
  have f3 := itoa_inj6 b6 (by omega) a6 (by omega) e3
  have f4 := itoa_inj6 b8 (by omega) a8 (by omega) e4
  have f5 := itoa_inj6 b10 (by omega) a10 (by omega) e5
  have f6 := sgn_inj6 (by omega) (by omega) (by omega) (by omega) e6
  have f7 := sgn_inj6 (by omega) (by omega) (by omega) (by omega) e7
  have f8 := itoa_inj6 b16 (by omega) a16 (by omega) e8
  have f9 := itoa_inj6 (by omega) (by omega) (by omega) (by omega) e9
  have f10 := txL_inj b20 a20 e10
  cases V; cases W
  simp only at f0 f1 f2 f3 f4 f5 f6 f7 f8 f9 f10
  subst f0 f1 f2 f3 f4 f5 f6 f7 f8 f9 f10
  rfl
end Go.Proofs.YtibnojbhoepcdaaGreatDoor
/- A text cut at a byte, and the number that it spells: the model's way. -/
namespace Go.Proofs.YtibnojbhoepcdaaGreatDoor
open Go.ChangeShapes Go.WideShapes Go.ChangeAt Go.RowKit
theorem sin_lit (n : Nat) (lo hi : Int) (q : Bool) (h : inb (n : Int) lo hi = q) (w : World) : Calls Tryz.prog 61 #[.int .i64 (n : Int), .int .i64 lo, .int .i64 hi] w fun e w' => e = .returned (.bool q) ∧ w' = w := h ▸ lin_any (n : Int) lo hi w
/-- texts in memory -/
def svs (l : List (List UInt8)) : List Value := l.map fun x => .string ⟨x.toArray⟩
theorem cutL_last (c x : UInt8) : ∀ a : List UInt8, cutL c (a ++ [x]) = if x = c then cutL c a ++ [[]] else (cutL c a).dropLast ++ [(cutL c a).getLastD [] ++ [x]]
  | [] => by
    by_cases h : x = c <;> simp [cutL, h]
  | y :: r => by
    rw [List.cons_append, cutL, cutL_last c x r, cutL]
    have hn := cutL_ne c r
    cases hc : cutL c r with
    | nil => exact absurd hc hn
    | cons p ps =>
      by_cases hy : y = c
      · by_cases h : x = c
        · simp [hy, h]
        · simp [hy, h]
      · by_cases h : x = c
        · simp [hy, h]
        · cases ps with
          | nil => simp [hy, h]
          | cons q qs => simp [hy, h]
theorem cutL_len (c : UInt8) : ∀ n (s : List UInt8), s.length ≤ n → (cutL c s).length ≤ n + 1
  | n, [], _ => by simp [cutL]
  | 0, x :: r, h => by simp at h
  | n + 1, x :: r, h => by
    have ih := cutL_len c n r (by simp at h; omega)
    rw [cutL]
    split
    · simp; omega
    · split
      · simp
      · next p ps e => rw [e] at ih; simp at ih ⊢; omega
theorem last_back {l : List (List UInt8)} (h : l ≠ []) : l.dropLast ++ [l.getLastD []] = l := by
  cases l with
  | nil => exact absurd rfl h
  | cons a r => rw [List.getLastD_cons, ← List.getLast_eq_getLastD (by simp)]; exact List.dropLast_concat_getLast _
/-- the byte at a place -/
def byt (s : ByteArray) (i : Nat) : UInt8 := s.data.toList[i]?.getD 0
theorem byt_at (s : ByteArray) (k : Nat) (h : k < s.size) : s[k] = byt s k := by
  unfold byt
  have : s.data.toList[k]? = some s[k] := by
    rw [List.getElem?_eq_getElem (by simpa using h)]; rfl
  rw [this]; rfl
theorem byt_drop (s : ByteArray) (k : Nat) (h : k < s.size) : s.data.toList.drop k = byt s k :: s.data.toList.drop (k + 1) := by
  rw [← byt_at s k h]
  exact List.drop_eq_getElem_cons (by simpa using h)
theorem byt_take (s : ByteArray) (k : Nat) (h : k < s.size) : s.data.toList.take (k + 1) = s.data.toList.take k ++ [byt s k] := by
  rw [← byt_at s k h]
  exact List.take_succ_eq_append_getElem (by simpa using h)
theorem ext_list (s : ByteArray) (a b : Nat) : s.extract a b = ⟨((s.data.toList.take b).drop a).toArray⟩ := by
  apply ByteArray.ext
  apply Array.toList_inj.1
  rw [ByteArray.data_extract]
  simp [List.extract_eq_take_drop, List.drop_take]
/-- what is behind the last cut -/
structure Cutting (c : UInt8) (s : ByteArray) (i f : Nat) : Prop where
  le : f ≤ i
  last : (cutL c (s.data.toList.take i)).getLastD [] = (s.data.toList.take i).drop f
set_option maxRecDepth 20000 in
set_option maxHeartbeats 4000000 in
theorem scut_any (s : ByteArray) (c : UInt8) (hs : s.size ≤ 1048576) (w : World) :
    Calls Tryz.prog 44 #[.string s, .int .u8 (c.toNat : Int)] w fun e w' => ∃ v, e = .returned v ∧ w'.ownsRow w.heap.size 9 1 v (cutL c s.data.toList).length (svs (cutL c s.data.toList)) ∧ Below w.heap.size w w' := by
  have hL : s.data.toList.length = s.size := by simp
  obtain ⟨ti, hi, hz0, hz1, hz2⟩ := info_parts (show (Tryz.prog.info? 9).map (fun i => (i.zero, i.size, i.bytes)) = some (some (.string ByteArray.empty), 1, 16) by kernel_rfl)
  go_enter Tryz.func44, Tryz.ntmps44
  go_wp2_with fail
  go_loopw [5, 6, 7] (fun v f i wr => ∃ k g : Nat, i = .int .i64 k ∧ f = .int .i64 g ∧ k ≤ s.size ∧ Cutting c s k g ∧ wr.ownsRow w.heap.size 9 1 v ((cutL c (s.data.toList.take k)).length - 1) (svs (cutL c (s.data.toList.take k)).dropLast) ∧ Below w.heap.size w wr) (fun _ _ i _ => s.size - (intOf i).toNat)
  case atStart => exact ⟨0, 0, rfl, rfl, Nat.zero_le _, ⟨Nat.le_refl _, rfl⟩, World.ownsRow_lit w #[] 0 (Nat.le_refl _) (by unfold maxLen; omega) rfl, balloc _ (Below.refl _ _)⟩
  case round =>
    obtain ⟨k, g, rfl, rfl, hk, hc, hown, hb⟩ := hrel
    have hgk := hc.le
    have hlast := hc.last
    have hne := cutL_ne c (s.data.toList.take k)
    have hlen : (cutL c (s.data.toList.take k)).length ≤ k + 1 := cutL_len c k _ (by simp; omega)
    have hx : s.extract g k = ⟨((s.data.toList.take k).drop g).toArray⟩ := ext_list s g k
    by_cases hlt : k < s.size
    · have hbt := byt_at s k hlt
      have htk := byt_take s k hlt
      have hlt' : (k : Int) < (s.size : Int) := by omega
      by_cases hq : byt s k = c
      · have hq1 : s[k].toNat = c.toNat := by rw [hbt, hq]
        have hcl := cutL_last c (byt s k) (s.data.toList.take k)
        rw [if_pos hq, ← htk] at hcl
        have hsv : Hid (svs (cutL c (s.data.toList.take (k + 1))).dropLast = svs (cutL c (s.data.toList.take k)).dropLast ++ [.string (s.extract g k)]) := by
          unfold Hid
          rw [hcl, List.dropLast_concat, hx, ← hlast]
          conv => lhs; rw [← last_back hne]
          simp [svs]
        have hln : Hid ((cutL c (s.data.toList.take (k + 1))).length - 1 = (cutL c (s.data.toList.take k)).length - 1 + 1) := by
          unfold Hid
          rw [hcl]
          have := List.length_pos_iff.2 hne
          simp
          omega
        have hct : Cutting c s (k + 1) (k + 1) := ⟨Nat.le_refl _, by rw [hcl]; simp⟩
        have hq2 : ((s[k].toNat : Int) == (c.toNat : Int)) = true := by rw [beq_iff_eq]; omega
        have hle : (cutL c (s.data.toList.take k)).length - 1 ≤ 1048576 := by omega
        clear hcl hx hlast hbt hlen hne htk hc
        generalize hxx : s.extract g k = x at *
        generalize (cutL c (s.data.toList.take k)).length - 1 = m at *
        generalize svs (cutL c (s.data.toList.take k)).dropLast = xs at *
        go_wp2_with (at_builtin; refine wpList_append_own _ rfl _ _ 48 rfl w.heap.size 9 ti (.string ByteArray.empty) 1 16 Tryz.underlying48 hi hz0 hz1 hz2 rfl (by decide) _ _ _ rfl (hown.alloc _) ⟨wr.heap.size, 0, none⟩ 1 1 [.string x] rfl rfl ?c1 ?c2 ?c3 ?c4 ?c5 ?_)
        case c1 =>
          intro j u hj
          match j, hj with
          | 0, hj => simp at hj; subst hj; simp [Addr.add]
        case c2 => intro u hu; simp at hu; subst hu; rfl
        case c3 => unfold maxLen; omega
        case c4 => omega
        case c5 => have := hb.size; simp; omega
        · intro v' w4 hown' hgrow _
          have B4 := own_grow (balloc (.cells #[.string x] 9) hb) (by have := hb.size; simp; omega) (hown.alloc _) hgrow
          clear hown hgrow hb
          go_wp2
          go_roundw
          case rel => exact ⟨k + 1, k + 1, by go_num, by go_num, by omega, hct, by rw [hsv.out, hln.out]; exact hown', B4⟩
          case measure => simp [intOf]; omega
      · have hq1 : ¬ s[k].toNat = c.toNat := by rw [hbt]; exact fun e => hq (UInt8.toNat_inj.1 e)
        have hq2 : ((s[k].toNat : Int) == (c.toNat : Int)) = false := by rw [beq_eq_false_iff_ne]; omega
        clear hbt hx
        go_wp2
        go_roundw
        case rel =>
          have hcl := cutL_last c (byt s k) (s.data.toList.take k)
          rw [if_neg hq] at hcl
          refine ⟨k + 1, g, by go_num, rfl, by omega, ⟨by omega, ?_⟩, ?_, hb⟩
          · have hgl : ∀ (a : List (List UInt8)) (b : List UInt8), (a ++ [b]).getLastD [] = b := fun a b => by simp
            rw [htk, hcl, hgl, hlast, List.drop_append_of_le_length (by simp; omega)]
          · rw [htk, hcl]
            simpa using hown
        case measure => simp [intOf]; omega
    · obtain rfl : k = s.size := by omega
      rw [List.take_of_length_le (by omega)] at hown hlast hlen hne hx
      have hx2 : s.extract g s.size = ⟨(s.data.toList.drop g).toArray⟩ := hx
      have hsv : Hid (svs (cutL c s.data.toList) = svs (cutL c s.data.toList).dropLast ++ [.string (s.extract g s.size)]) := by
        unfold Hid
        rw [hx2, ← hlast]
        conv => lhs; rw [← last_back hne]
        simp [svs]
      have hln : Hid ((cutL c s.data.toList).length = (cutL c s.data.toList).length - 1 + 1) := by
        unfold Hid
        have := List.length_pos_iff.2 hne
        omega
      have hle : (cutL c s.data.toList).length - 1 ≤ 1048576 := by omega
      clear hx hx2 hlast hlen hne hc
      generalize hxx : s.extract g s.size = x at *
      generalize (cutL c s.data.toList).length - 1 = m at *
      generalize svs (cutL c s.data.toList).dropLast = xs at *
      go_wp2_with (at_builtin; refine wpList_append_own _ rfl _ _ 48 rfl w.heap.size 9 ti (.string ByteArray.empty) 1 16 Tryz.underlying48 hi hz0 hz1 hz2 rfl (by decide) _ _ _ rfl (hown.alloc _) ⟨wr.heap.size, 0, none⟩ 1 1 [.string x] rfl rfl ?c1 ?c2 ?c3 ?c4 ?c5 ?_)
      case c1 =>
        intro j u hj
        match j, hj with
        | 0, hj => simp at hj; subst hj; simp [Addr.add]
      case c2 => intro u hu; simp at hu; subst hu; rfl
      case c3 => unfold maxLen; omega
      case c4 => omega
      case c5 => have := hb.size; simp; omega
      · intro v' w4 hown' hgrow _
        have B4 := own_grow (balloc (.cells #[.string x] 9) hb) (by have := hb.size; simp; omega) (hown.alloc _) hgrow
        clear hown hgrow hb
        go_wp2
        go_ret
        exact ⟨_, rfl, by rw [hsv.out, hln.out]; exact hown', B4⟩
set_option maxRecDepth 20000 in
set_option maxHeartbeats 4000000 in
theorem snum_any (s : ByteArray) (w : World) (hs : s.size ≤ 1048576) :
    Calls Tryz.prog 46 #[.string s] w fun e w' => e = .returned (.int .i64 (mnum s.data.toList)) ∧ Below w.heap.size w w' := by
  have hL : s.data.toList.length = s.size := by simp
  by_cases h1 : s.size < 1 ∨ 6 < s.size
  · have e1 : mnum s.data.toList = -1 := by
      unfold mnum
      rw [if_pos (by rw [hL]; omega)]
    have hin : Hid (inb (s.size : Int) 1 6 = false) := by
      unfold Hid inb
      rcases h1 with h1 | h1
      · have : ¬ (1 : Int) ≤ (s.size : Int) := by omega
        simp [this]
      · have : ¬ (s.size : Int) ≤ 6 := by omega
        simp [this]
    rw [e1]
    go_enter Tryz.func46, Tryz.ntmps46
    go_wp2_with fail
    refine (sin_lit s.size 1 6 false hin.out _).mono ?_
    rintro r w1 ⟨rfl, rfl⟩
    go_wp2
    go_ret
    exact ⟨rfl, Below.refl _ _⟩
  · have hin : Hid (inb (s.size : Int) 1 6 = true) := by
      unfold Hid inb
      have a1 : (1 : Int) ≤ (s.size : Int) := by omega
      have a2 : (s.size : Int) ≤ 6 := by omega
      simp [a1, a2]
    have h0 : 0 < s.size := by omega
    have hb0 := byt_at s 0 h0
    have hhd : s.data.toList.head? = some (byt s 0) := by
      have := byt_drop s 0 h0
      rw [List.drop_zero] at this
      rw [this]
      rfl
    by_cases h2 : 1 < s.size ∧ byt s 0 = 48
    · have e1 : mnum s.data.toList = -1 := by
        unfold mnum
        rw [if_pos (by rw [hL, hhd, h2.2]; exact .inr (.inr ⟨h2.1, rfl⟩))]
      have hb1 : s[0].toNat = 48 := by rw [hb0, h2.2]; rfl
      have hgt : (1 : Int) < (s.size : Int) := by omega
      rw [e1]
      clear hb0 hhd
      go_enter Tryz.func46, Tryz.ntmps46
      go_wp2_with fail
      refine (sin_lit s.size 1 6 true hin.out _).mono ?_
      rintro r w1 ⟨rfl, rfl⟩
      go_wp2
      go_ret
      exact ⟨rfl, Below.refl _ _⟩
    · have e1 : mnum s.data.toList = mdig 0 s.data.toList := by
        unfold mnum
        rw [if_neg (by rw [hL, hhd]; rintro (h | h | h); · omega
                       · omega
                       · exact h2 ⟨h.1, Option.some.inj h.2⟩)]
      rw [e1]
      clear hhd
      by_cases h3 : 1 < s.size
      · have hb1 : ¬ s[0].toNat = 48 := by
          intro e
          rw [hb0] at e
          exact h2 ⟨h3, UInt8.toNat_inj.1 e⟩
        have hgt : (1 : Int) < (s.size : Int) := by omega
        clear h2 hb0 e1
        go_enter Tryz.func46, Tryz.ntmps46
        go_wp2_with fail
        refine (sin_lit s.size 1 6 true hin.out _).mono ?_
        rintro r w1 ⟨rfl, rfl⟩
        go_wp2
        clear hb1
        go_loopw [3, 4] (fun v i wr => ∃ k acc : Nat, k ≤ s.size ∧ i = .int .i64 k ∧ v = .int .i64 acc ∧ acc + 1 ≤ 10 ^ k ∧ mdig 0 s.data.toList = mdig acc (s.data.toList.drop k) ∧ wr = w1) (fun _ i _ => s.size - (intOf i).toNat)
        case atStart => exact ⟨0, 0, by omega, rfl, rfl, by omega, rfl, rfl⟩
        case round =>
          obtain ⟨k, acc, hk, rfl, rfl, ha, hd, rfl⟩ := hrel
          by_cases hlt : k < s.size
          · have hbt := congrArg UInt8.toNat (byt_at s k hlt)
            have hdr := byt_drop s k hlt
            have hp : 10 ^ k ≤ 10 ^ 5 := Nat.pow_le_pow_right (by omega) (by omega)
            have hp1 : 10 ^ (k + 1) = 10 ^ k * 10 := Nat.pow_succ ..
            have hlt' : (k : Int) < (s.size : Int) := by omega
            rw [hdr, mdig] at hd
            generalize hcv : (byt s k).toNat = cv at *
            have hd' : Hid (mdig 0 s.data.toList = if cv < 48 ∨ 57 < cv then -1 else mdig ((acc : Int) * 10 + ((cv : Int) - 48)) (List.drop (k + 1) s.data.toList)) := hd
            clear hd hdr hcv
            have ha5 : acc < 100000 := by omega
            have ha6 : Hid (acc * 10 + 10 ≤ 10 ^ (k + 1)) := by unfold Hid; omega
            clear hp hp1 ha
            by_cases hc1 : cv < 48
            · have e2 : Hid (mdig 0 s.data.toList = -1) := by unfold Hid; rw [hd'.out, if_pos (.inl hc1)]
              clear hd'
              have hc1' : (cv : Int) < 48 := by omega
              go_wp2
              go_ret
              exact ⟨by rw [e2.out]; rfl, Below.refl _ _⟩
            · by_cases hc2 : 57 < cv
              · have e2 : Hid (mdig 0 s.data.toList = -1) := by unfold Hid; rw [hd'.out, if_pos (.inr hc2)]
                clear hd'
                have hc1' : ¬ (cv : Int) < 48 := by omega
                have hc2' : 57 < (cv : Int) := by omega
                go_wp2
                go_ret
                exact ⟨by rw [e2.out]; rfl, Below.refl _ _⟩
              · have e2 : Hid (mdig 0 s.data.toList = mdig ((acc : Int) * 10 + ((cv : Int) - 48)) (List.drop (k + 1) s.data.toList)) := by unfold Hid; rw [hd'.out, if_neg (by omega)]
                clear hd'
                have hc1' : ¬ (cv : Int) < 48 := by omega
                have hc2' : ¬ 57 < (cv : Int) := by omega
                go_wp2
                go_roundw
                case rel =>
                  refine ⟨k + 1, acc * 10 + (cv - 48), by omega, by go_num, by go_num, by have := ha6.out; omega, ?_, trivial⟩
                  rw [e2.out]
                  congr 1
                  omega
                case measure => simp [intOf]; omega
          · obtain rfl : k = s.size := by omega
            have e2 : Hid (mdig 0 s.data.toList = acc) := by
              unfold Hid
              rw [hd, List.drop_eq_nil_of_le (by omega)]
              rfl
            clear hd ha
            go_wp2
            go_ret
            exact ⟨by rw [e2.out]; rfl, Below.refl _ _⟩
      · have hb1 : ¬ (1 : Int) < (s.size : Int) := by omega
        clear h2 hb0 e1
        go_enter Tryz.func46, Tryz.ntmps46
        go_wp2_with fail
        refine (sin_lit s.size 1 6 true hin.out _).mono ?_
        rintro r w1 ⟨rfl, rfl⟩
        go_wp2
        clear hb1
        go_loopw [3, 4] (fun v i wr => ∃ k acc : Nat, k ≤ s.size ∧ i = .int .i64 k ∧ v = .int .i64 acc ∧ acc + 1 ≤ 10 ^ k ∧ mdig 0 s.data.toList = mdig acc (s.data.toList.drop k) ∧ wr = w1) (fun _ i _ => s.size - (intOf i).toNat)
        case atStart => exact ⟨0, 0, by omega, rfl, rfl, by omega, rfl, rfl⟩
        case round =>
          obtain ⟨k, acc, hk, rfl, rfl, ha, hd, rfl⟩ := hrel
          by_cases hlt : k < s.size
          · have hbt := congrArg UInt8.toNat (byt_at s k hlt)
            have hdr := byt_drop s k hlt
            have hp : 10 ^ k ≤ 10 ^ 5 := Nat.pow_le_pow_right (by omega) (by omega)
            have hp1 : 10 ^ (k + 1) = 10 ^ k * 10 := Nat.pow_succ ..
            have hlt' : (k : Int) < (s.size : Int) := by omega
            rw [hdr, mdig] at hd
            generalize hcv : (byt s k).toNat = cv at *
            have hd' : Hid (mdig 0 s.data.toList = if cv < 48 ∨ 57 < cv then -1 else mdig ((acc : Int) * 10 + ((cv : Int) - 48)) (List.drop (k + 1) s.data.toList)) := hd
            clear hd hdr hcv
            have ha5 : acc < 100000 := by omega
            have ha6 : Hid (acc * 10 + 10 ≤ 10 ^ (k + 1)) := by unfold Hid; omega
            clear hp hp1 ha
            by_cases hc1 : cv < 48
            · have e2 : Hid (mdig 0 s.data.toList = -1) := by unfold Hid; rw [hd'.out, if_pos (.inl hc1)]
              clear hd'
              have hc1' : (cv : Int) < 48 := by omega
              go_wp2
              go_ret
              exact ⟨by rw [e2.out]; rfl, Below.refl _ _⟩
            · by_cases hc2 : 57 < cv
              · have e2 : Hid (mdig 0 s.data.toList = -1) := by unfold Hid; rw [hd'.out, if_pos (.inr hc2)]
                clear hd'
                have hc1' : ¬ (cv : Int) < 48 := by omega
                have hc2' : 57 < (cv : Int) := by omega
                go_wp2
                go_ret
                exact ⟨by rw [e2.out]; rfl, Below.refl _ _⟩
              · have e2 : Hid (mdig 0 s.data.toList = mdig ((acc : Int) * 10 + ((cv : Int) - 48)) (List.drop (k + 1) s.data.toList)) := by unfold Hid; rw [hd'.out, if_neg (by omega)]
                clear hd'
                have hc1' : ¬ (cv : Int) < 48 := by omega
                have hc2' : ¬ 57 < (cv : Int) := by omega
                go_wp2
                go_roundw
                case rel =>
                  refine ⟨k + 1, acc * 10 + (cv - 48), by omega, by go_num, by go_num, by have := ha6.out; omega, ?_, trivial⟩
                  rw [e2.out]
                  congr 1
                  omega
                case measure => simp [intOf]; omega
          · obtain rfl : k = s.size := by omega
            have e2 : Hid (mdig 0 s.data.toList = acc) := by
              unfold Hid
              rw [hd, List.drop_eq_nil_of_le (by omega)]
              rfl
            clear hd ha
            go_wp2
            go_ret
            exact ⟨by rw [e2.out]; rfl, Below.refl _ _⟩
end Go.Proofs.YtibnojbhoepcdaaGreatDoor
