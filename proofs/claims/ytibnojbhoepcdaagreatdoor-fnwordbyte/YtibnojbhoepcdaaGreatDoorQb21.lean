/- Texts of the proof, laid together: Lm2, Conv, LWb. -/
import Derived.Test.YtibnojbhoepcdaaGreatDoorQb20
import Derived.Laws.IdiomStrings
import Derived.Laws.BitsAllLaws
/- The sum tells one byte from another. -/
namespace Go.Proofs.YtibnojbhoepcdaaGreatDoor
theorem xor_back {a b c : Nat} (h : a ^^^ c = b ^^^ c) : a = b := by
  have := congrArg (· ^^^ c) h
  simpa [Nat.xor_assoc] using this
theorem stp_top {x : Nat} (h : x < 4294967296) : (S.stp x).testBit 31 = decide (x % 2 = 1) := by
  have h1 : (x / 2).testBit 31 = false := Nat.testBit_lt_two_pow (by omega)
  have h2 : (3988292384 : Nat).testBit 31 = true := by decide
  unfold S.stp
  split
  · next e => rw [Nat.testBit_xor, h1, h2]; simp [e]
  · next e => rw [h1]; simp [e]
theorem stp_inj {x y : Nat} (hx : x < 4294967296) (hy : y < 4294967296) (h : S.stp x = S.stp y) : x = y := by
  have ht := stp_top hx
  rw [h, stp_top hy] at ht
  have hp : (y % 2 = 1) ↔ (x % 2 = 1) := by simpa using ht
  unfold S.stp at h
  by_cases hx1 : x % 2 = 1
  · rw [if_pos hx1, if_pos (hp.2 hx1)] at h
    have := xor_back h
    have := hp.2 hx1
    omega
  · rw [if_neg hx1, if_neg (fun e => hx1 (hp.1 e))] at h
    have : ¬ y % 2 = 1 := fun e => hx1 (hp.1 e)
    omega
theorem stpN_inj : ∀ (k x y : Nat), x < 4294967296 → y < 4294967296 → S.stpN k x = S.stpN k y → x = y
  | 0, _, _, _, _, h => h
  | k + 1, x, y, hx, hy, h => stpN_inj k x y hx hy (stp_inj (S.stpN_lt k x hx) (S.stpN_lt k y hy) h)
theorem crc_apart (f g : Nat → Nat) (hf : ∀ i, f i < 256) (hg : ∀ i, g i < 256) (k0 : Nat) (he : ∀ i, i ≠ k0 → f i = g i) (hk : f k0 ≠ g k0) : ∀ n, (n ≤ k0 → S.crcN f n = S.crcN g n) ∧ (k0 < n → S.crcN f n ≠ S.crcN g n)
  | 0 => ⟨fun _ => rfl, fun h => by omega⟩
  | n + 1 => by
    have ih := crc_apart f g hf hg k0 he hk n
    have a1 : S.crcN f n ^^^ f n < 4294967296 := S.xor_lt _ _ (S.crcN_lt f hf n) (by have := hf n; omega)
    have a2 : S.crcN g n ^^^ g n < 4294967296 := S.xor_lt _ _ (S.crcN_lt g hg n) (by have := hg n; omega)
    constructor
    · intro h
      show S.st8 _ = S.st8 _
      rw [ih.1 (by omega), he n (by omega)]
    · intro h e
      have e1 := stpN_inj 8 _ _ a1 a2 e
      by_cases hn : n = k0
      · subst hn
        rw [ih.1 (Nat.le_refl _)] at e1
        rw [Nat.xor_comm _ (f n), Nat.xor_comm _ (g n)] at e1
        exact hk (xor_back e1)
      · rw [he n hn] at e1
        exact ih.2 (by omega) (xor_back e1)
theorem byt_list (l : List UInt8) (i : Nat) : S.byt (bs l) i = (l[i]?.getD 0).toNat := by
  first | rfl | (unfold S.byt; simp)
theorem sum_apart (l : List UInt8) (k : Nat) (c : UInt8) (hk : k < l.length) (hc : l[k]? ≠ some c) : S.sumN (bs (l.set k c)) ≠ S.sumN (bs l) := by
  intro h
  unfold S.sumN at h
  have h1 := xor_back h
  have hz : (bs (l.set k c)).size = (bs l).size := by
    show (l.set k c).length = l.length
    simp
  rw [hz] at h1
  refine (crc_apart (S.byt (bs (l.set k c))) (S.byt (bs l)) (S.byt_lt _) (S.byt_lt _) k (fun i hi => ?_) ?_ (bs l).size).2 hk h1
  · rw [byt_list, byt_list, List.getElem?_set_ne (fun e => hi e.symm)]
  · rw [byt_list, byt_list, List.getElem?_set_self hk]
    intro e
    apply hc
    rw [List.getElem?_eq_getElem hk] at e ⊢
    simp only [Option.getD_some] at e
    rw [UInt8.toNat_inj.1 e]
theorem hexP_inj : ∀ (k m n : Nat), m < 16 ^ k → n < 16 ^ k → S.hexP k m = S.hexP k n → m = n
  | 0, m, n, hm, hn, _ => by simp at hm hn; omega
  | k + 1, m, n, hm, hn, h => by
    rw [S.hexP, S.hexP] at h
    obtain ⟨h1, h2⟩ := List.append_inj' h rfl
    have hd : ∀ a b : Fin 16, S.hexD a.val = S.hexD b.val → a = b := by decide
    have e1 := hexP_inj k (m / 16) (n / 16) (by rw [Nat.pow_succ] at hm; omega) (by rw [Nat.pow_succ] at hn; omega) h1
    have e2 := hd ⟨m % 16, Nat.mod_lt _ (by omega)⟩ ⟨n % 16, Nat.mod_lt _ (by omega)⟩ (List.cons.inj h2).1
    have e3 : m % 16 = n % 16 := congrArg Fin.val e2
    omega
theorem hex_inj {m n : Nat} (hm : m < 4294967296) (hn : n < 4294967296) (h : S.hex8 m = S.hex8 n) : m = n := hexP_inj 8 m n hm hn h
/-- a word of which one byte is another one is none -/
theorem no_byte (W : Wd) (k : Nat) (c : UInt8) (hk : k < W.txt.length) (hc : W.txt[k]? ≠ some c) : NoWd (W.txt.set k c) := by
  intro V hv e
  have e1 := congrArg List.length e
  rw [List.length_set] at e1
  have hl : W.body.length = V.body.length := by
    have := txt_at (W := W)
    have := txt_at (W := V)
    omega
  have lw := txt_at (W := W)
  have hh : W.hex.length = 8 := S.hexP_len 8 _
  by_cases hk1 : k < W.body.length
  · have e2 : W.txt.set k c = W.body.set k c ++ 32 :: W.hex := by
      unfold Wd.txt
      rw [List.set_append_left _ _ hk1]
    rw [e2] at e
    obtain ⟨f1, f2⟩ := List.append_inj e (by rw [List.length_set]; exact hl)
    have f3 : W.hex = V.hex := (List.cons.inj f2).2
    unfold Wd.hex at f3
    rw [← f1] at f3
    have f4 := hex_inj (sumN_lt _) (sumN_lt _) f3
    refine sum_apart W.body k c hk1 ?_ f4.symm
    intro e5
    apply hc
    unfold Wd.txt
    rw [List.getElem?_append_left hk1]
    exact e5
  · have e2 : W.txt.set k c = W.body ++ (32 :: W.hex).set (k - W.body.length) c := by
      unfold Wd.txt
      rw [List.set_append_right _ _ (by omega)]
    rw [e2] at e
    obtain ⟨f1, f2⟩ := List.append_inj e hl
    have f3 : V.hex = W.hex := by unfold Wd.hex; rw [f1]
    rw [f3] at f2
    apply hc
    have f4 := congrArg (fun l => l[k - W.body.length]?) f2
    try dsimp only at f4
    rw [List.getElem?_set_self (by rw [List.length_cons, hh]; omega)] at f4
    unfold Wd.txt
    rw [List.getElem?_append_right (by omega)]
    exact f4.symm
end Go.Proofs.YtibnojbhoepcdaaGreatDoor
/- A text turned into bytes. -/
namespace Go.Proofs.YtibnojbhoepcdaaGreatDoor
open Go.ChangeShapes Go.WideShapes Go.ChangeAt Go.RowKit
structure Cv (l : List UInt8) (w u : World) (g : Nat) : Prop where
  b : Below w.heap.size w u
  lt : g < u.heap.size
  le : w.heap.size ≤ g
  c : ∀ j (h : j < l.length), u.cell? ⟨g, j, none⟩ = some (.int .u8 (l[j].toNat : Int))
  z : ∀ j, j < l.length → u.frozen? ⟨g, j, none⟩ = false
theorem conv_any (s : ByteArray) (w : World) : ∃ cap u, (convert 9 22 (.string s)).run Tryz.prog w = .ok (.slice (some ⟨w.heap.size, 0, none⟩) s.size cap) u ∧ s.size ≤ cap ∧ Cv s.data.toList w u w.heap.size := by
  refine ⟨_, _, run_bytes_of_string w 9 22 5 s Tryz.underlying9 Tryz.underlying22 Tryz.underlying5, grownCap_ge _ _ _ _, ?_⟩
  have hL : s.data.toList.length = s.size := by simp
  obtain ⟨R, hR⟩ : ∃ R, bytesRow s (grownCap w s.size 0 5) = R := ⟨_, rfl⟩
  have hz : s.size ≤ R.size := by rw [← hR, bytesRow]; simp
  have hb : (w.drew.alloc (.cells R 5 (R.size, R.size + 1))).heap[w.heap.size]? = some (.cells R 5 (R.size, R.size + 1)) := heap_alloc_new w.drew _
  rw [hR]
  refine ⟨balloc _ (qd (Below.refl _ _)), lt_of_block hb, Nat.le_refl _, fun j hj => ?_, fun j hj => ?_⟩
  · have hcell : (w.drew.alloc (.cells R 5 (R.size, R.size + 1))).cell? ⟨w.heap.size, j, none⟩ = R[j]? := by
      unfold World.cell?
      simp only [hb]
      rfl
    rw [hcell]
    rw [← hR, bytesRow]
    have hj' : j < s.data.size := by simpa using hj
    rw [Array.getElem?_append_left (by simpa using hj'), Array.getElem?_map, Array.getElem?_eq_getElem hj']
    simp
  · have : j < R.size := by omega
    unfold World.frozen?
    simp only [hb]
    have hn : ¬ R.size ≤ j := by omega
    simp [hn]
end Go.Proofs.YtibnojbhoepcdaaGreatDoor
/- A word of which one byte is another one: the law walked. -/
namespace Go.Proofs.YtibnojbhoepcdaaGreatDoor
open Go.ChangeShapes Go.WideShapes Go.ChangeAt Go.RowKit
attribute [local go_sem ↓] Go.wp_at_zero Go.wp_at_succ
theorem xor_byte (v : UInt8) (x : Int) (h1 : 1 ≤ x) (h2 : x ≤ 255) : ∃ c : UInt8, bits BinOp.xor IntKind.u8 (v.toNat : Int) x = (c.toNat : Int) ∧ c ≠ v := by
  obtain ⟨m, rfl⟩ : ∃ m : Nat, x = m := ⟨x.toNat, by omega⟩
  have hv : v.toNat < 256 := v.toNat_lt
  have hx : v.toNat ^^^ m < 256 := Nat.xor_lt_two_pow (n := 8) hv (by omega)
  have hc : (UInt8.ofNat (v.toNat ^^^ m)).toNat = v.toNat ^^^ m := by
    rw [UInt8.toNat_ofNat']
    exact Nat.mod_eq_of_lt hx
  refine ⟨UInt8.ofNat (v.toNat ^^^ m), by rw [u8_xor_nat _ _ hv (by omega), hc], fun e => ?_⟩
  have e1 := congrArg UInt8.toNat e
  rw [hc] at e1
  have e2 : m ^^^ v.toNat = 0 ^^^ v.toNat := by rw [Nat.xor_comm, e1, Nat.zero_xor]
  have := xor_back e2
  omega
theorem set_cells {l : List UInt8} {w u : World} {g kn : Nat} (C : Cv l w u g) (hk : kn < l.length) (c : UInt8) : ∀ j (hj : j < (l.set kn c).length), (u.setCell ⟨g, kn, none⟩ (.int .u8 (c.toNat : Int))).cell? ((⟨g, 0, none⟩ : Addr).add j) = some (.int .u8 ((l.set kn c)[j].toNat : Int)) := by
  intro j hj
  have hj' : j < l.length := by rwa [List.length_set] at hj
  have ea : (⟨g, 0, none⟩ : Addr).add j = ⟨g, j, none⟩ := by
    simp [Addr.add]
    exact fun h => h.symm
  rw [ea]
  by_cases e : kn = j
  · subst e
    rw [World.cell?_setCell_same' _ _ _ (by rw [C.c kn hk]; rfl), List.getElem_set_self]
  · rw [World.cell?_setCell_other _ _ _ _ (by simp), C.c j hj', List.getElem_set_ne e]
set_option maxRecDepth 20000 in
set_option maxHeartbeats 16000000 in
theorem byte_walk (a0 a1 : Option Addr) (l0 c0 l1 c1 : Nat) (w : World) (h0 : Bytes w.heap.size w a0 l0) (hc0 : l0 ≤ c0) (h1 : Bytes w.heap.size w a1 l1) (hp : Pst w) (hd : w.cell? ⟨9, 15, none⟩ = some (.int .u8 4)) :
    Calls Tryz.prog 5 #[.slice a0 l0 c0, .slice a1 l1 c1] w fun r w' => r = .returned (.bool true) ∧ Below w.heap.size w w' := by
  by_cases g0 : (1048576 : Int) < (l0 : Int)
  · go_enter Tryz.func5, Tryz.ntmps5
    go_wp2
    go_ret
    exact ⟨rfl, Below.refl _ _⟩
  by_cases g1 : (1048576 : Int) < (l1 : Int)
  · go_enter Tryz.func5, Tryz.ntmps5
    go_wp2
    go_ret
    exact ⟨rfl, Below.refl _ _⟩
  go_enter Tryz.func5, Tryz.ntmps5
  go_wp2_with fail
  refine (drawWW_any a0 l0 c0 w h0 hc0).mono ?_
  rintro _ w1 ⟨W, ad, cp, rfl, own1, hT7, B1⟩
  have b1 := balloc (.cells #[.int .i64 W.p, .int .i64 W.k, .int .i64 W.f, .int .i64 W.t, .int .i64 W.s, .int .i64 W.q, .int .i64 W.x, .int .i64 W.y, .int .i64 W.z, .int .i64 W.e, .slice ad W.T.length cp] 35) (Below.refl w1.heap.size w1)
  have X1 : Ws (w1.alloc (.cells #[.int .i64 W.p, .int .i64 W.k, .int .i64 W.f, .int .i64 W.t, .int .i64 W.s, .int .i64 W.q, .int .i64 W.x, .int .i64 W.y, .int .i64 W.z, .int .i64 W.e, .slice ad W.T.length cp] 35)) w1.heap.size [.int .i64 W.p, .int .i64 W.k, .int .i64 W.f, .int .i64 W.t, .int .i64 W.s, .int .i64 W.q, .int .i64 W.x, .int .i64 W.y, .int .i64 W.z, .int .i64 W.e, .slice ad W.T.length cp] := Ws.new (heap_alloc_new w1 (.cells #[.int .i64 W.p, .int .i64 W.k, .int .i64 W.f, .int .i64 W.t, .int .i64 W.s, .int .i64 W.q, .int .i64 W.x, .int .i64 W.y, .int .i64 W.z, .int .i64 W.e, .slice ad W.T.length cp] 35))
  have B2 := btrans B1 b1
  have o2 := own_below own1 b1
  go_upto_region 4 with fail
  generalize w1.alloc (.cells #[.int .i64 W.p, .int .i64 W.k, .int .i64 W.f, .int .i64 W.t, .int .i64 W.s, .int .i64 W.q, .int .i64 W.x, .int .i64 W.y, .int .i64 W.z, .int .i64 W.e, .slice ad W.T.length cp] 35) = u1 at *
  generalize w1.heap.size = b5 at *
  clear B1 b1 own1 w1
  have hFS : FSl u1 ad W.T.length (atF W.T) := by
    obtain ⟨ad', cp', e0, -, -, hf⟩ := own_facts o2
    injection e0 with e0 _ _
    subst e0
    exact hf
  have hTl : W.T.length ≤ 1048576 := by omega
  obtain ⟨X, hX⟩ : ∃ X, Hid (W.tx = X) := ⟨_, rfl⟩
  have hWr := write_any W.p W.k W.f W.t W.s W.q W.x W.y W.z W.e ad W.T.length cp (atF W.T) u1 hFS hTl (hp.below B2).t (keep_below B2 hd)
  rw [show wtx W.p W.k W.f W.t W.s W.q W.x W.y W.z W.e W.T.length (atF W.T) = X from hX.out] at hWr
  have d0 := X1.c 0 (.int .i64 W.p) rfl
  have d1 := X1.c 1 (.int .i64 W.k) rfl
  have d2 := X1.c 2 (.int .i64 W.f) rfl
  have d3 := X1.c 3 (.int .i64 W.t) rfl
  have d4 := X1.c 4 (.int .i64 W.s) rfl
  have d5 := X1.c 5 (.int .i64 W.q) rfl
  have d6 := X1.c 6 (.int .i64 W.x) rfl
  have d7 := X1.c 7 (.int .i64 W.y) rfl
  have d8 := X1.c 8 (.int .i64 W.z) rfl
  have d9 := X1.c 9 (.int .i64 W.e) rfl
  have d10 := X1.c 10 (.slice ad W.T.length cp) rfl
  go_wp2_with fail
  refine hWr.mono ?_
  rintro _ w2 ⟨rfl, b2⟩
  clear hWr
  have X2 := X1.below b2
  have B3 := btrans B2 b2
  have hF2 := hFS.below b2
  have hLw := lwrite_any W.p W.k W.f W.t W.s W.q W.x W.y W.z W.e ad W.T.length cp (atF W.T) w2 hF2 hTl
  rw [show wtx W.p W.k W.f W.t W.s W.q W.x W.y W.z W.e W.T.length (atF W.T) = X from hX.out] at hLw
  clear d0 d1 d2 d3 d4 d5 d6 d7 d8 d9 d10 X1 B2 hFS b2 o2
  have hXX : (X.toList != X.toList) = false := by simp
  have hXe : (X.toList == X.toList) = true := by simp
  go_upto_region 5 with fail
  have d0 := X2.c 0 (.int .i64 W.p) rfl
  have d1 := X2.c 1 (.int .i64 W.k) rfl
  have d2 := X2.c 2 (.int .i64 W.f) rfl
  have d3 := X2.c 3 (.int .i64 W.t) rfl
  have d4 := X2.c 4 (.int .i64 W.s) rfl
  have d5 := X2.c 5 (.int .i64 W.q) rfl
  have d6 := X2.c 6 (.int .i64 W.x) rfl
  have d7 := X2.c 7 (.int .i64 W.y) rfl
  have d8 := X2.c 8 (.int .i64 W.z) rfl
  have d9 := X2.c 9 (.int .i64 W.e) rfl
  have d10 := X2.c 10 (.slice ad W.T.length cp) rfl
  cases hok : W.ok
  · have hX0 : X = bs [] := by rw [← hX.out, wtx_no hok]
    have hemp : (X.toList == []) = true := by rw [hX0, ByteArray.toList_eq]; rfl
    go_wp2_with fail
    refine hLw.mono ?_
    rintro _ w3 ⟨rfl, b3⟩
    have X3 := X2.below b3
    have hLw3 := lwrite_any W.p W.k W.f W.t W.s W.q W.x W.y W.z W.e ad W.T.length cp (atF W.T) w3 (hF2.below b3) hTl
    rw [show wtx W.p W.k W.f W.t W.s W.q W.x W.y W.z W.e W.T.length (atF W.T) = X from hX.out] at hLw3
    clear hLw d0 d1 d2 d3 d4 d5 d6 d7 d8 d9 d10
    have B4 := btrans B3 b3
    go_upto_region 6 with fail
    have d0 := X3.c 0 (.int .i64 W.p) rfl
    have d1 := X3.c 1 (.int .i64 W.k) rfl
    have d2 := X3.c 2 (.int .i64 W.f) rfl
    have d3 := X3.c 3 (.int .i64 W.t) rfl
    have d4 := X3.c 4 (.int .i64 W.s) rfl
    have d5 := X3.c 5 (.int .i64 W.q) rfl
    have d6 := X3.c 6 (.int .i64 W.x) rfl
    have d7 := X3.c 7 (.int .i64 W.y) rfl
    have d8 := X3.c 8 (.int .i64 W.z) rfl
    have d9 := X3.c 9 (.int .i64 W.e) rfl
    have d10 := X3.c 10 (.slice ad W.T.length cp) rfl
    go_wp2_with fail
    refine hLw3.mono ?_
    rintro _ w4 ⟨rfl, b4⟩
    clear hLw3 d0 d1 d2 d3 d4 d5 d6 d7 d8 d9 d10
    go_wp2
    go_ret
    exact ⟨rfl, btrans B4 b4⟩
  · have hXt : X = bs W.txt := by rw [← hX.out, wtx_ok hok]
    have hXl : X.data.toList = W.txt := by rw [hXt]
    have hlen := txt_len hok
    have hsz : X.size = W.txt.length := by rw [hXt]; rfl
    have hemp : (X.toList == []) = false := by
      rw [beq_eq_false_iff_ne, ByteArray.toList_eq, hXl]
      intro e
      rw [e] at hlen
      simp at hlen
    clear hXt
    go_wp2_with fail
    refine hLw.mono ?_
    rintro _ w3 ⟨rfl, b3⟩
    have B4 := btrans B3 b3
    clear hLw d0 d1 d2 d3 d4 d5 d6 d7 d8 d9 d10 X2 hF2 b3 B3
    have hz0 : ¬ (W.txt.length : Int) = 0 := by omega
    obtain ⟨f, hf, hby⟩ := h1
    obtain ⟨kn, hkn⟩ : ∃ kn, l1 % W.txt.length = kn := ⟨_, rfl⟩
    have hk : kn < W.txt.length := by rw [← hkn]; exact Nat.mod_lt _ (by omega)
    have hki : (l1 : Int) % (W.txt.length : Int) = (kn : Int) := by omega
    have i0 : (0 : Int) ≤ (kn : Int) := by omega
    have i1 : (kn : Int) < (W.txt.length : Int) := by omega
    by_cases hl1 : l1 = 0
    · have g2 : ¬ (0 : Int) < (l1 : Int) := by omega
      clear hl1
      go_upto_region 11 with fail
      obtain ⟨cp9, u9, hcv, hcap, C⟩ := conv_any X w3
      rw [hXl] at C
      rw [hsz] at hcv hcap
      go_upto_region 12 with fail
      have c1 := C.c kn hk
      have z1 := C.z kn hk
      obtain ⟨c, hxr, hcn⟩ := xor_byte W.txt[kn] 1 (by omega) (by omega)
      have hcells : ∀ j (hj : j < (W.txt.set kn c).length), (u9.setCell ⟨w3.heap.size, kn, none⟩ (.int .u8 (c.toNat : Int))).cell? ((⟨w3.heap.size, 0, none⟩ : Addr).add j) = some (.int .u8 ((W.txt.set kn c)[j].toNat : Int)) := set_cells C hk c
      have hbk := run_convert_bytes_back (P := Tryz.prog) (u9.setCell ⟨w3.heap.size, kn, none⟩ (.int .u8 (c.toNat : Int))) 22 9 5 ⟨w3.heap.size, 0, none⟩ cp9 (W.txt.set kn c) Tryz.underlying22 Tryz.underlying5 Tryz.underlying9 hcells
      rw [List.length_set] at hbk
      have B5 : Below w.heap.size w (u9.setCell ⟨w3.heap.size, kn, none⟩ (.int .u8 (c.toNat : Int))) := (btrans B4 C.b).setCell (p := ⟨w3.heap.size, kn, none⟩) B4.size _
      go_upto_region 13 with fail
      clear c1 z1 hcells hcv C
      generalize u9.setCell ⟨w3.heap.size, kn, none⟩ (.int .u8 (c.toNat : Int)) = u10 at *
      have hzs : (bs (W.txt.set kn c)).size ≤ 1048576 := by
        show (W.txt.set kn c).length ≤ _
        rw [List.length_set]
        omega
      go_wp2_with fail
      refine (read_any (bs (W.txt.set kn c)) _ (hp.below B5) (keep_below B5 hd) hzs).mono ?_
      intro r1 w5 hrd
      obtain ⟨V1, e1, q1, rfl, b6⟩ := rd_no hrd (no_byte W kn c hk (by rw [List.getElem?_eq_getElem hk]; intro e; injection e with e; exact hcn e.symm))
      have B6 := btrans B5 b6
      clear hrd b6 hbk
      go_wp2_with fail
      refine (read_any _ _ (hp.below (btrans B6 (balloc _ (Below.refl _ _)))) (keep_below (btrans B6 (balloc _ (Below.refl _ _))) hd) (by omega)).mono ?_
      intro r4 w8 hrd
      obtain ⟨V4, e4, q4, rfl, b8⟩ := rd_yes hrd hok hXl
      have B8 := btrans (btrans B6 (balloc _ (Below.refl _ _))) b8
      clear hrd b8 B6
      go_wp2
      go_ret
      exact ⟨rfl, btrans B8 (balloc _ (Below.refl _ _))⟩
    · have g2 : (0 : Int) < (l1 : Int) := by omega
      rcases hby with hby | ⟨b, off, rfl, hlt, hce⟩
      · exact absurd hby hl1
      have e0 := keep_lt B4 hlt (hce 0 (by omega))
      rw [Nat.add_zero] at e0
      have hf0 := hf 0
      generalize f 0 = f0 at *
      by_cases hz : f0 = 0
      · subst hz
        go_upto_region 11 with fail
        obtain ⟨cp9, u9, hcv, hcap, C⟩ := conv_any X w3
        rw [hXl] at C
        rw [hsz] at hcv hcap
        go_upto_region 12 with fail
        have c1 := C.c kn hk
        have z1 := C.z kn hk
        obtain ⟨c, hxr, hcn⟩ := xor_byte W.txt[kn] 1 (by omega) (by omega)
        have hcells : ∀ j (hj : j < (W.txt.set kn c).length), (u9.setCell ⟨w3.heap.size, kn, none⟩ (.int .u8 (c.toNat : Int))).cell? ((⟨w3.heap.size, 0, none⟩ : Addr).add j) = some (.int .u8 ((W.txt.set kn c)[j].toNat : Int)) := set_cells C hk c
        have hbk := run_convert_bytes_back (P := Tryz.prog) (u9.setCell ⟨w3.heap.size, kn, none⟩ (.int .u8 (c.toNat : Int))) 22 9 5 ⟨w3.heap.size, 0, none⟩ cp9 (W.txt.set kn c) Tryz.underlying22 Tryz.underlying5 Tryz.underlying9 hcells
        rw [List.length_set] at hbk
        have B5 : Below w.heap.size w (u9.setCell ⟨w3.heap.size, kn, none⟩ (.int .u8 (c.toNat : Int))) := (btrans B4 C.b).setCell (p := ⟨w3.heap.size, kn, none⟩) B4.size _
        go_upto_region 13 with fail
        clear c1 z1 hcells hcv C
        generalize u9.setCell ⟨w3.heap.size, kn, none⟩ (.int .u8 (c.toNat : Int)) = u10 at *
        have hzs : (bs (W.txt.set kn c)).size ≤ 1048576 := by
          show (W.txt.set kn c).length ≤ _
          rw [List.length_set]
          omega
        go_wp2_with fail
        refine (read_any (bs (W.txt.set kn c)) _ (hp.below B5) (keep_below B5 hd) hzs).mono ?_
        intro r1 w5 hrd
        obtain ⟨V1, e1, q1, rfl, b6⟩ := rd_no hrd (no_byte W kn c hk (by rw [List.getElem?_eq_getElem hk]; intro e; injection e with e; exact hcn e.symm))
        have B6 := btrans B5 b6
        clear hrd b6 hbk
        go_wp2_with fail
        refine (read_any _ _ (hp.below (btrans B6 (balloc _ (Below.refl _ _)))) (keep_below (btrans B6 (balloc _ (Below.refl _ _))) hd) (by omega)).mono ?_
        intro r4 w8 hrd
        obtain ⟨V4, e4, q4, rfl, b8⟩ := rd_yes hrd hok hXl
        have B8 := btrans (btrans B6 (balloc _ (Below.refl _ _))) b8
        clear hrd b8 B6
        go_wp2
        go_ret
        exact ⟨rfl, btrans B8 (balloc _ (Below.refl _ _))⟩
      · have hzb : (f0 != 0) = true := by rw [bne_iff_ne]; exact hz
        go_upto_region 11 with fail
        obtain ⟨cp9, u9, hcv, hcap, C⟩ := conv_any X w3
        rw [hXl] at C
        rw [hsz] at hcv hcap
        go_upto_region 12 with fail
        have c1 := C.c kn hk
        have z1 := C.z kn hk
        obtain ⟨c, hxr, hcn⟩ := xor_byte W.txt[kn] f0 (by omega) (by omega)
        have hcells : ∀ j (hj : j < (W.txt.set kn c).length), (u9.setCell ⟨w3.heap.size, kn, none⟩ (.int .u8 (c.toNat : Int))).cell? ((⟨w3.heap.size, 0, none⟩ : Addr).add j) = some (.int .u8 ((W.txt.set kn c)[j].toNat : Int)) := set_cells C hk c
        have hbk := run_convert_bytes_back (P := Tryz.prog) (u9.setCell ⟨w3.heap.size, kn, none⟩ (.int .u8 (c.toNat : Int))) 22 9 5 ⟨w3.heap.size, 0, none⟩ cp9 (W.txt.set kn c) Tryz.underlying22 Tryz.underlying5 Tryz.underlying9 hcells
        rw [List.length_set] at hbk
        have B5 : Below w.heap.size w (u9.setCell ⟨w3.heap.size, kn, none⟩ (.int .u8 (c.toNat : Int))) := (btrans B4 C.b).setCell (p := ⟨w3.heap.size, kn, none⟩) B4.size _
        go_upto_region 13 with fail
        clear c1 z1 hcells hcv C
        generalize u9.setCell ⟨w3.heap.size, kn, none⟩ (.int .u8 (c.toNat : Int)) = u10 at *
        have hzs : (bs (W.txt.set kn c)).size ≤ 1048576 := by
          show (W.txt.set kn c).length ≤ _
          rw [List.length_set]
          omega
        go_wp2_with fail
        refine (read_any (bs (W.txt.set kn c)) _ (hp.below B5) (keep_below B5 hd) hzs).mono ?_
        intro r1 w5 hrd
        obtain ⟨V1, e1, q1, rfl, b6⟩ := rd_no hrd (no_byte W kn c hk (by rw [List.getElem?_eq_getElem hk]; intro e; injection e with e; exact hcn e.symm))
        have B6 := btrans B5 b6
        clear hrd b6 hbk
        go_wp2_with fail
        refine (read_any _ _ (hp.below (btrans B6 (balloc _ (Below.refl _ _)))) (keep_below (btrans B6 (balloc _ (Below.refl _ _))) hd) (by omega)).mono ?_
        intro r4 w8 hrd
        obtain ⟨V4, e4, q4, rfl, b8⟩ := rd_yes hrd hok hXl
        have B8 := btrans (btrans B6 (balloc _ (Below.refl _ _))) b8
        clear hrd b8 B6
        go_wp2
        go_ret
        exact ⟨rfl, btrans B8 (balloc _ (Below.refl _ _))⟩
end Go.Proofs.YtibnojbhoepcdaaGreatDoor
