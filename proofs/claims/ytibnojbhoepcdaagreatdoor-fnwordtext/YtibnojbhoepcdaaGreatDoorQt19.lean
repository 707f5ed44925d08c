/- Texts of the proof, laid together: LWt. -/
import Derived.Test.YtibnojbhoepcdaaGreatDoorQt16
import Derived.Test.YtibnojbhoepcdaaGreatDoorQt17
import Derived.Test.YtibnojbhoepcdaaGreatDoorQt18
/- A word written and read again: the law walked. -/
namespace Go.Proofs.YtibnojbhoepcdaaGreatDoor
open Go.ChangeShapes Go.WideShapes Go.ChangeAt Go.RowKit
attribute [local go_sem ↓] Go.wp_at_zero Go.wp_at_succ
theorem two_boxes (w : World) (c1 c2 : Array Value) (t1 t2 : TypeId) : Below w.heap.size w ((w.alloc (.cells c1 t1)).alloc (.cells c2 t2)) ∧ Ws ((w.alloc (.cells c1 t1)).alloc (.cells c2 t2)) w.heap.size c1.toList ∧ Ws ((w.alloc (.cells c1 t1)).alloc (.cells c2 t2)) (w.heap.size + 1) c2.toList := by
  have s1 : (w.alloc (.cells c1 t1)).heap.size = w.heap.size + 1 := Array.size_push _
  have h2 := heap_alloc_new (w.alloc (.cells c1 t1)) (.cells c2 t2)
  rw [s1] at h2
  exact ⟨balloc _ (balloc _ (Below.refl _ _)), Ws.new ((Below.heap_alloc _ _ _ (by rw [s1]; omega)).trans (heap_alloc_new w _)), Ws.new h2⟩
set_option maxRecDepth 20000 in
set_option maxHeartbeats 8000000 in
theorem lhWord_same (p k f t s q x y z e : Int) (a a' : Option Addr) (len cap cap' : Nat) (F : Nat → Fc) (w : World) (h : FSl w a len F) (h' : FSl w a' len F) (hl : len ≤ 1048576) :
    Calls Tryz.prog 19 #[.agg #[.int .i64 p, .int .i64 k, .int .i64 f, .int .i64 t, .int .i64 s, .int .i64 q, .int .i64 x, .int .i64 y, .int .i64 z, .int .i64 e, (.slice a len cap)], .agg #[.int .i64 p, .int .i64 k, .int .i64 f, .int .i64 t, .int .i64 s, .int .i64 q, .int .i64 x, .int .i64 y, .int .i64 z, .int .i64 e, (.slice a' len cap')]] w fun r w' => r = .returned (.bool true) ∧ Below w.heap.size w w' := by
  obtain ⟨b0, X, Y⟩ := two_boxes w #[.int .i64 p, .int .i64 k, .int .i64 f, .int .i64 t, .int .i64 s, .int .i64 q, .int .i64 x, .int .i64 y, .int .i64 z, .int .i64 e, (.slice a len cap)] #[.int .i64 p, .int .i64 k, .int .i64 f, .int .i64 t, .int .i64 s, .int .i64 q, .int .i64 x, .int .i64 y, .int .i64 z, .int .i64 e, (.slice a' len cap')] 35 35
  go_enter Tryz.func19, Tryz.ntmps19
  go_upto_region 1 with fail
  generalize ((w.alloc (.cells #[.int .i64 p, .int .i64 k, .int .i64 f, .int .i64 t, .int .i64 s, .int .i64 q, .int .i64 x, .int .i64 y, .int .i64 z, .int .i64 e, (.slice a len cap)] 35)).alloc (.cells #[.int .i64 p, .int .i64 k, .int .i64 f, .int .i64 t, .int .i64 s, .int .i64 q, .int .i64 x, .int .i64 y, .int .i64 z, .int .i64 e, (.slice a' len cap')] 35)) = u at *
  have d0 := X.c 0 _ rfl
  have m0 := Y.c 0 _ rfl
  have d1 := X.c 1 _ rfl
  have m1 := Y.c 1 _ rfl
  have d2 := X.c 2 _ rfl
  have m2 := Y.c 2 _ rfl
  have d3 := X.c 3 _ rfl
  have m3 := Y.c 3 _ rfl
  have d4 := X.c 4 _ rfl
  have m4 := Y.c 4 _ rfl
  have d5 := X.c 5 _ rfl
  have m5 := Y.c 5 _ rfl
  have d6 := X.c 6 _ rfl
  have m6 := Y.c 6 _ rfl
  have d7 := X.c 7 _ rfl
  have m7 := Y.c 7 _ rfl
  have d8 := X.c 8 _ rfl
  have m8 := Y.c 8 _ rfl
  have d9 := X.c 9 _ rfl
  have m9 := Y.c 9 _ rfl
  have d10 := X.c 10 _ rfl
  have m10 := Y.c 10 _ rfl
  go_wp2_with fail
  refine (lh_same a a' len cap cap' F _ (h.below b0) (h'.below b0) hl).mono ?_
  rintro r w1 ⟨rfl, b1⟩
  clear d0 d1 d2 d3 d4 d5 d6 d7 d8 d9 d10 m0 m1 m2 m3 m4 m5 m6 m7 m8 m9 m10
  go_wp2
  go_ret
  exact ⟨rfl, btrans b0 b1⟩
theorem wd_one {s : List UInt8} {W V : Wd} {q r : Bool} (h1 : q = true → W.ok = true ∧ s = W.txt) (n1 : q = false → NoWd s ∧ W = Wd.zero) (h2 : r = true → V.ok = true ∧ s = V.txt) (n2 : r = false → NoWd s ∧ V = Wd.zero) : r = q ∧ V = W := by
  cases q <;> cases r
  · exact ⟨rfl, (n2 rfl).2.trans (n1 rfl).2.symm⟩
  · exact absurd (h2 rfl).2 ((n1 rfl).1 V (h2 rfl).1)
  · exact absurd (h1 rfl).2 ((n2 rfl).1 W (h1 rfl).1)
  · exact ⟨rfl, txt_inj (h2 rfl).1 (h1 rfl).1 ((h2 rfl).2.symm.trans (h1 rfl).2)⟩
theorem wd_few2 {s : List UInt8} {W : Wd} {q : Bool} (h1 : q = true → W.ok = true ∧ s = W.txt) (n1 : q = false → NoWd s ∧ W = Wd.zero) : W.T.length ≤ 8 := by
  cases q
  · rw [(n1 rfl).2]
    exact Nat.zero_le _
  · exact tok_len (ok_facts (h1 rfl).1).2.2.2.2.2.2.2.2.2.2.2.2.2.2.2.2.2.2.2.2
theorem fsl_of {w : World} {base : Nat} {ad : Option Addr} {cp : Nat} {T : List Fc} (h : w.ownsRow base 53 4 (.slice ad T.length cp) T.length (fl T)) : FSl w ad T.length (atF T) := by
  obtain ⟨ad', cp', e0, -, -, hf⟩ := own_facts h
  injection e0 with e0 _ _
  subst e0
  exact hf
theorem bytes_up {B B' : Nat} {w : World} {a : Option Addr} {len : Nat} (h : Bytes B w a len) (hb : B ≤ B') : Bytes B' w a len := by
  obtain ⟨f, hf, h | ⟨b, off, e, hlt, hc⟩⟩ := h
  · exact ⟨f, hf, Or.inl h⟩
  · exact ⟨f, hf, Or.inr ⟨b, off, e, Nat.lt_of_lt_of_le hlt hb, hc⟩⟩
theorem nowd_nil : NoWd [] := fun W hW e => by
  have := (txt_len hW).2
  rw [← e] at this
  simp at this
set_option maxRecDepth 20000 in
set_option maxHeartbeats 16000000 in
theorem text_walk (a0 a1 : Option Addr) (l0 c0 l1 c1 : Nat) (w : World) (h0 : Bytes w.heap.size w a0 l0) (hc0 : l0 ≤ c0) (h1 : Bytes w.heap.size w a1 l1) (hc1 : l1 ≤ c1) (hp : Pst w) (hd : w.cell? ⟨9, 15, none⟩ = some (.int .u8 4)) :
    Calls Tryz.prog 4 #[.slice a0 l0 c0, .slice a1 l1 c1] w fun r w' => r = .returned (.bool true) ∧ Below w.heap.size w w' := by
  by_cases g0 : (1048576 : Int) < (l0 : Int)
  · go_enter Tryz.func4, Tryz.ntmps4
    go_wp2
    go_ret
    exact ⟨rfl, Below.refl _ _⟩
  by_cases g1 : (1048576 : Int) < (l1 : Int)
  · go_enter Tryz.func4, Tryz.ntmps4
    go_wp2
    go_ret
    exact ⟨rfl, Below.refl _ _⟩
  go_enter Tryz.func4, Tryz.ntmps4
  go_wp2_with fail
  refine (drawWR_any a0 l0 c0 w h0 hc0).mono ?_
  rintro _ w1 ⟨tx, rfl, htx, B1⟩
  go_wp2_with fail
  refine (read_any tx w1 (hp.below B1) (keep_below B1 hd) (by omega)).mono ?_
  rintro _ w2 ⟨W, a2, c2, q, rfl, hy, hn, o2, b2⟩
  have hT8 : W.T.length ≤ 1048576 := Nat.le_trans (wd_few2 hy hn) (by omega)
  have b2' := balloc (.cells #[.int .i64 W.p, .int .i64 W.k, .int .i64 W.f, .int .i64 W.t, .int .i64 W.s, .int .i64 W.q, .int .i64 W.x, .int .i64 W.y, .int .i64 W.z, .int .i64 W.e, .slice a2 W.T.length c2] 35) (Below.refl w2.heap.size w2)
  have X6 : Ws (w2.alloc (.cells #[.int .i64 W.p, .int .i64 W.k, .int .i64 W.f, .int .i64 W.t, .int .i64 W.s, .int .i64 W.q, .int .i64 W.x, .int .i64 W.y, .int .i64 W.z, .int .i64 W.e, .slice a2 W.T.length c2] 35)) w2.heap.size [.int .i64 W.p, .int .i64 W.k, .int .i64 W.f, .int .i64 W.t, .int .i64 W.s, .int .i64 W.q, .int .i64 W.x, .int .i64 W.y, .int .i64 W.z, .int .i64 W.e, .slice a2 W.T.length c2] := Ws.new (heap_alloc_new w2 (.cells #[.int .i64 W.p, .int .i64 W.k, .int .i64 W.f, .int .i64 W.t, .int .i64 W.s, .int .i64 W.q, .int .i64 W.x, .int .i64 W.y, .int .i64 W.z, .int .i64 W.e, .slice a2 W.T.length c2] 35))
  have B2 := btrans (btrans B1 b2) b2'
  have i2 := fsl_of (own_below o2 b2')
  have hyH : Hid (q = true → W.ok = true ∧ tx.data.toList = W.txt) := hy
  have hnH : Hid (q = false → NoWd tx.data.toList ∧ W = Wd.zero) := hn
  clear hy hn o2 b2 B1
  go_wp2_with fail
  generalize w2.alloc (.cells #[.int .i64 W.p, .int .i64 W.k, .int .i64 W.f, .int .i64 W.t, .int .i64 W.s, .int .i64 W.q, .int .i64 W.x, .int .i64 W.y, .int .i64 W.z, .int .i64 W.e, .slice a2 W.T.length c2] 35) = u2 at *
  generalize w2.heap.size = b6 at *
  clear b2'
  refine (sreadW_any tx u2 (by omega)).mono ?_
  rintro _ w3 ⟨W3, a3, c3, q3, rfl, hy, hn, o3, b3⟩
  obtain ⟨rfl, rfl⟩ := wd_one hyH.out hnH.out hy hn
  clear hyH hnH
  have hyH : Hid (q3 = true → W3.ok = true ∧ tx.data.toList = W3.txt) := hy
  clear hy hn
  have b3' := balloc (.cells #[.int .i64 W3.p, .int .i64 W3.k, .int .i64 W3.f, .int .i64 W3.t, .int .i64 W3.s, .int .i64 W3.q, .int .i64 W3.x, .int .i64 W3.y, .int .i64 W3.z, .int .i64 W3.e, .slice a3 W3.T.length c3] 35) (Below.refl w3.heap.size w3)
  have X8 : Ws (w3.alloc (.cells #[.int .i64 W3.p, .int .i64 W3.k, .int .i64 W3.f, .int .i64 W3.t, .int .i64 W3.s, .int .i64 W3.q, .int .i64 W3.x, .int .i64 W3.y, .int .i64 W3.z, .int .i64 W3.e, .slice a3 W3.T.length c3] 35)) w3.heap.size [.int .i64 W3.p, .int .i64 W3.k, .int .i64 W3.f, .int .i64 W3.t, .int .i64 W3.s, .int .i64 W3.q, .int .i64 W3.x, .int .i64 W3.y, .int .i64 W3.z, .int .i64 W3.e, .slice a3 W3.T.length c3] := Ws.new (heap_alloc_new w3 (.cells #[.int .i64 W3.p, .int .i64 W3.k, .int .i64 W3.f, .int .i64 W3.t, .int .i64 W3.s, .int .i64 W3.q, .int .i64 W3.x, .int .i64 W3.y, .int .i64 W3.z, .int .i64 W3.e, .slice a3 W3.T.length c3] 35))
  have X6' := (X6.below b3).below b3'
  have B3 := btrans (btrans B2 b3) b3'
  have j2 := (i2.below b3).below b3'
  have j3 := fsl_of (own_below o3 b3')
  clear X6 B2 i2 o3 b3
  go_upto_region 6 with fail
  generalize w3.alloc (.cells #[.int .i64 W3.p, .int .i64 W3.k, .int .i64 W3.f, .int .i64 W3.t, .int .i64 W3.s, .int .i64 W3.q, .int .i64 W3.x, .int .i64 W3.y, .int .i64 W3.z, .int .i64 W3.e, .slice a3 W3.T.length c3] 35) = u3 at *
  generalize w3.heap.size = b8 at *
  clear b3'
  have d0 := X6'.c 0 (.int .i64 W3.p) rfl
  have d1 := X6'.c 1 (.int .i64 W3.k) rfl
  have d2 := X6'.c 2 (.int .i64 W3.f) rfl
  have d3 := X6'.c 3 (.int .i64 W3.t) rfl
  have d4 := X6'.c 4 (.int .i64 W3.s) rfl
  have d5 := X6'.c 5 (.int .i64 W3.q) rfl
  have d6 := X6'.c 6 (.int .i64 W3.x) rfl
  have d7 := X6'.c 7 (.int .i64 W3.y) rfl
  have d8 := X6'.c 8 (.int .i64 W3.z) rfl
  have d9 := X6'.c 9 (.int .i64 W3.e) rfl
  have d10 := X6'.c 10 (.slice a2 W3.T.length c2) rfl
  have m0 := X8.c 0 (.int .i64 W3.p) rfl
  have m1 := X8.c 1 (.int .i64 W3.k) rfl
  have m2 := X8.c 2 (.int .i64 W3.f) rfl
  have m3 := X8.c 3 (.int .i64 W3.t) rfl
  have m4 := X8.c 4 (.int .i64 W3.s) rfl
  have m5 := X8.c 5 (.int .i64 W3.q) rfl
  have m6 := X8.c 6 (.int .i64 W3.x) rfl
  have m7 := X8.c 7 (.int .i64 W3.y) rfl
  have m8 := X8.c 8 (.int .i64 W3.z) rfl
  have m9 := X8.c 9 (.int .i64 W3.e) rfl
  have m10 := X8.c 10 (.slice a3 W3.T.length c3) rfl
  have qq : (q3 != q3) = false := by simp
  go_wp2_with fail
  refine (lhWord_same W3.p W3.k W3.f W3.t W3.s W3.q W3.x W3.y W3.z W3.e a2 a3 W3.T.length c2 c3 (atF W3.T) u3 j2 j3 hT8).mono ?_
  rintro _ w4 ⟨rfl, b4⟩
  have B4 := btrans B3 b4
  have k6 := X6'.below b4
  have j4 := j2.below b4
  clear d0 d1 d2 d3 d4 d5 d6 d7 d8 d9 d10 m0 m1 m2 m3 m4 m5 m6 m7 m8 m9 m10 X8 X6' j2 j3 B3 b4
  cases q3
  · skip
    go_wp2_with fail
    refine (drawWW_any a1 l1 c1 w4 (bytes_up (h1.below B4 (Nat.le_refl _)) B4.size) hc1).mono ?_
    rintro _ w6 ⟨V, ad, cp, rfl, oV, hV7, b6'⟩
    have bb := balloc (.cells #[.int .i64 V.p, .int .i64 V.k, .int .i64 V.f, .int .i64 V.t, .int .i64 V.s, .int .i64 V.q, .int .i64 V.x, .int .i64 V.y, .int .i64 V.z, .int .i64 V.e, .slice ad V.T.length cp] 35) (Below.refl w6.heap.size w6)
    have XD : Ws (w6.alloc (.cells #[.int .i64 V.p, .int .i64 V.k, .int .i64 V.f, .int .i64 V.t, .int .i64 V.s, .int .i64 V.q, .int .i64 V.x, .int .i64 V.y, .int .i64 V.z, .int .i64 V.e, .slice ad V.T.length cp] 35)) w6.heap.size [.int .i64 V.p, .int .i64 V.k, .int .i64 V.f, .int .i64 V.t, .int .i64 V.s, .int .i64 V.q, .int .i64 V.x, .int .i64 V.y, .int .i64 V.z, .int .i64 V.e, .slice ad V.T.length cp] := Ws.new (heap_alloc_new w6 (.cells #[.int .i64 V.p, .int .i64 V.k, .int .i64 V.f, .int .i64 V.t, .int .i64 V.s, .int .i64 V.q, .int .i64 V.x, .int .i64 V.y, .int .i64 V.z, .int .i64 V.e, .slice ad V.T.length cp] 35))
    have B6 := btrans (btrans B4 b6') bb
    have iV := fsl_of (own_below oV bb)
    have hTl : V.T.length ≤ 1048576 := by omega
    clear oV bb b6' B4
    go_upto_region 9 with fail
    generalize w6.alloc (.cells #[.int .i64 V.p, .int .i64 V.k, .int .i64 V.f, .int .i64 V.t, .int .i64 V.s, .int .i64 V.q, .int .i64 V.x, .int .i64 V.y, .int .i64 V.z, .int .i64 V.e, .slice ad V.T.length cp] 35) = u6 at *
    generalize w6.heap.size = b10 at *
    obtain ⟨X, hX⟩ : ∃ X, Hid (V.tx = X) := ⟨_, rfl⟩
    have hXs : X.size ≤ 300 := by rw [← hX.out]; exact tx_len V
    have hWr := write_any V.p V.k V.f V.t V.s V.q V.x V.y V.z V.e ad V.T.length cp (atF V.T) u6 iV hTl (hp.below B6).t (keep_below B6 hd)
    rw [show wtx V.p V.k V.f V.t V.s V.q V.x V.y V.z V.e V.T.length (atF V.T) = X from hX.out] at hWr
    have hLw : ∀ (w : World), FSl w ad V.T.length (atF V.T) → Calls Tryz.prog 22 #[.agg #[.int .i64 V.p, .int .i64 V.k, .int .i64 V.f, .int .i64 V.t, .int .i64 V.s, .int .i64 V.q, .int .i64 V.x, .int .i64 V.y, .int .i64 V.z, .int .i64 V.e, .slice ad V.T.length cp]] w fun r w' => r = .returned (.string X) ∧ Below w.heap.size w w' := fun w hh => by
      have := lwrite_any V.p V.k V.f V.t V.s V.q V.x V.y V.z V.e ad V.T.length cp (atF V.T) w hh hTl
      rwa [show wtx V.p V.k V.f V.t V.s V.q V.x V.y V.z V.e V.T.length (atF V.T) = X from hX.out] at this
    have d0 := XD.c 0 (.int .i64 V.p) rfl
    have d1 := XD.c 1 (.int .i64 V.k) rfl
    have d2 := XD.c 2 (.int .i64 V.f) rfl
    have d3 := XD.c 3 (.int .i64 V.t) rfl
    have d4 := XD.c 4 (.int .i64 V.s) rfl
    have d5 := XD.c 5 (.int .i64 V.q) rfl
    have d6 := XD.c 6 (.int .i64 V.x) rfl
    have d7 := XD.c 7 (.int .i64 V.y) rfl
    have d8 := XD.c 8 (.int .i64 V.z) rfl
    have d9 := XD.c 9 (.int .i64 V.e) rfl
    have d10 := XD.c 10 (.slice ad V.T.length cp) rfl
    go_wp2_with fail
    refine hWr.mono ?_
    rintro _ w7 ⟨rfl, b7⟩
    have XD7 := XD.below b7
    have B7 := btrans B6 b7
    have iV7 := iV.below b7
    clear hWr d0 d1 d2 d3 d4 d5 d6 d7 d8 d9 d10 XD B6 iV b7
    go_wp2_with fail
    refine (read_any X w7 (hp.below B7) (keep_below B7 hd) (by omega)).mono ?_
    rintro _ w8 ⟨B3, a5, c5, q5, rfl, hy, hn, o5, b8⟩
    have hXe : (X.toList == X.toList) = true := by simp
    have hX3 : (X.size : Int) ≤ 300 := by omega
    cases hok : V.ok
    · have hokH : Hid (wokB V.p V.k V.f V.t V.s V.q V.x V.y V.z V.e V.T.length (atF V.T) = false) := hok
      obtain rfl : q5 = false := by
        cases q5
        · rfl
        · have := (hy rfl).2
          rw [← hX.out, wtx_no hok] at this
          exact absurd this (nowd_nil B3 (hy rfl).1)
      clear hy hn hok
      have bb := balloc (.cells #[.int .i64 B3.p, .int .i64 B3.k, .int .i64 B3.f, .int .i64 B3.t, .int .i64 B3.s, .int .i64 B3.q, .int .i64 B3.x, .int .i64 B3.y, .int .i64 B3.z, .int .i64 B3.e, .slice a5 B3.T.length c5] 35) (Below.refl w8.heap.size w8)
      have ZD : Ws (w8.alloc (.cells #[.int .i64 B3.p, .int .i64 B3.k, .int .i64 B3.f, .int .i64 B3.t, .int .i64 B3.s, .int .i64 B3.q, .int .i64 B3.x, .int .i64 B3.y, .int .i64 B3.z, .int .i64 B3.e, .slice a5 B3.T.length c5] 35)) w8.heap.size [.int .i64 B3.p, .int .i64 B3.k, .int .i64 B3.f, .int .i64 B3.t, .int .i64 B3.s, .int .i64 B3.q, .int .i64 B3.x, .int .i64 B3.y, .int .i64 B3.z, .int .i64 B3.e, .slice a5 B3.T.length c5] := Ws.new (heap_alloc_new w8 (.cells #[.int .i64 B3.p, .int .i64 B3.k, .int .i64 B3.f, .int .i64 B3.t, .int .i64 B3.s, .int .i64 B3.q, .int .i64 B3.x, .int .i64 B3.y, .int .i64 B3.z, .int .i64 B3.e, .slice a5 B3.T.length c5] 35))
      have YD := (XD7.below b8).below bb
      have B12 := btrans (btrans B7 b8) bb
      have GD := (iV7.below b8).below bb
      have HD := GD
      clear XD7 B7 iV7 o5 b8 bb
      go_upto_region 11 with fail
      generalize w8.alloc (.cells #[.int .i64 B3.p, .int .i64 B3.k, .int .i64 B3.f, .int .i64 B3.t, .int .i64 B3.s, .int .i64 B3.q, .int .i64 B3.x, .int .i64 B3.y, .int .i64 B3.z, .int .i64 B3.e, .slice a5 B3.T.length c5] 35) = u8 at *
      generalize w8.heap.size = b12 at *
      have Y0 := YD.below (qd (Below.refl _ _))
      have Z0 := ZD.below (qd (Below.refl _ _))
      have G0 := GD.below (qd (Below.refl _ _))
      have H0 := HD.below (qd (Below.refl _ _))
      refine wp_region_held_drew (S := fun w' => Ws w' b10 [.int .i64 V.p, .int .i64 V.k, .int .i64 V.f, .int .i64 V.t, .int .i64 V.s, .int .i64 V.q, .int .i64 V.x, .int .i64 V.y, .int .i64 V.z, .int .i64 V.e, .slice ad V.T.length cp] ∧ Ws w' b12 [.int .i64 B3.p, .int .i64 B3.k, .int .i64 B3.f, .int .i64 B3.t, .int .i64 B3.s, .int .i64 B3.q, .int .i64 B3.x, .int .i64 B3.y, .int .i64 B3.z, .int .i64 B3.e, .slice a5 B3.T.length c5]) (by kernel_rfl) ?_ (fun hHeld => ?_)
      · (try dsimp only); exact ⟨Y0, Z0⟩
      refine tl (i := 0) (oi := { dst := some 61, op := .move (.tmp 11), type := 9, pos := "laws.go:381", after := #[], guard := none }) ?_
      (try simp only [pq])
      refine tk (i := 1) (oi := { dst := some 62, op := .load 35 (.tmp 10), type := 35, pos := "laws.go:381", after := #[], guard := none }) (v := .agg #[.int .i64 V.p, .int .i64 V.k, .int .i64 V.f, .int .i64 V.t, .int .i64 V.s, .int .i64 V.q, .int .i64 V.x, .int .i64 V.y, .int .i64 V.z, .int .i64 V.e, .slice ad V.T.length cp]) ?_ ?_
      · (intro w hSw; have q0 := hSw.1.c 0 (.int .i64 V.p) rfl; have q1 := hSw.1.c 1 (.int .i64 V.k) rfl; have q2 := hSw.1.c 2 (.int .i64 V.f) rfl; have q3 := hSw.1.c 3 (.int .i64 V.t) rfl; have q4 := hSw.1.c 4 (.int .i64 V.s) rfl; have q5 := hSw.1.c 5 (.int .i64 V.q) rfl; have q6 := hSw.1.c 6 (.int .i64 V.x) rfl; have q7 := hSw.1.c 7 (.int .i64 V.y) rfl; have q8 := hSw.1.c 8 (.int .i64 V.z) rfl; have q9 := hSw.1.c 9 (.int .i64 V.e) rfl; have q10 := hSw.1.c 10 (.slice ad V.T.length cp) rfl; go_simp)
      (try simp only [pq])
      refine wpAnyH_ready (rs := [2]) (by kernel_rfl) (by simp) ?_
      refine AllReadyH.cons (o := { dst := some 63, op := .call { callee := .value (.func 22), args := #[.tmp 62], argTypes := #[35] }, type := 9, pos := "laws.go:381", after := #[{ on := 1, ground := .data }], guard := none }) rfl (fun K hK => ?_) AllReadyH.nil
      go_simp
      refine (hLw _ G0).mono ?_; rintro r o1 ⟨rfl, f1⟩; have Y1 := Y0.below f1; have Z1 := Z0.below f1; have G1 := G0.below f1; have H1 := H0.below f1
      go_wp2_with fail
      refine hK.out _ _ ?_ (fun hHeld => ?_)
      · (try dsimp only); exact ⟨Y1, Z1⟩
      clear hK K
      (try simp only [pq])
      refine tl (i := 3) (oi := { dst := some 64, op := .binOp .eql 9 (.tmp 61) (.tmp 63) 9, type := 4, pos := "laws.go:381", after := #[{ on := 0, ground := .data }, { on := 2, ground := .data }], guard := none }) ?_
      (try simp only [pq])
      refine tl (i := 4) (oi := { dst := some 65, op := .move (.tmp 64), type := 4, pos := "laws.go:381", after := #[{ on := 3, ground := .data }, { on := 2, ground := .chain }], guard := none }) ?_
      (try simp only [pq])
      refine tk (i := 5) (oi := { dst := some 66, op := .load 35 (.tmp 10), type := 35, pos := "laws.go:381", after := #[{ on := 4, ground := .guard }], guard := some (4, true) }) (v := .agg #[.int .i64 V.p, .int .i64 V.k, .int .i64 V.f, .int .i64 V.t, .int .i64 V.s, .int .i64 V.q, .int .i64 V.x, .int .i64 V.y, .int .i64 V.z, .int .i64 V.e, .slice ad V.T.length cp]) ?_ ?_
      · (intro w hSw; have q0 := hSw.1.c 0 (.int .i64 V.p) rfl; have q1 := hSw.1.c 1 (.int .i64 V.k) rfl; have q2 := hSw.1.c 2 (.int .i64 V.f) rfl; have q3 := hSw.1.c 3 (.int .i64 V.t) rfl; have q4 := hSw.1.c 4 (.int .i64 V.s) rfl; have q5 := hSw.1.c 5 (.int .i64 V.q) rfl; have q6 := hSw.1.c 6 (.int .i64 V.x) rfl; have q7 := hSw.1.c 7 (.int .i64 V.y) rfl; have q8 := hSw.1.c 8 (.int .i64 V.z) rfl; have q9 := hSw.1.c 9 (.int .i64 V.e) rfl; have q10 := hSw.1.c 10 (.slice ad V.T.length cp) rfl; go_simp)
      (try simp only [pq])
      refine tk (i := 7) (oi := { dst := some 68, op := .load 35 (.tmp 10), type := 35, pos := "laws.go:381", after := #[{ on := 4, ground := .guard }], guard := some (4, true) }) (v := .agg #[.int .i64 V.p, .int .i64 V.k, .int .i64 V.f, .int .i64 V.t, .int .i64 V.s, .int .i64 V.q, .int .i64 V.x, .int .i64 V.y, .int .i64 V.z, .int .i64 V.e, .slice ad V.T.length cp]) ?_ ?_
      · (intro w hSw; have q0 := hSw.1.c 0 (.int .i64 V.p) rfl; have q1 := hSw.1.c 1 (.int .i64 V.k) rfl; have q2 := hSw.1.c 2 (.int .i64 V.f) rfl; have q3 := hSw.1.c 3 (.int .i64 V.t) rfl; have q4 := hSw.1.c 4 (.int .i64 V.s) rfl; have q5 := hSw.1.c 5 (.int .i64 V.q) rfl; have q6 := hSw.1.c 6 (.int .i64 V.x) rfl; have q7 := hSw.1.c 7 (.int .i64 V.y) rfl; have q8 := hSw.1.c 8 (.int .i64 V.z) rfl; have q9 := hSw.1.c 9 (.int .i64 V.e) rfl; have q10 := hSw.1.c 10 (.slice ad V.T.length cp) rfl; go_simp)
      (try simp only [pq])
      refine wpAnyH_ready (rs := [6]) (by kernel_rfl) (by simp) ?_
      refine AllReadyH.cons (o := { dst := some 67, op := .call { callee := .value (.func 23), args := #[.tmp 66], argTypes := #[35] }, type := 4, pos := "laws.go:381", after := #[{ on := 5, ground := .data }, { on := 4, ground := .chain }, { on := 4, ground := .guard }], guard := some (4, true) }) rfl (fun K hK => ?_) AllReadyH.nil
      go_simp
      refine (wok_lit V.p V.k V.f V.t V.s V.q V.x V.y V.z V.e ad V.T.length cp (atF V.T) false hokH.out _ G1 hTl).mono ?_; rintro r o2 ⟨rfl, f2⟩; have Y2 := Y1.below f2; have Z2 := Z1.below f2; have G2 := G1.below f2; have H2 := H1.below f2
      go_wp2_with fail
      refine hK.out _ _ ?_ (fun hHeld => ?_)
      · (try dsimp only); exact ⟨Y2, Z2⟩
      clear hK K
      (try simp only [pq])
      refine wpAnyH_ready (rs := [8]) (by kernel_rfl) (by simp) ?_
      refine AllReadyH.cons (o := { dst := some 69, op := .call { callee := .value (.func 24), args := #[.tmp 68], argTypes := #[35] }, type := 4, pos := "laws.go:381", after := #[{ on := 7, ground := .data }, { on := 6, ground := .chain }, { on := 4, ground := .guard }], guard := some (4, true) }) rfl (fun K hK => ?_) AllReadyH.nil
      go_simp
      refine (swok_lit V.p V.k V.f V.t V.s V.q V.x V.y V.z V.e ad V.T.length cp (atF V.T) false hokH.out _ G2 hTl).mono ?_; rintro r o3 ⟨rfl, f3⟩; have Y3 := Y2.below f3; have Z3 := Z2.below f3; have G3 := G2.below f3; have H3 := H2.below f3
      go_wp2_with fail
      refine hK.out _ _ ?_ (fun hHeld => ?_)
      · (try dsimp only); exact ⟨Y3, Z3⟩
      clear hK K
      (try simp only [pq])
      refine tl (i := 9) (oi := { dst := some 70, op := .binOp .eql 4 (.tmp 67) (.tmp 69) 4, type := 4, pos := "laws.go:381", after := #[{ on := 6, ground := .data }, { on := 8, ground := .data }, { on := 4, ground := .guard }], guard := some (4, true) }) ?_
      (try simp only [pq])
      refine tl (i := 10) (oi := { dst := some 71, op := .pick (.tmp 65) (.tmp 70) (.const (.bool false)), type := 4, pos := "laws.go:381", after := #[{ on := 4, ground := .data }, { on := 9, ground := .data }], guard := none }) ?_
      (try simp only [pq])
      refine tl (i := 11) (oi := { dst := some 72, op := .move (.tmp 71), type := 4, pos := "laws.go:381", after := #[{ on := 10, ground := .data }, { on := 8, ground := .chain }], guard := none }) ?_
      (try simp only [pq])
      refine tl (i := 12) (oi := { dst := some 73, op := .move (.tmp 13), type := 4, pos := "laws.go:381", after := #[{ on := 11, ground := .guard }], guard := some (11, true) }) ?_
      (try simp only [pq])
      refine tk (i := 13) (oi := { dst := some 74, op := .load 35 (.tmp 10), type := 35, pos := "laws.go:381", after := #[{ on := 11, ground := .guard }], guard := some (11, true) }) (v := .agg #[.int .i64 V.p, .int .i64 V.k, .int .i64 V.f, .int .i64 V.t, .int .i64 V.s, .int .i64 V.q, .int .i64 V.x, .int .i64 V.y, .int .i64 V.z, .int .i64 V.e, .slice ad V.T.length cp]) ?_ ?_
      · (intro w hSw; have q0 := hSw.1.c 0 (.int .i64 V.p) rfl; have q1 := hSw.1.c 1 (.int .i64 V.k) rfl; have q2 := hSw.1.c 2 (.int .i64 V.f) rfl; have q3 := hSw.1.c 3 (.int .i64 V.t) rfl; have q4 := hSw.1.c 4 (.int .i64 V.s) rfl; have q5 := hSw.1.c 5 (.int .i64 V.q) rfl; have q6 := hSw.1.c 6 (.int .i64 V.x) rfl; have q7 := hSw.1.c 7 (.int .i64 V.y) rfl; have q8 := hSw.1.c 8 (.int .i64 V.z) rfl; have q9 := hSw.1.c 9 (.int .i64 V.e) rfl; have q10 := hSw.1.c 10 (.slice ad V.T.length cp) rfl; go_simp)
      (try simp only [pq])
      refine wpAnyH_ready (rs := [14]) (by kernel_rfl) (by simp) ?_
      refine AllReadyH.cons (o := { dst := some 75, op := .call { callee := .value (.func 24), args := #[.tmp 74], argTypes := #[35] }, type := 4, pos := "laws.go:381", after := #[{ on := 13, ground := .data }, { on := 11, ground := .chain }, { on := 11, ground := .guard }], guard := some (11, true) }) rfl (fun K hK => ?_) AllReadyH.nil
      go_simp
      refine (swok_lit V.p V.k V.f V.t V.s V.q V.x V.y V.z V.e ad V.T.length cp (atF V.T) false hokH.out _ G3 hTl).mono ?_; rintro r o4 ⟨rfl, f4⟩; have Y4 := Y3.below f4; have Z4 := Z3.below f4; have G4 := G3.below f4; have H4 := H3.below f4
      go_wp2_with fail
      refine hK.out _ _ ?_ (fun hHeld => ?_)
      · (try dsimp only); exact ⟨Y4, Z4⟩
      clear hK K
      (try simp only [pq])
      refine tl (i := 15) (oi := { dst := some 76, op := .binOp .eql 4 (.tmp 73) (.tmp 75) 4, type := 4, pos := "laws.go:381", after := #[{ on := 12, ground := .data }, { on := 14, ground := .data }, { on := 11, ground := .guard }], guard := some (11, true) }) ?_
      (try simp only [pq])
      refine tl (i := 16) (oi := { dst := some 77, op := .pick (.tmp 72) (.tmp 76) (.const (.bool false)), type := 4, pos := "laws.go:381", after := #[{ on := 11, ground := .data }, { on := 15, ground := .data }], guard := none }) ?_
      (try simp only [pq])
      refine tl (i := 17) (oi := { dst := some 78, op := .move (.tmp 77), type := 4, pos := "laws.go:381", after := #[{ on := 16, ground := .data }, { on := 14, ground := .chain }], guard := none }) ?_
      (try simp only [pq])
      refine tl (i := 18) (oi := { dst := some 79, op := .move (.tmp 13), type := 4, pos := "laws.go:381", after := #[{ on := 17, ground := .guard }], guard := some (17, true) }) ?_
      (try simp only [pq])
      refine tl (i := 19) (oi := { dst := some 80, op := .unOp .not 4 (.tmp 79), type := 4, pos := "laws.go:381", after := #[{ on := 18, ground := .data }, { on := 17, ground := .guard }], guard := some (17, true) }) ?_
      (try simp only [pq])
      refine tl (i := 20) (oi := { dst := some 81, op := .move (.tmp 80), type := 4, pos := "laws.go:381", after := #[{ on := 19, ground := .data }, { on := 17, ground := .chain }, { on := 17, ground := .guard }], guard := some (17, true) }) ?_
      (try simp only [pq])
      refine wpAnyH_take (i := 21) (oi := { dst := some 82, op := .load 35 (.tmp 12), type := 35, pos := "laws.go:381", after := #[{ on := 20, ground := .guard }], guard := some (20, false) }) (v := undef) rfl (by kernel_rfl) (by kernel_rfl) (by kernel_rfl) (fun _ _ _ h => h) (Or.inr ⟨by rfl, rfl⟩) (by assumption) ?_
      (try simp only [pq])
      refine wpAnyH_take (i := 22) (oi := { dst := some 83, op := .load 35 (.tmp 10), type := 35, pos := "laws.go:381", after := #[{ on := 20, ground := .guard }], guard := some (20, false) }) (v := undef) rfl (by kernel_rfl) (by kernel_rfl) (by kernel_rfl) (fun _ _ _ h => h) (Or.inr ⟨by rfl, rfl⟩) (by assumption) ?_
      (try simp only [pq])
      refine wpAnyH_take (i := 23) (oi := { dst := some 84, op := .call { callee := .value (.func 19), args := #[.tmp 82, .tmp 83], argTypes := #[35, 35] }, type := 4, pos := "laws.go:381", after := #[{ on := 21, ground := .data }, { on := 22, ground := .data }, { on := 20, ground := .chain }, { on := 20, ground := .guard }], guard := some (20, false) }) (v := undef) rfl (by kernel_rfl) (by kernel_rfl) (by kernel_rfl) (fun _ _ _ h => h) (Or.inr ⟨by rfl, rfl⟩) (by assumption) ?_
      (try simp only [pq])
      refine tl (i := 24) (oi := { dst := some 85, op := .pick (.tmp 81) (.const (.bool true)) (.tmp 84), type := 4, pos := "laws.go:381", after := #[{ on := 20, ground := .data }, { on := 23, ground := .data }, { on := 17, ground := .guard }], guard := some (17, true) }) ?_
      (try simp only [pq])
      refine tl (i := 25) (oi := { dst := some 86, op := .pick (.tmp 78) (.tmp 85) (.const (.bool false)), type := 4, pos := "laws.go:381", after := #[{ on := 17, ground := .data }, { on := 24, ground := .data }], guard := none }) ?_
      (try simp only [pq])
      refine tl (i := 26) (oi := { dst := some 87, op := .move (.tmp 86), type := 4, pos := "laws.go:381", after := #[{ on := 25, ground := .data }, { on := 23, ground := .chain }], guard := none }) ?_
      (try simp only [pq])
      refine tl (i := 27) (oi := { dst := some 88, op := .move (.tmp 11), type := 9, pos := "laws.go:381", after := #[{ on := 26, ground := .guard }], guard := some (26, true) }) ?_
      (try simp only [pq])
      refine tl (i := 28) (oi := { dst := some 89, op := .call { callee := .builtin .len, args := #[.tmp 88], argTypes := #[9] }, type := 3, pos := "laws.go:381", after := #[{ on := 27, ground := .data }, { on := 26, ground := .guard }], guard := some (26, true) }) ?_
      (try simp only [pq])
      refine tl (i := 29) (oi := { dst := some 90, op := .binOp .leq 3 (.tmp 89) (.const (.int .i64 300)) 3, type := 4, pos := "laws.go:381", after := #[{ on := 28, ground := .data }, { on := 26, ground := .guard }], guard := some (26, true) }) ?_
      (try simp only [pq])
      refine tl (i := 30) (oi := { dst := some 91, op := .pick (.tmp 87) (.tmp 90) (.const (.bool false)), type := 4, pos := "laws.go:381", after := #[{ on := 26, ground := .data }, { on := 29, ground := .data }], guard := none }) ?_
      (try simp only [pq])
      refine tl (i := 31) (oi := { dst := some 4, op := .assign (.tmp 91), type := 4, pos := "laws.go:381", after := #[{ on := 30, ground := .data }, { on := 26, ground := .chain }, { on := 0, ground := .phase }, { on := 1, ground := .phase }, { on := 2, ground := .phase }, { on := 3, ground := .phase }, { on := 4, ground := .phase }, { on := 5, ground := .phase }, { on := 6, ground := .phase }, { on := 7, ground := .phase }, { on := 8, ground := .phase }, { on := 9, ground := .phase }, { on := 10, ground := .phase }, { on := 11, ground := .phase }, { on := 12, ground := .phase }, { on := 13, ground := .phase }, { on := 14, ground := .phase }, { on := 15, ground := .phase }, { on := 16, ground := .phase }, { on := 17, ground := .phase }, { on := 18, ground := .phase }, { on := 19, ground := .phase }, { on := 20, ground := .phase }, { on := 21, ground := .phase }, { on := 22, ground := .phase }, { on := 23, ground := .phase }, { on := 24, ground := .phase }, { on := 25, ground := .phase }, { on := 26, ground := .phase }, { on := 27, ground := .phase }, { on := 28, ground := .phase }, { on := 29, ground := .phase }, { on := 30, ground := .phase }], guard := none }) ?_
      (try simp only [pq])
      refine wpAnyH_done (by kernel_rfl) ?_ _
      clear hHeld
      have BF := btrans B12 (btrans (btrans (btrans (btrans (qd (Below.refl _ _)) f1) f2) f3) f4)
      go_wp2
      go_ret
      exact ⟨rfl, BF⟩
    · have hokH : Hid (wokB V.p V.k V.f V.t V.s V.q V.x V.y V.z V.e V.T.length (atF V.T) = true) := hok
      have hXt : X.data.toList = V.txt := by rw [← hX.out, wtx_ok hok]
      obtain ⟨rfl, rfl⟩ := wd_one (s := X.data.toList) (W := V) (q := true) (fun _ => ⟨hok, hXt⟩) (fun h => (by cases h)) hy hn
      clear hy hn hok hXt
      have bb := balloc (.cells #[.int .i64 B3.p, .int .i64 B3.k, .int .i64 B3.f, .int .i64 B3.t, .int .i64 B3.s, .int .i64 B3.q, .int .i64 B3.x, .int .i64 B3.y, .int .i64 B3.z, .int .i64 B3.e, .slice a5 B3.T.length c5] 35) (Below.refl w8.heap.size w8)
      have ZD : Ws (w8.alloc (.cells #[.int .i64 B3.p, .int .i64 B3.k, .int .i64 B3.f, .int .i64 B3.t, .int .i64 B3.s, .int .i64 B3.q, .int .i64 B3.x, .int .i64 B3.y, .int .i64 B3.z, .int .i64 B3.e, .slice a5 B3.T.length c5] 35)) w8.heap.size [.int .i64 B3.p, .int .i64 B3.k, .int .i64 B3.f, .int .i64 B3.t, .int .i64 B3.s, .int .i64 B3.q, .int .i64 B3.x, .int .i64 B3.y, .int .i64 B3.z, .int .i64 B3.e, .slice a5 B3.T.length c5] := Ws.new (heap_alloc_new w8 (.cells #[.int .i64 B3.p, .int .i64 B3.k, .int .i64 B3.f, .int .i64 B3.t, .int .i64 B3.s, .int .i64 B3.q, .int .i64 B3.x, .int .i64 B3.y, .int .i64 B3.z, .int .i64 B3.e, .slice a5 B3.T.length c5] 35))
      have YD := (XD7.below b8).below bb
      have B12 := btrans (btrans B7 b8) bb
      have GD := (iV7.below b8).below bb
      have HD := fsl_of (own_below o5 bb)
      clear XD7 B7 iV7 o5 b8 bb
      go_upto_region 11 with fail
      generalize w8.alloc (.cells #[.int .i64 B3.p, .int .i64 B3.k, .int .i64 B3.f, .int .i64 B3.t, .int .i64 B3.s, .int .i64 B3.q, .int .i64 B3.x, .int .i64 B3.y, .int .i64 B3.z, .int .i64 B3.e, .slice a5 B3.T.length c5] 35) = u8 at *
      generalize w8.heap.size = b12 at *
      have Y0 := YD.below (qd (Below.refl _ _))
      have Z0 := ZD.below (qd (Below.refl _ _))
      have G0 := GD.below (qd (Below.refl _ _))
      have H0 := HD.below (qd (Below.refl _ _))
      refine wp_region_held_drew (S := fun w' => Ws w' b10 [.int .i64 B3.p, .int .i64 B3.k, .int .i64 B3.f, .int .i64 B3.t, .int .i64 B3.s, .int .i64 B3.q, .int .i64 B3.x, .int .i64 B3.y, .int .i64 B3.z, .int .i64 B3.e, .slice ad B3.T.length cp] ∧ Ws w' b12 [.int .i64 B3.p, .int .i64 B3.k, .int .i64 B3.f, .int .i64 B3.t, .int .i64 B3.s, .int .i64 B3.q, .int .i64 B3.x, .int .i64 B3.y, .int .i64 B3.z, .int .i64 B3.e, .slice a5 B3.T.length c5]) (by kernel_rfl) ?_ (fun hHeld => ?_)
      · (try dsimp only); exact ⟨Y0, Z0⟩
      refine tl (i := 0) (oi := { dst := some 61, op := .move (.tmp 11), type := 9, pos := "laws.go:381", after := #[], guard := none }) ?_
      (try simp only [pq])
      refine tk (i := 1) (oi := { dst := some 62, op := .load 35 (.tmp 10), type := 35, pos := "laws.go:381", after := #[], guard := none }) (v := .agg #[.int .i64 B3.p, .int .i64 B3.k, .int .i64 B3.f, .int .i64 B3.t, .int .i64 B3.s, .int .i64 B3.q, .int .i64 B3.x, .int .i64 B3.y, .int .i64 B3.z, .int .i64 B3.e, .slice ad B3.T.length cp]) ?_ ?_
      · (intro w hSw; have q0 := hSw.1.c 0 (.int .i64 B3.p) rfl; have q1 := hSw.1.c 1 (.int .i64 B3.k) rfl; have q2 := hSw.1.c 2 (.int .i64 B3.f) rfl; have q3 := hSw.1.c 3 (.int .i64 B3.t) rfl; have q4 := hSw.1.c 4 (.int .i64 B3.s) rfl; have q5 := hSw.1.c 5 (.int .i64 B3.q) rfl; have q6 := hSw.1.c 6 (.int .i64 B3.x) rfl; have q7 := hSw.1.c 7 (.int .i64 B3.y) rfl; have q8 := hSw.1.c 8 (.int .i64 B3.z) rfl; have q9 := hSw.1.c 9 (.int .i64 B3.e) rfl; have q10 := hSw.1.c 10 (.slice ad B3.T.length cp) rfl; go_simp)
      (try simp only [pq])
      refine wpAnyH_ready (rs := [2]) (by kernel_rfl) (by simp) ?_
      refine AllReadyH.cons (o := { dst := some 63, op := .call { callee := .value (.func 22), args := #[.tmp 62], argTypes := #[35] }, type := 9, pos := "laws.go:381", after := #[{ on := 1, ground := .data }], guard := none }) rfl (fun K hK => ?_) AllReadyH.nil
      go_simp
      refine (hLw _ G0).mono ?_; rintro r o1 ⟨rfl, f1⟩; have Y1 := Y0.below f1; have Z1 := Z0.below f1; have G1 := G0.below f1; have H1 := H0.below f1
      go_wp2_with fail
      refine hK.out _ _ ?_ (fun hHeld => ?_)
      · (try dsimp only); exact ⟨Y1, Z1⟩
      clear hK K
      (try simp only [pq])
      refine tl (i := 3) (oi := { dst := some 64, op := .binOp .eql 9 (.tmp 61) (.tmp 63) 9, type := 4, pos := "laws.go:381", after := #[{ on := 0, ground := .data }, { on := 2, ground := .data }], guard := none }) ?_
      (try simp only [pq])
      refine tl (i := 4) (oi := { dst := some 65, op := .move (.tmp 64), type := 4, pos := "laws.go:381", after := #[{ on := 3, ground := .data }, { on := 2, ground := .chain }], guard := none }) ?_
      (try simp only [pq])
      refine tk (i := 5) (oi := { dst := some 66, op := .load 35 (.tmp 10), type := 35, pos := "laws.go:381", after := #[{ on := 4, ground := .guard }], guard := some (4, true) }) (v := .agg #[.int .i64 B3.p, .int .i64 B3.k, .int .i64 B3.f, .int .i64 B3.t, .int .i64 B3.s, .int .i64 B3.q, .int .i64 B3.x, .int .i64 B3.y, .int .i64 B3.z, .int .i64 B3.e, .slice ad B3.T.length cp]) ?_ ?_
      · (intro w hSw; have q0 := hSw.1.c 0 (.int .i64 B3.p) rfl; have q1 := hSw.1.c 1 (.int .i64 B3.k) rfl; have q2 := hSw.1.c 2 (.int .i64 B3.f) rfl; have q3 := hSw.1.c 3 (.int .i64 B3.t) rfl; have q4 := hSw.1.c 4 (.int .i64 B3.s) rfl; have q5 := hSw.1.c 5 (.int .i64 B3.q) rfl; have q6 := hSw.1.c 6 (.int .i64 B3.x) rfl; have q7 := hSw.1.c 7 (.int .i64 B3.y) rfl; have q8 := hSw.1.c 8 (.int .i64 B3.z) rfl; have q9 := hSw.1.c 9 (.int .i64 B3.e) rfl; have q10 := hSw.1.c 10 (.slice ad B3.T.length cp) rfl; go_simp)
      (try simp only [pq])
      refine tk (i := 7) (oi := { dst := some 68, op := .load 35 (.tmp 10), type := 35, pos := "laws.go:381", after := #[{ on := 4, ground := .guard }], guard := some (4, true) }) (v := .agg #[.int .i64 B3.p, .int .i64 B3.k, .int .i64 B3.f, .int .i64 B3.t, .int .i64 B3.s, .int .i64 B3.q, .int .i64 B3.x, .int .i64 B3.y, .int .i64 B3.z, .int .i64 B3.e, .slice ad B3.T.length cp]) ?_ ?_
      · (intro w hSw; have q0 := hSw.1.c 0 (.int .i64 B3.p) rfl; have q1 := hSw.1.c 1 (.int .i64 B3.k) rfl; have q2 := hSw.1.c 2 (.int .i64 B3.f) rfl; have q3 := hSw.1.c 3 (.int .i64 B3.t) rfl; have q4 := hSw.1.c 4 (.int .i64 B3.s) rfl; have q5 := hSw.1.c 5 (.int .i64 B3.q) rfl; have q6 := hSw.1.c 6 (.int .i64 B3.x) rfl; have q7 := hSw.1.c 7 (.int .i64 B3.y) rfl; have q8 := hSw.1.c 8 (.int .i64 B3.z) rfl; have q9 := hSw.1.c 9 (.int .i64 B3.e) rfl; have q10 := hSw.1.c 10 (.slice ad B3.T.length cp) rfl; go_simp)
      (try simp only [pq])
      refine wpAnyH_ready (rs := [6]) (by kernel_rfl) (by simp) ?_
      refine AllReadyH.cons (o := { dst := some 67, op := .call { callee := .value (.func 23), args := #[.tmp 66], argTypes := #[35] }, type := 4, pos := "laws.go:381", after := #[{ on := 5, ground := .data }, { on := 4, ground := .chain }, { on := 4, ground := .guard }], guard := some (4, true) }) rfl (fun K hK => ?_) AllReadyH.nil
      go_simp
      refine (wok_lit B3.p B3.k B3.f B3.t B3.s B3.q B3.x B3.y B3.z B3.e ad B3.T.length cp (atF B3.T) true hokH.out _ G1 hTl).mono ?_; rintro r o2 ⟨rfl, f2⟩; have Y2 := Y1.below f2; have Z2 := Z1.below f2; have G2 := G1.below f2; have H2 := H1.below f2
      go_wp2_with fail
      refine hK.out _ _ ?_ (fun hHeld => ?_)
      · (try dsimp only); exact ⟨Y2, Z2⟩
      clear hK K
      (try simp only [pq])
      refine wpAnyH_ready (rs := [8]) (by kernel_rfl) (by simp) ?_
      refine AllReadyH.cons (o := { dst := some 69, op := .call { callee := .value (.func 24), args := #[.tmp 68], argTypes := #[35] }, type := 4, pos := "laws.go:381", after := #[{ on := 7, ground := .data }, { on := 6, ground := .chain }, { on := 4, ground := .guard }], guard := some (4, true) }) rfl (fun K hK => ?_) AllReadyH.nil
      go_simp
      refine (swok_lit B3.p B3.k B3.f B3.t B3.s B3.q B3.x B3.y B3.z B3.e ad B3.T.length cp (atF B3.T) true hokH.out _ G2 hTl).mono ?_; rintro r o3 ⟨rfl, f3⟩; have Y3 := Y2.below f3; have Z3 := Z2.below f3; have G3 := G2.below f3; have H3 := H2.below f3
      go_wp2_with fail
      refine hK.out _ _ ?_ (fun hHeld => ?_)
      · (try dsimp only); exact ⟨Y3, Z3⟩
      clear hK K
      (try simp only [pq])
      refine tl (i := 9) (oi := { dst := some 70, op := .binOp .eql 4 (.tmp 67) (.tmp 69) 4, type := 4, pos := "laws.go:381", after := #[{ on := 6, ground := .data }, { on := 8, ground := .data }, { on := 4, ground := .guard }], guard := some (4, true) }) ?_
      (try simp only [pq])
      refine tl (i := 10) (oi := { dst := some 71, op := .pick (.tmp 65) (.tmp 70) (.const (.bool false)), type := 4, pos := "laws.go:381", after := #[{ on := 4, ground := .data }, { on := 9, ground := .data }], guard := none }) ?_
      (try simp only [pq])
      refine tl (i := 11) (oi := { dst := some 72, op := .move (.tmp 71), type := 4, pos := "laws.go:381", after := #[{ on := 10, ground := .data }, { on := 8, ground := .chain }], guard := none }) ?_
      (try simp only [pq])
      refine tl (i := 12) (oi := { dst := some 73, op := .move (.tmp 13), type := 4, pos := "laws.go:381", after := #[{ on := 11, ground := .guard }], guard := some (11, true) }) ?_
      (try simp only [pq])
      refine tk (i := 13) (oi := { dst := some 74, op := .load 35 (.tmp 10), type := 35, pos := "laws.go:381", after := #[{ on := 11, ground := .guard }], guard := some (11, true) }) (v := .agg #[.int .i64 B3.p, .int .i64 B3.k, .int .i64 B3.f, .int .i64 B3.t, .int .i64 B3.s, .int .i64 B3.q, .int .i64 B3.x, .int .i64 B3.y, .int .i64 B3.z, .int .i64 B3.e, .slice ad B3.T.length cp]) ?_ ?_
      · (intro w hSw; have q0 := hSw.1.c 0 (.int .i64 B3.p) rfl; have q1 := hSw.1.c 1 (.int .i64 B3.k) rfl; have q2 := hSw.1.c 2 (.int .i64 B3.f) rfl; have q3 := hSw.1.c 3 (.int .i64 B3.t) rfl; have q4 := hSw.1.c 4 (.int .i64 B3.s) rfl; have q5 := hSw.1.c 5 (.int .i64 B3.q) rfl; have q6 := hSw.1.c 6 (.int .i64 B3.x) rfl; have q7 := hSw.1.c 7 (.int .i64 B3.y) rfl; have q8 := hSw.1.c 8 (.int .i64 B3.z) rfl; have q9 := hSw.1.c 9 (.int .i64 B3.e) rfl; have q10 := hSw.1.c 10 (.slice ad B3.T.length cp) rfl; go_simp)
      (try simp only [pq])
      refine wpAnyH_ready (rs := [14]) (by kernel_rfl) (by simp) ?_
      refine AllReadyH.cons (o := { dst := some 75, op := .call { callee := .value (.func 24), args := #[.tmp 74], argTypes := #[35] }, type := 4, pos := "laws.go:381", after := #[{ on := 13, ground := .data }, { on := 11, ground := .chain }, { on := 11, ground := .guard }], guard := some (11, true) }) rfl (fun K hK => ?_) AllReadyH.nil
      go_simp
      refine (swok_lit B3.p B3.k B3.f B3.t B3.s B3.q B3.x B3.y B3.z B3.e ad B3.T.length cp (atF B3.T) true hokH.out _ G3 hTl).mono ?_; rintro r o4 ⟨rfl, f4⟩; have Y4 := Y3.below f4; have Z4 := Z3.below f4; have G4 := G3.below f4; have H4 := H3.below f4
      go_wp2_with fail
      refine hK.out _ _ ?_ (fun hHeld => ?_)
      · (try dsimp only); exact ⟨Y4, Z4⟩
      clear hK K
      (try simp only [pq])
      refine tl (i := 15) (oi := { dst := some 76, op := .binOp .eql 4 (.tmp 73) (.tmp 75) 4, type := 4, pos := "laws.go:381", after := #[{ on := 12, ground := .data }, { on := 14, ground := .data }, { on := 11, ground := .guard }], guard := some (11, true) }) ?_
      (try simp only [pq])
      refine tl (i := 16) (oi := { dst := some 77, op := .pick (.tmp 72) (.tmp 76) (.const (.bool false)), type := 4, pos := "laws.go:381", after := #[{ on := 11, ground := .data }, { on := 15, ground := .data }], guard := none }) ?_
      (try simp only [pq])
      refine tl (i := 17) (oi := { dst := some 78, op := .move (.tmp 77), type := 4, pos := "laws.go:381", after := #[{ on := 16, ground := .data }, { on := 14, ground := .chain }], guard := none }) ?_
      (try simp only [pq])
      refine tl (i := 18) (oi := { dst := some 79, op := .move (.tmp 13), type := 4, pos := "laws.go:381", after := #[{ on := 17, ground := .guard }], guard := some (17, true) }) ?_
      (try simp only [pq])
      refine tl (i := 19) (oi := { dst := some 80, op := .unOp .not 4 (.tmp 79), type := 4, pos := "laws.go:381", after := #[{ on := 18, ground := .data }, { on := 17, ground := .guard }], guard := some (17, true) }) ?_
      (try simp only [pq])
      refine tl (i := 20) (oi := { dst := some 81, op := .move (.tmp 80), type := 4, pos := "laws.go:381", after := #[{ on := 19, ground := .data }, { on := 17, ground := .chain }, { on := 17, ground := .guard }], guard := some (17, true) }) ?_
      (try simp only [pq])
      refine tk (i := 21) (oi := { dst := some 82, op := .load 35 (.tmp 12), type := 35, pos := "laws.go:381", after := #[{ on := 20, ground := .guard }], guard := some (20, false) }) (v := .agg #[.int .i64 B3.p, .int .i64 B3.k, .int .i64 B3.f, .int .i64 B3.t, .int .i64 B3.s, .int .i64 B3.q, .int .i64 B3.x, .int .i64 B3.y, .int .i64 B3.z, .int .i64 B3.e, .slice a5 B3.T.length c5]) ?_ ?_
      · (intro w hSw; have q0 := hSw.2.c 0 (.int .i64 B3.p) rfl; have q1 := hSw.2.c 1 (.int .i64 B3.k) rfl; have q2 := hSw.2.c 2 (.int .i64 B3.f) rfl; have q3 := hSw.2.c 3 (.int .i64 B3.t) rfl; have q4 := hSw.2.c 4 (.int .i64 B3.s) rfl; have q5 := hSw.2.c 5 (.int .i64 B3.q) rfl; have q6 := hSw.2.c 6 (.int .i64 B3.x) rfl; have q7 := hSw.2.c 7 (.int .i64 B3.y) rfl; have q8 := hSw.2.c 8 (.int .i64 B3.z) rfl; have q9 := hSw.2.c 9 (.int .i64 B3.e) rfl; have q10 := hSw.2.c 10 (.slice a5 B3.T.length c5) rfl; go_simp)
      (try simp only [pq])
      refine tk (i := 22) (oi := { dst := some 83, op := .load 35 (.tmp 10), type := 35, pos := "laws.go:381", after := #[{ on := 20, ground := .guard }], guard := some (20, false) }) (v := .agg #[.int .i64 B3.p, .int .i64 B3.k, .int .i64 B3.f, .int .i64 B3.t, .int .i64 B3.s, .int .i64 B3.q, .int .i64 B3.x, .int .i64 B3.y, .int .i64 B3.z, .int .i64 B3.e, .slice ad B3.T.length cp]) ?_ ?_
      · (intro w hSw; have q0 := hSw.1.c 0 (.int .i64 B3.p) rfl; have q1 := hSw.1.c 1 (.int .i64 B3.k) rfl; have q2 := hSw.1.c 2 (.int .i64 B3.f) rfl; have q3 := hSw.1.c 3 (.int .i64 B3.t) rfl; have q4 := hSw.1.c 4 (.int .i64 B3.s) rfl; have q5 := hSw.1.c 5 (.int .i64 B3.q) rfl; have q6 := hSw.1.c 6 (.int .i64 B3.x) rfl; have q7 := hSw.1.c 7 (.int .i64 B3.y) rfl; have q8 := hSw.1.c 8 (.int .i64 B3.z) rfl; have q9 := hSw.1.c 9 (.int .i64 B3.e) rfl; have q10 := hSw.1.c 10 (.slice ad B3.T.length cp) rfl; go_simp)
      (try simp only [pq])
      refine wpAnyH_ready (rs := [23]) (by kernel_rfl) (by simp) ?_
      refine AllReadyH.cons (o := { dst := some 84, op := .call { callee := .value (.func 19), args := #[.tmp 82, .tmp 83], argTypes := #[35, 35] }, type := 4, pos := "laws.go:381", after := #[{ on := 21, ground := .data }, { on := 22, ground := .data }, { on := 20, ground := .chain }, { on := 20, ground := .guard }], guard := some (20, false) }) rfl (fun K hK => ?_) AllReadyH.nil
      go_simp
      refine (lhWord_same B3.p B3.k B3.f B3.t B3.s B3.q B3.x B3.y B3.z B3.e a5 ad B3.T.length c5 cp (atF B3.T) _ H4 G4 hTl).mono ?_; rintro r o5 ⟨rfl, f5⟩; have Y5 := Y4.below f5; have Z5 := Z4.below f5; have G5 := G4.below f5; have H5 := H4.below f5
      go_wp2_with fail
      refine hK.out _ _ ?_ (fun hHeld => ?_)
      · (try dsimp only); exact ⟨Y5, Z5⟩
      clear hK K
      (try simp only [pq])
      refine tl (i := 24) (oi := { dst := some 85, op := .pick (.tmp 81) (.const (.bool true)) (.tmp 84), type := 4, pos := "laws.go:381", after := #[{ on := 20, ground := .data }, { on := 23, ground := .data }, { on := 17, ground := .guard }], guard := some (17, true) }) ?_
      (try simp only [pq])
      refine tl (i := 25) (oi := { dst := some 86, op := .pick (.tmp 78) (.tmp 85) (.const (.bool false)), type := 4, pos := "laws.go:381", after := #[{ on := 17, ground := .data }, { on := 24, ground := .data }], guard := none }) ?_
      (try simp only [pq])
      refine tl (i := 26) (oi := { dst := some 87, op := .move (.tmp 86), type := 4, pos := "laws.go:381", after := #[{ on := 25, ground := .data }, { on := 23, ground := .chain }], guard := none }) ?_
      (try simp only [pq])
      refine tl (i := 27) (oi := { dst := some 88, op := .move (.tmp 11), type := 9, pos := "laws.go:381", after := #[{ on := 26, ground := .guard }], guard := some (26, true) }) ?_
      (try simp only [pq])
      refine tl (i := 28) (oi := { dst := some 89, op := .call { callee := .builtin .len, args := #[.tmp 88], argTypes := #[9] }, type := 3, pos := "laws.go:381", after := #[{ on := 27, ground := .data }, { on := 26, ground := .guard }], guard := some (26, true) }) ?_
      (try simp only [pq])
      refine tl (i := 29) (oi := { dst := some 90, op := .binOp .leq 3 (.tmp 89) (.const (.int .i64 300)) 3, type := 4, pos := "laws.go:381", after := #[{ on := 28, ground := .data }, { on := 26, ground := .guard }], guard := some (26, true) }) ?_
      (try simp only [pq])
      refine tl (i := 30) (oi := { dst := some 91, op := .pick (.tmp 87) (.tmp 90) (.const (.bool false)), type := 4, pos := "laws.go:381", after := #[{ on := 26, ground := .data }, { on := 29, ground := .data }], guard := none }) ?_
      (try simp only [pq])
      refine tl (i := 31) (oi := { dst := some 4, op := .assign (.tmp 91), type := 4, pos := "laws.go:381", after := #[{ on := 30, ground := .data }, { on := 26, ground := .chain }, { on := 0, ground := .phase }, { on := 1, ground := .phase }, { on := 2, ground := .phase }, { on := 3, ground := .phase }, { on := 4, ground := .phase }, { on := 5, ground := .phase }, { on := 6, ground := .phase }, { on := 7, ground := .phase }, { on := 8, ground := .phase }, { on := 9, ground := .phase }, { on := 10, ground := .phase }, { on := 11, ground := .phase }, { on := 12, ground := .phase }, { on := 13, ground := .phase }, { on := 14, ground := .phase }, { on := 15, ground := .phase }, { on := 16, ground := .phase }, { on := 17, ground := .phase }, { on := 18, ground := .phase }, { on := 19, ground := .phase }, { on := 20, ground := .phase }, { on := 21, ground := .phase }, { on := 22, ground := .phase }, { on := 23, ground := .phase }, { on := 24, ground := .phase }, { on := 25, ground := .phase }, { on := 26, ground := .phase }, { on := 27, ground := .phase }, { on := 28, ground := .phase }, { on := 29, ground := .phase }, { on := 30, ground := .phase }], guard := none }) ?_
      (try simp only [pq])
      refine wpAnyH_done (by kernel_rfl) ?_ _
      clear hHeld
      have BF := btrans B12 (btrans (btrans (btrans (btrans (btrans (qd (Below.refl _ _)) f1) f2) f3) f4) f5)
      go_wp2
      go_ret
      exact ⟨rfl, BF⟩
  · obtain ⟨hok3, htx3⟩ := hyH.out rfl
    have hWr3 := write_any W3.p W3.k W3.f W3.t W3.s W3.q W3.x W3.y W3.z W3.e a2 W3.T.length c2 (atF W3.T) w4 j4 hT8 (hp.below B4).t (keep_below B4 hd)
    have htt : wtx W3.p W3.k W3.f W3.t W3.s W3.q W3.x W3.y W3.z W3.e W3.T.length (atF W3.T) = tx := by
      show W3.tx = tx
      rw [wtx_ok hok3, ← htx3]
    rw [htt] at hWr3
    have hne : (tx.toList != tx.toList) = false := by simp
    clear htt htx3 hok3
    have d0 := k6.c 0 (.int .i64 W3.p) rfl
    have d1 := k6.c 1 (.int .i64 W3.k) rfl
    have d2 := k6.c 2 (.int .i64 W3.f) rfl
    have d3 := k6.c 3 (.int .i64 W3.t) rfl
    have d4 := k6.c 4 (.int .i64 W3.s) rfl
    have d5 := k6.c 5 (.int .i64 W3.q) rfl
    have d6 := k6.c 6 (.int .i64 W3.x) rfl
    have d7 := k6.c 7 (.int .i64 W3.y) rfl
    have d8 := k6.c 8 (.int .i64 W3.z) rfl
    have d9 := k6.c 9 (.int .i64 W3.e) rfl
    have d10 := k6.c 10 (.slice a2 W3.T.length c2) rfl
    go_wp2_with fail
    refine hWr3.mono ?_
    rintro _ w5 ⟨rfl, b5⟩
    have B5 := btrans B4 b5
    clear hWr3 d0 d1 d2 d3 d4 d5 d6 d7 d8 d9 d10 B4 b5 k6 j4
    go_wp2_with fail
    refine (drawWW_any a1 l1 c1 w5 (bytes_up (h1.below B5 (Nat.le_refl _)) B5.size) hc1).mono ?_
    rintro _ w6 ⟨V, ad, cp, rfl, oV, hV7, b6'⟩
    have bb := balloc (.cells #[.int .i64 V.p, .int .i64 V.k, .int .i64 V.f, .int .i64 V.t, .int .i64 V.s, .int .i64 V.q, .int .i64 V.x, .int .i64 V.y, .int .i64 V.z, .int .i64 V.e, .slice ad V.T.length cp] 35) (Below.refl w6.heap.size w6)
    have XD : Ws (w6.alloc (.cells #[.int .i64 V.p, .int .i64 V.k, .int .i64 V.f, .int .i64 V.t, .int .i64 V.s, .int .i64 V.q, .int .i64 V.x, .int .i64 V.y, .int .i64 V.z, .int .i64 V.e, .slice ad V.T.length cp] 35)) w6.heap.size [.int .i64 V.p, .int .i64 V.k, .int .i64 V.f, .int .i64 V.t, .int .i64 V.s, .int .i64 V.q, .int .i64 V.x, .int .i64 V.y, .int .i64 V.z, .int .i64 V.e, .slice ad V.T.length cp] := Ws.new (heap_alloc_new w6 (.cells #[.int .i64 V.p, .int .i64 V.k, .int .i64 V.f, .int .i64 V.t, .int .i64 V.s, .int .i64 V.q, .int .i64 V.x, .int .i64 V.y, .int .i64 V.z, .int .i64 V.e, .slice ad V.T.length cp] 35))
    have B6 := btrans (btrans B5 b6') bb
    have iV := fsl_of (own_below oV bb)
    have hTl : V.T.length ≤ 1048576 := by omega
    clear oV bb b6' B5
    go_upto_region 9 with fail
    generalize w6.alloc (.cells #[.int .i64 V.p, .int .i64 V.k, .int .i64 V.f, .int .i64 V.t, .int .i64 V.s, .int .i64 V.q, .int .i64 V.x, .int .i64 V.y, .int .i64 V.z, .int .i64 V.e, .slice ad V.T.length cp] 35) = u6 at *
    generalize w6.heap.size = b10 at *
    obtain ⟨X, hX⟩ : ∃ X, Hid (V.tx = X) := ⟨_, rfl⟩
    have hXs : X.size ≤ 300 := by rw [← hX.out]; exact tx_len V
    have hWr := write_any V.p V.k V.f V.t V.s V.q V.x V.y V.z V.e ad V.T.length cp (atF V.T) u6 iV hTl (hp.below B6).t (keep_below B6 hd)
    rw [show wtx V.p V.k V.f V.t V.s V.q V.x V.y V.z V.e V.T.length (atF V.T) = X from hX.out] at hWr
    have hLw : ∀ (w : World), FSl w ad V.T.length (atF V.T) → Calls Tryz.prog 22 #[.agg #[.int .i64 V.p, .int .i64 V.k, .int .i64 V.f, .int .i64 V.t, .int .i64 V.s, .int .i64 V.q, .int .i64 V.x, .int .i64 V.y, .int .i64 V.z, .int .i64 V.e, .slice ad V.T.length cp]] w fun r w' => r = .returned (.string X) ∧ Below w.heap.size w w' := fun w hh => by
      have := lwrite_any V.p V.k V.f V.t V.s V.q V.x V.y V.z V.e ad V.T.length cp (atF V.T) w hh hTl
      rwa [show wtx V.p V.k V.f V.t V.s V.q V.x V.y V.z V.e V.T.length (atF V.T) = X from hX.out] at this
    have d0 := XD.c 0 (.int .i64 V.p) rfl
    have d1 := XD.c 1 (.int .i64 V.k) rfl
    have d2 := XD.c 2 (.int .i64 V.f) rfl
    have d3 := XD.c 3 (.int .i64 V.t) rfl
    have d4 := XD.c 4 (.int .i64 V.s) rfl
    have d5 := XD.c 5 (.int .i64 V.q) rfl
    have d6 := XD.c 6 (.int .i64 V.x) rfl
    have d7 := XD.c 7 (.int .i64 V.y) rfl
    have d8 := XD.c 8 (.int .i64 V.z) rfl
    have d9 := XD.c 9 (.int .i64 V.e) rfl
    have d10 := XD.c 10 (.slice ad V.T.length cp) rfl
    go_wp2_with fail
    refine hWr.mono ?_
    rintro _ w7 ⟨rfl, b7⟩
    have XD7 := XD.below b7
    have B7 := btrans B6 b7
    have iV7 := iV.below b7
    clear hWr d0 d1 d2 d3 d4 d5 d6 d7 d8 d9 d10 XD B6 iV b7
    go_wp2_with fail
    refine (read_any X w7 (hp.below B7) (keep_below B7 hd) (by omega)).mono ?_
    rintro _ w8 ⟨B3, a5, c5, q5, rfl, hy, hn, o5, b8⟩
    have hXe : (X.toList == X.toList) = true := by simp
    have hX3 : (X.size : Int) ≤ 300 := by omega
    cases hok : V.ok
    · have hokH : Hid (wokB V.p V.k V.f V.t V.s V.q V.x V.y V.z V.e V.T.length (atF V.T) = false) := hok
      obtain rfl : q5 = false := by
        cases q5
        · rfl
        · have := (hy rfl).2
          rw [← hX.out, wtx_no hok] at this
          exact absurd this (nowd_nil B3 (hy rfl).1)
      clear hy hn hok
      have bb := balloc (.cells #[.int .i64 B3.p, .int .i64 B3.k, .int .i64 B3.f, .int .i64 B3.t, .int .i64 B3.s, .int .i64 B3.q, .int .i64 B3.x, .int .i64 B3.y, .int .i64 B3.z, .int .i64 B3.e, .slice a5 B3.T.length c5] 35) (Below.refl w8.heap.size w8)
      have ZD : Ws (w8.alloc (.cells #[.int .i64 B3.p, .int .i64 B3.k, .int .i64 B3.f, .int .i64 B3.t, .int .i64 B3.s, .int .i64 B3.q, .int .i64 B3.x, .int .i64 B3.y, .int .i64 B3.z, .int .i64 B3.e, .slice a5 B3.T.length c5] 35)) w8.heap.size [.int .i64 B3.p, .int .i64 B3.k, .int .i64 B3.f, .int .i64 B3.t, .int .i64 B3.s, .int .i64 B3.q, .int .i64 B3.x, .int .i64 B3.y, .int .i64 B3.z, .int .i64 B3.e, .slice a5 B3.T.length c5] := Ws.new (heap_alloc_new w8 (.cells #[.int .i64 B3.p, .int .i64 B3.k, .int .i64 B3.f, .int .i64 B3.t, .int .i64 B3.s, .int .i64 B3.q, .int .i64 B3.x, .int .i64 B3.y, .int .i64 B3.z, .int .i64 B3.e, .slice a5 B3.T.length c5] 35))
      have YD := (XD7.below b8).below bb
      have B12 := btrans (btrans B7 b8) bb
      have GD := (iV7.below b8).below bb
      have HD := GD
      clear XD7 B7 iV7 o5 b8 bb
      go_upto_region 11 with fail
      generalize w8.alloc (.cells #[.int .i64 B3.p, .int .i64 B3.k, .int .i64 B3.f, .int .i64 B3.t, .int .i64 B3.s, .int .i64 B3.q, .int .i64 B3.x, .int .i64 B3.y, .int .i64 B3.z, .int .i64 B3.e, .slice a5 B3.T.length c5] 35) = u8 at *
      generalize w8.heap.size = b12 at *
      have Y0 := YD.below (qd (Below.refl _ _))
      have Z0 := ZD.below (qd (Below.refl _ _))
      have G0 := GD.below (qd (Below.refl _ _))
      have H0 := HD.below (qd (Below.refl _ _))
      refine wp_region_held_drew (S := fun w' => Ws w' b10 [.int .i64 V.p, .int .i64 V.k, .int .i64 V.f, .int .i64 V.t, .int .i64 V.s, .int .i64 V.q, .int .i64 V.x, .int .i64 V.y, .int .i64 V.z, .int .i64 V.e, .slice ad V.T.length cp] ∧ Ws w' b12 [.int .i64 B3.p, .int .i64 B3.k, .int .i64 B3.f, .int .i64 B3.t, .int .i64 B3.s, .int .i64 B3.q, .int .i64 B3.x, .int .i64 B3.y, .int .i64 B3.z, .int .i64 B3.e, .slice a5 B3.T.length c5]) (by kernel_rfl) ?_ (fun hHeld => ?_)
      · (try dsimp only); exact ⟨Y0, Z0⟩
      refine tl (i := 0) (oi := { dst := some 61, op := .move (.tmp 11), type := 9, pos := "laws.go:381", after := #[], guard := none }) ?_
      (try simp only [pq])
      refine tk (i := 1) (oi := { dst := some 62, op := .load 35 (.tmp 10), type := 35, pos := "laws.go:381", after := #[], guard := none }) (v := .agg #[.int .i64 V.p, .int .i64 V.k, .int .i64 V.f, .int .i64 V.t, .int .i64 V.s, .int .i64 V.q, .int .i64 V.x, .int .i64 V.y, .int .i64 V.z, .int .i64 V.e, .slice ad V.T.length cp]) ?_ ?_
      · (intro w hSw; have q0 := hSw.1.c 0 (.int .i64 V.p) rfl; have q1 := hSw.1.c 1 (.int .i64 V.k) rfl; have q2 := hSw.1.c 2 (.int .i64 V.f) rfl; have q3 := hSw.1.c 3 (.int .i64 V.t) rfl; have q4 := hSw.1.c 4 (.int .i64 V.s) rfl; have q5 := hSw.1.c 5 (.int .i64 V.q) rfl; have q6 := hSw.1.c 6 (.int .i64 V.x) rfl; have q7 := hSw.1.c 7 (.int .i64 V.y) rfl; have q8 := hSw.1.c 8 (.int .i64 V.z) rfl; have q9 := hSw.1.c 9 (.int .i64 V.e) rfl; have q10 := hSw.1.c 10 (.slice ad V.T.length cp) rfl; go_simp)
      (try simp only [pq])
      refine wpAnyH_ready (rs := [2]) (by kernel_rfl) (by simp) ?_
      refine AllReadyH.cons (o := { dst := some 63, op := .call { callee := .value (.func 22), args := #[.tmp 62], argTypes := #[35] }, type := 9, pos := "laws.go:381", after := #[{ on := 1, ground := .data }], guard := none }) rfl (fun K hK => ?_) AllReadyH.nil
      go_simp
      refine (hLw _ G0).mono ?_; rintro r o1 ⟨rfl, f1⟩; have Y1 := Y0.below f1; have Z1 := Z0.below f1; have G1 := G0.below f1; have H1 := H0.below f1
      go_wp2_with fail
      refine hK.out _ _ ?_ (fun hHeld => ?_)
      · (try dsimp only); exact ⟨Y1, Z1⟩
      clear hK K
      (try simp only [pq])
      refine tl (i := 3) (oi := { dst := some 64, op := .binOp .eql 9 (.tmp 61) (.tmp 63) 9, type := 4, pos := "laws.go:381", after := #[{ on := 0, ground := .data }, { on := 2, ground := .data }], guard := none }) ?_
      (try simp only [pq])
      refine tl (i := 4) (oi := { dst := some 65, op := .move (.tmp 64), type := 4, pos := "laws.go:381", after := #[{ on := 3, ground := .data }, { on := 2, ground := .chain }], guard := none }) ?_
      (try simp only [pq])
      refine tk (i := 5) (oi := { dst := some 66, op := .load 35 (.tmp 10), type := 35, pos := "laws.go:381", after := #[{ on := 4, ground := .guard }], guard := some (4, true) }) (v := .agg #[.int .i64 V.p, .int .i64 V.k, .int .i64 V.f, .int .i64 V.t, .int .i64 V.s, .int .i64 V.q, .int .i64 V.x, .int .i64 V.y, .int .i64 V.z, .int .i64 V.e, .slice ad V.T.length cp]) ?_ ?_
      · (intro w hSw; have q0 := hSw.1.c 0 (.int .i64 V.p) rfl; have q1 := hSw.1.c 1 (.int .i64 V.k) rfl; have q2 := hSw.1.c 2 (.int .i64 V.f) rfl; have q3 := hSw.1.c 3 (.int .i64 V.t) rfl; have q4 := hSw.1.c 4 (.int .i64 V.s) rfl; have q5 := hSw.1.c 5 (.int .i64 V.q) rfl; have q6 := hSw.1.c 6 (.int .i64 V.x) rfl; have q7 := hSw.1.c 7 (.int .i64 V.y) rfl; have q8 := hSw.1.c 8 (.int .i64 V.z) rfl; have q9 := hSw.1.c 9 (.int .i64 V.e) rfl; have q10 := hSw.1.c 10 (.slice ad V.T.length cp) rfl; go_simp)
      (try simp only [pq])
      refine tk (i := 7) (oi := { dst := some 68, op := .load 35 (.tmp 10), type := 35, pos := "laws.go:381", after := #[{ on := 4, ground := .guard }], guard := some (4, true) }) (v := .agg #[.int .i64 V.p, .int .i64 V.k, .int .i64 V.f, .int .i64 V.t, .int .i64 V.s, .int .i64 V.q, .int .i64 V.x, .int .i64 V.y, .int .i64 V.z, .int .i64 V.e, .slice ad V.T.length cp]) ?_ ?_
      · (intro w hSw; have q0 := hSw.1.c 0 (.int .i64 V.p) rfl; have q1 := hSw.1.c 1 (.int .i64 V.k) rfl; have q2 := hSw.1.c 2 (.int .i64 V.f) rfl; have q3 := hSw.1.c 3 (.int .i64 V.t) rfl; have q4 := hSw.1.c 4 (.int .i64 V.s) rfl; have q5 := hSw.1.c 5 (.int .i64 V.q) rfl; have q6 := hSw.1.c 6 (.int .i64 V.x) rfl; have q7 := hSw.1.c 7 (.int .i64 V.y) rfl; have q8 := hSw.1.c 8 (.int .i64 V.z) rfl; have q9 := hSw.1.c 9 (.int .i64 V.e) rfl; have q10 := hSw.1.c 10 (.slice ad V.T.length cp) rfl; go_simp)
      (try simp only [pq])
      refine wpAnyH_ready (rs := [6]) (by kernel_rfl) (by simp) ?_
      refine AllReadyH.cons (o := { dst := some 67, op := .call { callee := .value (.func 23), args := #[.tmp 66], argTypes := #[35] }, type := 4, pos := "laws.go:381", after := #[{ on := 5, ground := .data }, { on := 4, ground := .chain }, { on := 4, ground := .guard }], guard := some (4, true) }) rfl (fun K hK => ?_) AllReadyH.nil
      go_simp
      refine (wok_lit V.p V.k V.f V.t V.s V.q V.x V.y V.z V.e ad V.T.length cp (atF V.T) false hokH.out _ G1 hTl).mono ?_; rintro r o2 ⟨rfl, f2⟩; have Y2 := Y1.below f2; have Z2 := Z1.below f2; have G2 := G1.below f2; have H2 := H1.below f2
      go_wp2_with fail
      refine hK.out _ _ ?_ (fun hHeld => ?_)
      · (try dsimp only); exact ⟨Y2, Z2⟩
      clear hK K
      (try simp only [pq])
      refine wpAnyH_ready (rs := [8]) (by kernel_rfl) (by simp) ?_
      refine AllReadyH.cons (o := { dst := some 69, op := .call { callee := .value (.func 24), args := #[.tmp 68], argTypes := #[35] }, type := 4, pos := "laws.go:381", after := #[{ on := 7, ground := .data }, { on := 6, ground := .chain }, { on := 4, ground := .guard }], guard := some (4, true) }) rfl (fun K hK => ?_) AllReadyH.nil
      go_simp
      refine (swok_lit V.p V.k V.f V.t V.s V.q V.x V.y V.z V.e ad V.T.length cp (atF V.T) false hokH.out _ G2 hTl).mono ?_; rintro r o3 ⟨rfl, f3⟩; have Y3 := Y2.below f3; have Z3 := Z2.below f3; have G3 := G2.below f3; have H3 := H2.below f3
      go_wp2_with fail
      refine hK.out _ _ ?_ (fun hHeld => ?_)
      · (try dsimp only); exact ⟨Y3, Z3⟩
      clear hK K
      (try simp only [pq])
      refine tl (i := 9) (oi := { dst := some 70, op := .binOp .eql 4 (.tmp 67) (.tmp 69) 4, type := 4, pos := "laws.go:381", after := #[{ on := 6, ground := .data }, { on := 8, ground := .data }, { on := 4, ground := .guard }], guard := some (4, true) }) ?_
      (try simp only [pq])
      refine tl (i := 10) (oi := { dst := some 71, op := .pick (.tmp 65) (.tmp 70) (.const (.bool false)), type := 4, pos := "laws.go:381", after := #[{ on := 4, ground := .data }, { on := 9, ground := .data }], guard := none }) ?_
      (try simp only [pq])
      refine tl (i := 11) (oi := { dst := some 72, op := .move (.tmp 71), type := 4, pos := "laws.go:381", after := #[{ on := 10, ground := .data }, { on := 8, ground := .chain }], guard := none }) ?_
      (try simp only [pq])
      refine tl (i := 12) (oi := { dst := some 73, op := .move (.tmp 13), type := 4, pos := "laws.go:381", after := #[{ on := 11, ground := .guard }], guard := some (11, true) }) ?_
      (try simp only [pq])
      refine tk (i := 13) (oi := { dst := some 74, op := .load 35 (.tmp 10), type := 35, pos := "laws.go:381", after := #[{ on := 11, ground := .guard }], guard := some (11, true) }) (v := .agg #[.int .i64 V.p, .int .i64 V.k, .int .i64 V.f, .int .i64 V.t, .int .i64 V.s, .int .i64 V.q, .int .i64 V.x, .int .i64 V.y, .int .i64 V.z, .int .i64 V.e, .slice ad V.T.length cp]) ?_ ?_
      · (intro w hSw; have q0 := hSw.1.c 0 (.int .i64 V.p) rfl; have q1 := hSw.1.c 1 (.int .i64 V.k) rfl; have q2 := hSw.1.c 2 (.int .i64 V.f) rfl; have q3 := hSw.1.c 3 (.int .i64 V.t) rfl; have q4 := hSw.1.c 4 (.int .i64 V.s) rfl; have q5 := hSw.1.c 5 (.int .i64 V.q) rfl; have q6 := hSw.1.c 6 (.int .i64 V.x) rfl; have q7 := hSw.1.c 7 (.int .i64 V.y) rfl; have q8 := hSw.1.c 8 (.int .i64 V.z) rfl; have q9 := hSw.1.c 9 (.int .i64 V.e) rfl; have q10 := hSw.1.c 10 (.slice ad V.T.length cp) rfl; go_simp)
      (try simp only [pq])
      refine wpAnyH_ready (rs := [14]) (by kernel_rfl) (by simp) ?_
      refine AllReadyH.cons (o := { dst := some 75, op := .call { callee := .value (.func 24), args := #[.tmp 74], argTypes := #[35] }, type := 4, pos := "laws.go:381", after := #[{ on := 13, ground := .data }, { on := 11, ground := .chain }, { on := 11, ground := .guard }], guard := some (11, true) }) rfl (fun K hK => ?_) AllReadyH.nil
      go_simp
      refine (swok_lit V.p V.k V.f V.t V.s V.q V.x V.y V.z V.e ad V.T.length cp (atF V.T) false hokH.out _ G3 hTl).mono ?_; rintro r o4 ⟨rfl, f4⟩; have Y4 := Y3.below f4; have Z4 := Z3.below f4; have G4 := G3.below f4; have H4 := H3.below f4
      go_wp2_with fail
      refine hK.out _ _ ?_ (fun hHeld => ?_)
      · (try dsimp only); exact ⟨Y4, Z4⟩
      clear hK K
      (try simp only [pq])
      refine tl (i := 15) (oi := { dst := some 76, op := .binOp .eql 4 (.tmp 73) (.tmp 75) 4, type := 4, pos := "laws.go:381", after := #[{ on := 12, ground := .data }, { on := 14, ground := .data }, { on := 11, ground := .guard }], guard := some (11, true) }) ?_
      (try simp only [pq])
      refine tl (i := 16) (oi := { dst := some 77, op := .pick (.tmp 72) (.tmp 76) (.const (.bool false)), type := 4, pos := "laws.go:381", after := #[{ on := 11, ground := .data }, { on := 15, ground := .data }], guard := none }) ?_
      (try simp only [pq])
      refine tl (i := 17) (oi := { dst := some 78, op := .move (.tmp 77), type := 4, pos := "laws.go:381", after := #[{ on := 16, ground := .data }, { on := 14, ground := .chain }], guard := none }) ?_
      (try simp only [pq])
      refine tl (i := 18) (oi := { dst := some 79, op := .move (.tmp 13), type := 4, pos := "laws.go:381", after := #[{ on := 17, ground := .guard }], guard := some (17, true) }) ?_
      (try simp only [pq])
      refine tl (i := 19) (oi := { dst := some 80, op := .unOp .not 4 (.tmp 79), type := 4, pos := "laws.go:381", after := #[{ on := 18, ground := .data }, { on := 17, ground := .guard }], guard := some (17, true) }) ?_
      (try simp only [pq])
      refine tl (i := 20) (oi := { dst := some 81, op := .move (.tmp 80), type := 4, pos := "laws.go:381", after := #[{ on := 19, ground := .data }, { on := 17, ground := .chain }, { on := 17, ground := .guard }], guard := some (17, true) }) ?_
      (try simp only [pq])
      refine wpAnyH_take (i := 21) (oi := { dst := some 82, op := .load 35 (.tmp 12), type := 35, pos := "laws.go:381", after := #[{ on := 20, ground := .guard }], guard := some (20, false) }) (v := undef) rfl (by kernel_rfl) (by kernel_rfl) (by kernel_rfl) (fun _ _ _ h => h) (Or.inr ⟨by rfl, rfl⟩) (by assumption) ?_
      (try simp only [pq])
      refine wpAnyH_take (i := 22) (oi := { dst := some 83, op := .load 35 (.tmp 10), type := 35, pos := "laws.go:381", after := #[{ on := 20, ground := .guard }], guard := some (20, false) }) (v := undef) rfl (by kernel_rfl) (by kernel_rfl) (by kernel_rfl) (fun _ _ _ h => h) (Or.inr ⟨by rfl, rfl⟩) (by assumption) ?_
      (try simp only [pq])
      refine wpAnyH_take (i := 23) (oi := { dst := some 84, op := .call { callee := .value (.func 19), args := #[.tmp 82, .tmp 83], argTypes := #[35, 35] }, type := 4, pos := "laws.go:381", after := #[{ on := 21, ground := .data }, { on := 22, ground := .data }, { on := 20, ground := .chain }, { on := 20, ground := .guard }], guard := some (20, false) }) (v := undef) rfl (by kernel_rfl) (by kernel_rfl) (by kernel_rfl) (fun _ _ _ h => h) (Or.inr ⟨by rfl, rfl⟩) (by assumption) ?_
      (try simp only [pq])
      refine tl (i := 24) (oi := { dst := some 85, op := .pick (.tmp 81) (.const (.bool true)) (.tmp 84), type := 4, pos := "laws.go:381", after := #[{ on := 20, ground := .data }, { on := 23, ground := .data }, { on := 17, ground := .guard }], guard := some (17, true) }) ?_
      (try simp only [pq])
      refine tl (i := 25) (oi := { dst := some 86, op := .pick (.tmp 78) (.tmp 85) (.const (.bool false)), type := 4, pos := "laws.go:381", after := #[{ on := 17, ground := .data }, { on := 24, ground := .data }], guard := none }) ?_
      (try simp only [pq])
      refine tl (i := 26) (oi := { dst := some 87, op := .move (.tmp 86), type := 4, pos := "laws.go:381", after := #[{ on := 25, ground := .data }, { on := 23, ground := .chain }], guard := none }) ?_
      (try simp only [pq])
      refine tl (i := 27) (oi := { dst := some 88, op := .move (.tmp 11), type := 9, pos := "laws.go:381", after := #[{ on := 26, ground := .guard }], guard := some (26, true) }) ?_
      (try simp only [pq])
      refine tl (i := 28) (oi := { dst := some 89, op := .call { callee := .builtin .len, args := #[.tmp 88], argTypes := #[9] }, type := 3, pos := "laws.go:381", after := #[{ on := 27, ground := .data }, { on := 26, ground := .guard }], guard := some (26, true) }) ?_
      (try simp only [pq])
      refine tl (i := 29) (oi := { dst := some 90, op := .binOp .leq 3 (.tmp 89) (.const (.int .i64 300)) 3, type := 4, pos := "laws.go:381", after := #[{ on := 28, ground := .data }, { on := 26, ground := .guard }], guard := some (26, true) }) ?_
      (try simp only [pq])
      refine tl (i := 30) (oi := { dst := some 91, op := .pick (.tmp 87) (.tmp 90) (.const (.bool false)), type := 4, pos := "laws.go:381", after := #[{ on := 26, ground := .data }, { on := 29, ground := .data }], guard := none }) ?_
      (try simp only [pq])
      refine tl (i := 31) (oi := { dst := some 4, op := .assign (.tmp 91), type := 4, pos := "laws.go:381", after := #[{ on := 30, ground := .data }, { on := 26, ground := .chain }, { on := 0, ground := .phase }, { on := 1, ground := .phase }, { on := 2, ground := .phase }, { on := 3, ground := .phase }, { on := 4, ground := .phase }, { on := 5, ground := .phase }, { on := 6, ground := .phase }, { on := 7, ground := .phase }, { on := 8, ground := .phase }, { on := 9, ground := .phase }, { on := 10, ground := .phase }, { on := 11, ground := .phase }, { on := 12, ground := .phase }, { on := 13, ground := .phase }, { on := 14, ground := .phase }, { on := 15, ground := .phase }, { on := 16, ground := .phase }, { on := 17, ground := .phase }, { on := 18, ground := .phase }, { on := 19, ground := .phase }, { on := 20, ground := .phase }, { on := 21, ground := .phase }, { on := 22, ground := .phase }, { on := 23, ground := .phase }, { on := 24, ground := .phase }, { on := 25, ground := .phase }, { on := 26, ground := .phase }, { on := 27, ground := .phase }, { on := 28, ground := .phase }, { on := 29, ground := .phase }, { on := 30, ground := .phase }], guard := none }) ?_
      (try simp only [pq])
      refine wpAnyH_done (by kernel_rfl) ?_ _
      clear hHeld
      have BF := btrans B12 (btrans (btrans (btrans (btrans (qd (Below.refl _ _)) f1) f2) f3) f4)
      go_wp2
      go_ret
      exact ⟨rfl, BF⟩
    · have hokH : Hid (wokB V.p V.k V.f V.t V.s V.q V.x V.y V.z V.e V.T.length (atF V.T) = true) := hok
      have hXt : X.data.toList = V.txt := by rw [← hX.out, wtx_ok hok]
      obtain ⟨rfl, rfl⟩ := wd_one (s := X.data.toList) (W := V) (q := true) (fun _ => ⟨hok, hXt⟩) (fun h => (by cases h)) hy hn
      clear hy hn hok hXt
      have bb := balloc (.cells #[.int .i64 B3.p, .int .i64 B3.k, .int .i64 B3.f, .int .i64 B3.t, .int .i64 B3.s, .int .i64 B3.q, .int .i64 B3.x, .int .i64 B3.y, .int .i64 B3.z, .int .i64 B3.e, .slice a5 B3.T.length c5] 35) (Below.refl w8.heap.size w8)
      have ZD : Ws (w8.alloc (.cells #[.int .i64 B3.p, .int .i64 B3.k, .int .i64 B3.f, .int .i64 B3.t, .int .i64 B3.s, .int .i64 B3.q, .int .i64 B3.x, .int .i64 B3.y, .int .i64 B3.z, .int .i64 B3.e, .slice a5 B3.T.length c5] 35)) w8.heap.size [.int .i64 B3.p, .int .i64 B3.k, .int .i64 B3.f, .int .i64 B3.t, .int .i64 B3.s, .int .i64 B3.q, .int .i64 B3.x, .int .i64 B3.y, .int .i64 B3.z, .int .i64 B3.e, .slice a5 B3.T.length c5] := Ws.new (heap_alloc_new w8 (.cells #[.int .i64 B3.p, .int .i64 B3.k, .int .i64 B3.f, .int .i64 B3.t, .int .i64 B3.s, .int .i64 B3.q, .int .i64 B3.x, .int .i64 B3.y, .int .i64 B3.z, .int .i64 B3.e, .slice a5 B3.T.length c5] 35))
      have YD := (XD7.below b8).below bb
      have B12 := btrans (btrans B7 b8) bb
      have GD := (iV7.below b8).below bb
      have HD := fsl_of (own_below o5 bb)
      clear XD7 B7 iV7 o5 b8 bb
      go_upto_region 11 with fail
      generalize w8.alloc (.cells #[.int .i64 B3.p, .int .i64 B3.k, .int .i64 B3.f, .int .i64 B3.t, .int .i64 B3.s, .int .i64 B3.q, .int .i64 B3.x, .int .i64 B3.y, .int .i64 B3.z, .int .i64 B3.e, .slice a5 B3.T.length c5] 35) = u8 at *
      generalize w8.heap.size = b12 at *
      have Y0 := YD.below (qd (Below.refl _ _))
      have Z0 := ZD.below (qd (Below.refl _ _))
      have G0 := GD.below (qd (Below.refl _ _))
      have H0 := HD.below (qd (Below.refl _ _))
      refine wp_region_held_drew (S := fun w' => Ws w' b10 [.int .i64 B3.p, .int .i64 B3.k, .int .i64 B3.f, .int .i64 B3.t, .int .i64 B3.s, .int .i64 B3.q, .int .i64 B3.x, .int .i64 B3.y, .int .i64 B3.z, .int .i64 B3.e, .slice ad B3.T.length cp] ∧ Ws w' b12 [.int .i64 B3.p, .int .i64 B3.k, .int .i64 B3.f, .int .i64 B3.t, .int .i64 B3.s, .int .i64 B3.q, .int .i64 B3.x, .int .i64 B3.y, .int .i64 B3.z, .int .i64 B3.e, .slice a5 B3.T.length c5]) (by kernel_rfl) ?_ (fun hHeld => ?_)
      · (try dsimp only); exact ⟨Y0, Z0⟩
      refine tl (i := 0) (oi := { dst := some 61, op := .move (.tmp 11), type := 9, pos := "laws.go:381", after := #[], guard := none }) ?_
      (try simp only [pq])
      refine tk (i := 1) (oi := { dst := some 62, op := .load 35 (.tmp 10), type := 35, pos := "laws.go:381", after := #[], guard := none }) (v := .agg #[.int .i64 B3.p, .int .i64 B3.k, .int .i64 B3.f, .int .i64 B3.t, .int .i64 B3.s, .int .i64 B3.q, .int .i64 B3.x, .int .i64 B3.y, .int .i64 B3.z, .int .i64 B3.e, .slice ad B3.T.length cp]) ?_ ?_
      · (intro w hSw; have q0 := hSw.1.c 0 (.int .i64 B3.p) rfl; have q1 := hSw.1.c 1 (.int .i64 B3.k) rfl; have q2 := hSw.1.c 2 (.int .i64 B3.f) rfl; have q3 := hSw.1.c 3 (.int .i64 B3.t) rfl; have q4 := hSw.1.c 4 (.int .i64 B3.s) rfl; have q5 := hSw.1.c 5 (.int .i64 B3.q) rfl; have q6 := hSw.1.c 6 (.int .i64 B3.x) rfl; have q7 := hSw.1.c 7 (.int .i64 B3.y) rfl; have q8 := hSw.1.c 8 (.int .i64 B3.z) rfl; have q9 := hSw.1.c 9 (.int .i64 B3.e) rfl; have q10 := hSw.1.c 10 (.slice ad B3.T.length cp) rfl; go_simp)
      (try simp only [pq])
      refine wpAnyH_ready (rs := [2]) (by kernel_rfl) (by simp) ?_
      refine AllReadyH.cons (o := { dst := some 63, op := .call { callee := .value (.func 22), args := #[.tmp 62], argTypes := #[35] }, type := 9, pos := "laws.go:381", after := #[{ on := 1, ground := .data }], guard := none }) rfl (fun K hK => ?_) AllReadyH.nil
      go_simp
      refine (hLw _ G0).mono ?_; rintro r o1 ⟨rfl, f1⟩; have Y1 := Y0.below f1; have Z1 := Z0.below f1; have G1 := G0.below f1; have H1 := H0.below f1
      go_wp2_with fail
      refine hK.out _ _ ?_ (fun hHeld => ?_)
      · (try dsimp only); exact ⟨Y1, Z1⟩
      clear hK K
      (try simp only [pq])
      refine tl (i := 3) (oi := { dst := some 64, op := .binOp .eql 9 (.tmp 61) (.tmp 63) 9, type := 4, pos := "laws.go:381", after := #[{ on := 0, ground := .data }, { on := 2, ground := .data }], guard := none }) ?_
      (try simp only [pq])
      refine tl (i := 4) (oi := { dst := some 65, op := .move (.tmp 64), type := 4, pos := "laws.go:381", after := #[{ on := 3, ground := .data }, { on := 2, ground := .chain }], guard := none }) ?_
      (try simp only [pq])
      refine tk (i := 5) (oi := { dst := some 66, op := .load 35 (.tmp 10), type := 35, pos := "laws.go:381", after := #[{ on := 4, ground := .guard }], guard := some (4, true) }) (v := .agg #[.int .i64 B3.p, .int .i64 B3.k, .int .i64 B3.f, .int .i64 B3.t, .int .i64 B3.s, .int .i64 B3.q, .int .i64 B3.x, .int .i64 B3.y, .int .i64 B3.z, .int .i64 B3.e, .slice ad B3.T.length cp]) ?_ ?_
      · (intro w hSw; have q0 := hSw.1.c 0 (.int .i64 B3.p) rfl; have q1 := hSw.1.c 1 (.int .i64 B3.k) rfl; have q2 := hSw.1.c 2 (.int .i64 B3.f) rfl; have q3 := hSw.1.c 3 (.int .i64 B3.t) rfl; have q4 := hSw.1.c 4 (.int .i64 B3.s) rfl; have q5 := hSw.1.c 5 (.int .i64 B3.q) rfl; have q6 := hSw.1.c 6 (.int .i64 B3.x) rfl; have q7 := hSw.1.c 7 (.int .i64 B3.y) rfl; have q8 := hSw.1.c 8 (.int .i64 B3.z) rfl; have q9 := hSw.1.c 9 (.int .i64 B3.e) rfl; have q10 := hSw.1.c 10 (.slice ad B3.T.length cp) rfl; go_simp)
      (try simp only [pq])
      refine tk (i := 7) (oi := { dst := some 68, op := .load 35 (.tmp 10), type := 35, pos := "laws.go:381", after := #[{ on := 4, ground := .guard }], guard := some (4, true) }) (v := .agg #[.int .i64 B3.p, .int .i64 B3.k, .int .i64 B3.f, .int .i64 B3.t, .int .i64 B3.s, .int .i64 B3.q, .int .i64 B3.x, .int .i64 B3.y, .int .i64 B3.z, .int .i64 B3.e, .slice ad B3.T.length cp]) ?_ ?_
      · (intro w hSw; have q0 := hSw.1.c 0 (.int .i64 B3.p) rfl; have q1 := hSw.1.c 1 (.int .i64 B3.k) rfl; have q2 := hSw.1.c 2 (.int .i64 B3.f) rfl; have q3 := hSw.1.c 3 (.int .i64 B3.t) rfl; have q4 := hSw.1.c 4 (.int .i64 B3.s) rfl; have q5 := hSw.1.c 5 (.int .i64 B3.q) rfl; have q6 := hSw.1.c 6 (.int .i64 B3.x) rfl; have q7 := hSw.1.c 7 (.int .i64 B3.y) rfl; have q8 := hSw.1.c 8 (.int .i64 B3.z) rfl; have q9 := hSw.1.c 9 (.int .i64 B3.e) rfl; have q10 := hSw.1.c 10 (.slice ad B3.T.length cp) rfl; go_simp)
      (try simp only [pq])
      refine wpAnyH_ready (rs := [6]) (by kernel_rfl) (by simp) ?_
      refine AllReadyH.cons (o := { dst := some 67, op := .call { callee := .value (.func 23), args := #[.tmp 66], argTypes := #[35] }, type := 4, pos := "laws.go:381", after := #[{ on := 5, ground := .data }, { on := 4, ground := .chain }, { on := 4, ground := .guard }], guard := some (4, true) }) rfl (fun K hK => ?_) AllReadyH.nil
      go_simp
      refine (wok_lit B3.p B3.k B3.f B3.t B3.s B3.q B3.x B3.y B3.z B3.e ad B3.T.length cp (atF B3.T) true hokH.out _ G1 hTl).mono ?_; rintro r o2 ⟨rfl, f2⟩; have Y2 := Y1.below f2; have Z2 := Z1.below f2; have G2 := G1.below f2; have H2 := H1.below f2
      go_wp2_with fail
      refine hK.out _ _ ?_ (fun hHeld => ?_)
      · (try dsimp only); exact ⟨Y2, Z2⟩
      clear hK K
      (try simp only [pq])
      refine wpAnyH_ready (rs := [8]) (by kernel_rfl) (by simp) ?_
      refine AllReadyH.cons (o := { dst := some 69, op := .call { callee := .value (.func 24), args := #[.tmp 68], argTypes := #[35] }, type := 4, pos := "laws.go:381", after := #[{ on := 7, ground := .data }, { on := 6, ground := .chain }, { on := 4, ground := .guard }], guard := some (4, true) }) rfl (fun K hK => ?_) AllReadyH.nil
      go_simp
      refine (swok_lit B3.p B3.k B3.f B3.t B3.s B3.q B3.x B3.y B3.z B3.e ad B3.T.length cp (atF B3.T) true hokH.out _ G2 hTl).mono ?_; rintro r o3 ⟨rfl, f3⟩; have Y3 := Y2.below f3; have Z3 := Z2.below f3; have G3 := G2.below f3; have H3 := H2.below f3
      go_wp2_with fail
      refine hK.out _ _ ?_ (fun hHeld => ?_)
      · (try dsimp only); exact ⟨Y3, Z3⟩
      clear hK K
      (try simp only [pq])
      refine tl (i := 9) (oi := { dst := some 70, op := .binOp .eql 4 (.tmp 67) (.tmp 69) 4, type := 4, pos := "laws.go:381", after := #[{ on := 6, ground := .data }, { on := 8, ground := .data }, { on := 4, ground := .guard }], guard := some (4, true) }) ?_
      (try simp only [pq])
      refine tl (i := 10) (oi := { dst := some 71, op := .pick (.tmp 65) (.tmp 70) (.const (.bool false)), type := 4, pos := "laws.go:381", after := #[{ on := 4, ground := .data }, { on := 9, ground := .data }], guard := none }) ?_
      (try simp only [pq])
      refine tl (i := 11) (oi := { dst := some 72, op := .move (.tmp 71), type := 4, pos := "laws.go:381", after := #[{ on := 10, ground := .data }, { on := 8, ground := .chain }], guard := none }) ?_
      (try simp only [pq])
      refine tl (i := 12) (oi := { dst := some 73, op := .move (.tmp 13), type := 4, pos := "laws.go:381", after := #[{ on := 11, ground := .guard }], guard := some (11, true) }) ?_
      (try simp only [pq])
      refine tk (i := 13) (oi := { dst := some 74, op := .load 35 (.tmp 10), type := 35, pos := "laws.go:381", after := #[{ on := 11, ground := .guard }], guard := some (11, true) }) (v := .agg #[.int .i64 B3.p, .int .i64 B3.k, .int .i64 B3.f, .int .i64 B3.t, .int .i64 B3.s, .int .i64 B3.q, .int .i64 B3.x, .int .i64 B3.y, .int .i64 B3.z, .int .i64 B3.e, .slice ad B3.T.length cp]) ?_ ?_
      · (intro w hSw; have q0 := hSw.1.c 0 (.int .i64 B3.p) rfl; have q1 := hSw.1.c 1 (.int .i64 B3.k) rfl; have q2 := hSw.1.c 2 (.int .i64 B3.f) rfl; have q3 := hSw.1.c 3 (.int .i64 B3.t) rfl; have q4 := hSw.1.c 4 (.int .i64 B3.s) rfl; have q5 := hSw.1.c 5 (.int .i64 B3.q) rfl; have q6 := hSw.1.c 6 (.int .i64 B3.x) rfl; have q7 := hSw.1.c 7 (.int .i64 B3.y) rfl; have q8 := hSw.1.c 8 (.int .i64 B3.z) rfl; have q9 := hSw.1.c 9 (.int .i64 B3.e) rfl; have q10 := hSw.1.c 10 (.slice ad B3.T.length cp) rfl; go_simp)
      (try simp only [pq])
      refine wpAnyH_ready (rs := [14]) (by kernel_rfl) (by simp) ?_
      refine AllReadyH.cons (o := { dst := some 75, op := .call { callee := .value (.func 24), args := #[.tmp 74], argTypes := #[35] }, type := 4, pos := "laws.go:381", after := #[{ on := 13, ground := .data }, { on := 11, ground := .chain }, { on := 11, ground := .guard }], guard := some (11, true) }) rfl (fun K hK => ?_) AllReadyH.nil
      go_simp
      refine (swok_lit B3.p B3.k B3.f B3.t B3.s B3.q B3.x B3.y B3.z B3.e ad B3.T.length cp (atF B3.T) true hokH.out _ G3 hTl).mono ?_; rintro r o4 ⟨rfl, f4⟩; have Y4 := Y3.below f4; have Z4 := Z3.below f4; have G4 := G3.below f4; have H4 := H3.below f4
      go_wp2_with fail
      refine hK.out _ _ ?_ (fun hHeld => ?_)
      · (try dsimp only); exact ⟨Y4, Z4⟩
      clear hK K
      (try simp only [pq])
      refine tl (i := 15) (oi := { dst := some 76, op := .binOp .eql 4 (.tmp 73) (.tmp 75) 4, type := 4, pos := "laws.go:381", after := #[{ on := 12, ground := .data }, { on := 14, ground := .data }, { on := 11, ground := .guard }], guard := some (11, true) }) ?_
      (try simp only [pq])
      refine tl (i := 16) (oi := { dst := some 77, op := .pick (.tmp 72) (.tmp 76) (.const (.bool false)), type := 4, pos := "laws.go:381", after := #[{ on := 11, ground := .data }, { on := 15, ground := .data }], guard := none }) ?_
      (try simp only [pq])
      refine tl (i := 17) (oi := { dst := some 78, op := .move (.tmp 77), type := 4, pos := "laws.go:381", after := #[{ on := 16, ground := .data }, { on := 14, ground := .chain }], guard := none }) ?_
      (try simp only [pq])
      refine tl (i := 18) (oi := { dst := some 79, op := .move (.tmp 13), type := 4, pos := "laws.go:381", after := #[{ on := 17, ground := .guard }], guard := some (17, true) }) ?_
      (try simp only [pq])
      refine tl (i := 19) (oi := { dst := some 80, op := .unOp .not 4 (.tmp 79), type := 4, pos := "laws.go:381", after := #[{ on := 18, ground := .data }, { on := 17, ground := .guard }], guard := some (17, true) }) ?_
      (try simp only [pq])
      refine tl (i := 20) (oi := { dst := some 81, op := .move (.tmp 80), type := 4, pos := "laws.go:381", after := #[{ on := 19, ground := .data }, { on := 17, ground := .chain }, { on := 17, ground := .guard }], guard := some (17, true) }) ?_
      (try simp only [pq])
      refine tk (i := 21) (oi := { dst := some 82, op := .load 35 (.tmp 12), type := 35, pos := "laws.go:381", after := #[{ on := 20, ground := .guard }], guard := some (20, false) }) (v := .agg #[.int .i64 B3.p, .int .i64 B3.k, .int .i64 B3.f, .int .i64 B3.t, .int .i64 B3.s, .int .i64 B3.q, .int .i64 B3.x, .int .i64 B3.y, .int .i64 B3.z, .int .i64 B3.e, .slice a5 B3.T.length c5]) ?_ ?_
      · (intro w hSw; have q0 := hSw.2.c 0 (.int .i64 B3.p) rfl; have q1 := hSw.2.c 1 (.int .i64 B3.k) rfl; have q2 := hSw.2.c 2 (.int .i64 B3.f) rfl; have q3 := hSw.2.c 3 (.int .i64 B3.t) rfl; have q4 := hSw.2.c 4 (.int .i64 B3.s) rfl; have q5 := hSw.2.c 5 (.int .i64 B3.q) rfl; have q6 := hSw.2.c 6 (.int .i64 B3.x) rfl; have q7 := hSw.2.c 7 (.int .i64 B3.y) rfl; have q8 := hSw.2.c 8 (.int .i64 B3.z) rfl; have q9 := hSw.2.c 9 (.int .i64 B3.e) rfl; have q10 := hSw.2.c 10 (.slice a5 B3.T.length c5) rfl; go_simp)
      (try simp only [pq])
      refine tk (i := 22) (oi := { dst := some 83, op := .load 35 (.tmp 10), type := 35, pos := "laws.go:381", after := #[{ on := 20, ground := .guard }], guard := some (20, false) }) (v := .agg #[.int .i64 B3.p, .int .i64 B3.k, .int .i64 B3.f, .int .i64 B3.t, .int .i64 B3.s, .int .i64 B3.q, .int .i64 B3.x, .int .i64 B3.y, .int .i64 B3.z, .int .i64 B3.e, .slice ad B3.T.length cp]) ?_ ?_
      · (intro w hSw; have q0 := hSw.1.c 0 (.int .i64 B3.p) rfl; have q1 := hSw.1.c 1 (.int .i64 B3.k) rfl; have q2 := hSw.1.c 2 (.int .i64 B3.f) rfl; have q3 := hSw.1.c 3 (.int .i64 B3.t) rfl; have q4 := hSw.1.c 4 (.int .i64 B3.s) rfl; have q5 := hSw.1.c 5 (.int .i64 B3.q) rfl; have q6 := hSw.1.c 6 (.int .i64 B3.x) rfl; have q7 := hSw.1.c 7 (.int .i64 B3.y) rfl; have q8 := hSw.1.c 8 (.int .i64 B3.z) rfl; have q9 := hSw.1.c 9 (.int .i64 B3.e) rfl; have q10 := hSw.1.c 10 (.slice ad B3.T.length cp) rfl; go_simp)
      (try simp only [pq])
      refine wpAnyH_ready (rs := [23]) (by kernel_rfl) (by simp) ?_
      refine AllReadyH.cons (o := { dst := some 84, op := .call { callee := .value (.func 19), args := #[.tmp 82, .tmp 83], argTypes := #[35, 35] }, type := 4, pos := "laws.go:381", after := #[{ on := 21, ground := .data }, { on := 22, ground := .data }, { on := 20, ground := .chain }, { on := 20, ground := .guard }], guard := some (20, false) }) rfl (fun K hK => ?_) AllReadyH.nil
      go_simp
      refine (lhWord_same B3.p B3.k B3.f B3.t B3.s B3.q B3.x B3.y B3.z B3.e a5 ad B3.T.length c5 cp (atF B3.T) _ H4 G4 hTl).mono ?_; rintro r o5 ⟨rfl, f5⟩; have Y5 := Y4.below f5; have Z5 := Z4.below f5; have G5 := G4.below f5; have H5 := H4.below f5
      go_wp2_with fail
      refine hK.out _ _ ?_ (fun hHeld => ?_)
      · (try dsimp only); exact ⟨Y5, Z5⟩
      clear hK K
      (try simp only [pq])
      refine tl (i := 24) (oi := { dst := some 85, op := .pick (.tmp 81) (.const (.bool true)) (.tmp 84), type := 4, pos := "laws.go:381", after := #[{ on := 20, ground := .data }, { on := 23, ground := .data }, { on := 17, ground := .guard }], guard := some (17, true) }) ?_
      (try simp only [pq])
      refine tl (i := 25) (oi := { dst := some 86, op := .pick (.tmp 78) (.tmp 85) (.const (.bool false)), type := 4, pos := "laws.go:381", after := #[{ on := 17, ground := .data }, { on := 24, ground := .data }], guard := none }) ?_
      (try simp only [pq])
      refine tl (i := 26) (oi := { dst := some 87, op := .move (.tmp 86), type := 4, pos := "laws.go:381", after := #[{ on := 25, ground := .data }, { on := 23, ground := .chain }], guard := none }) ?_
      (try simp only [pq])
      refine tl (i := 27) (oi := { dst := some 88, op := .move (.tmp 11), type := 9, pos := "laws.go:381", after := #[{ on := 26, ground := .guard }], guard := some (26, true) }) ?_
      (try simp only [pq])
      refine tl (i := 28) (oi := { dst := some 89, op := .call { callee := .builtin .len, args := #[.tmp 88], argTypes := #[9] }, type := 3, pos := "laws.go:381", after := #[{ on := 27, ground := .data }, { on := 26, ground := .guard }], guard := some (26, true) }) ?_
      (try simp only [pq])
      refine tl (i := 29) (oi := { dst := some 90, op := .binOp .leq 3 (.tmp 89) (.const (.int .i64 300)) 3, type := 4, pos := "laws.go:381", after := #[{ on := 28, ground := .data }, { on := 26, ground := .guard }], guard := some (26, true) }) ?_
      (try simp only [pq])
      refine tl (i := 30) (oi := { dst := some 91, op := .pick (.tmp 87) (.tmp 90) (.const (.bool false)), type := 4, pos := "laws.go:381", after := #[{ on := 26, ground := .data }, { on := 29, ground := .data }], guard := none }) ?_
      (try simp only [pq])
      refine tl (i := 31) (oi := { dst := some 4, op := .assign (.tmp 91), type := 4, pos := "laws.go:381", after := #[{ on := 30, ground := .data }, { on := 26, ground := .chain }, { on := 0, ground := .phase }, { on := 1, ground := .phase }, { on := 2, ground := .phase }, { on := 3, ground := .phase }, { on := 4, ground := .phase }, { on := 5, ground := .phase }, { on := 6, ground := .phase }, { on := 7, ground := .phase }, { on := 8, ground := .phase }, { on := 9, ground := .phase }, { on := 10, ground := .phase }, { on := 11, ground := .phase }, { on := 12, ground := .phase }, { on := 13, ground := .phase }, { on := 14, ground := .phase }, { on := 15, ground := .phase }, { on := 16, ground := .phase }, { on := 17, ground := .phase }, { on := 18, ground := .phase }, { on := 19, ground := .phase }, { on := 20, ground := .phase }, { on := 21, ground := .phase }, { on := 22, ground := .phase }, { on := 23, ground := .phase }, { on := 24, ground := .phase }, { on := 25, ground := .phase }, { on := 26, ground := .phase }, { on := 27, ground := .phase }, { on := 28, ground := .phase }, { on := 29, ground := .phase }, { on := 30, ground := .phase }], guard := none }) ?_
      (try simp only [pq])
      refine wpAnyH_done (by kernel_rfl) ?_ _
      clear hHeld
      have BF := btrans B12 (btrans (btrans (btrans (btrans (btrans (qd (Below.refl _ _)) f1) f2) f3) f4) f5)
      go_wp2
      go_ret
      exact ⟨rfl, BF⟩
end Go.Proofs.YtibnojbhoepcdaaGreatDoor
