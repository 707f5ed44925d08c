/- Texts of the proof, laid together: RW, RRd, Dco. -/
import Derived.Test.YtibnojbhoepcdaaGreatDoorQt10
import Derived.Defers
import Derived.Recover
import Derived.Laws.Pointers
import Derived.Test.YtibnojbhoepcdaaGreatDoorQt6
/- must of a word. -/
namespace Go.Proofs.YtibnojbhoepcdaaGreatDoor
open Go.ChangeShapes Go.WideShapes Go.ChangeAt Go.RowKit
attribute [local go_sem ↓] Go.wp_at_zero Go.wp_at_succ
set_option maxRecDepth 20000 in
set_option maxHeartbeats 4000000 in
theorem must_wd_no (p k f t s q x y z e : Int) (a : Option Addr) (len cap : Nat) (w : World) :
    Calls Tryz.prog 119 #[.agg #[.int .i64 p, .int .i64 k, .int .i64 f, .int .i64 t, .int .i64 s, .int .i64 q, .int .i64 x, .int .i64 y, .int .i64 z, .int .i64 e, (.slice a len cap)], .bool false] w fun r w' => r = .panicked [nw] ∧ Below w.heap.size w w' := by
  go_enter Tryz.func119, Tryz.ntmps119
  go_wp2
  exact ⟨rfl, rfl, balloc _ (balloc _ (Below.refl _ _))⟩
set_option maxRecDepth 20000 in
set_option maxHeartbeats 4000000 in
theorem must_wd (p k f t s q x y z e : Int) (a : Option Addr) (len cap : Nat) (w : World) :
    Calls Tryz.prog 119 #[.agg #[.int .i64 p, .int .i64 k, .int .i64 f, .int .i64 t, .int .i64 s, .int .i64 q, .int .i64 x, .int .i64 y, .int .i64 z, .int .i64 e, (.slice a len cap)], .bool true] w fun r w' => r = .returned (.agg #[.int .i64 p, .int .i64 k, .int .i64 f, .int .i64 t, .int .i64 s, .int .i64 q, .int .i64 x, .int .i64 y, .int .i64 z, .int .i64 e, (.slice a len cap)]) ∧ Below w.heap.size w w' := by
  go_enter Tryz.func119, Tryz.ntmps119
  go_wp2
  exact bodyPost_ret (v := .agg #[.int .i64 p, .int .i64 k, .int .i64 f, .int .i64 t, .int .i64 s, .int .i64 q, .int .i64 x, .int .i64 y, .int .i64 z, .int .i64 e, (.slice a len cap)]) (by simp [results, Tryz.results119, go_sem]) rfl ⟨rfl, balloc _ (balloc _ (Below.refl _ _))⟩
/-- what is read as a word, or that it is none -/
def GotW (w : World) (c : Nat) (s : ByteArray) (e : Ending) (w' : World) : Prop :=
  (∃ (W : Wd) (ad : Option Addr) (cap : Nat), W.ok = true ∧ s.data.toList = W.txt ∧ e = .returned (.agg #[.int .i64 W.p, .int .i64 W.k, .int .i64 W.f, .int .i64 W.t, .int .i64 W.s, .int .i64 W.q, .int .i64 W.x, .int .i64 W.y, .int .i64 W.z, .int .i64 W.e, .slice ad W.T.length cap]) ∧ w'.ownsRow w.heap.size 53 4 (.slice ad W.T.length cap) W.T.length (fl W.T) ∧ But c w w') ∨
  (NoWd s.data.toList ∧ e = .panicked [nw] ∧ But c w w')
theorem own_set {w : World} {base size n b k : Nat} {e : TypeId} {v : Value} {xs : List Value} (x : Value) (h : w.ownsRow base e size v n xs) (hb : b < base) : (w.setCell ⟨b, k, none⟩ x).ownsRow base e size v n xs := by
  refine ⟨h.1, h.2.imp id ?_⟩
  rintro ⟨g, cap, cur, hv, hg, hh, r⟩
  exact ⟨g, cap, cur, hv, hg, (Below.heap_setCell w ⟨b, k, none⟩ x g (by simp; omega)).trans hh, r⟩
theorem two_new (w : World) (cs : Array Value) (t : TypeId) : Below w.heap.size w ((w.alloc (.cells cs t)).alloc (.cells cs t)) ∧ ((w.alloc (.cells cs t)).alloc (.cells cs t)).heap[w.heap.size]? = some (.cells cs t (0, 0)) ∧ ((w.alloc (.cells cs t)).alloc (.cells cs t)).heap[w.heap.size + 1]? = some (.cells cs t (0, 0)) := by
  refine ⟨balloc _ (balloc _ (Below.refl _ _)), (Below.heap_alloc _ _ _ (lt_of_block (heap_alloc_new w _))).trans (heap_alloc_new w _), ?_⟩
  have := heap_alloc_new (w.alloc (.cells cs t)) (.cells cs t)
  rwa [show (w.alloc (.cells cs t)).heap.size = w.heap.size + 1 from Array.size_push _] at this
set_option maxRecDepth 20000 in
set_option maxHeartbeats 8000000 in
theorem cword {a w : World} {c : Nat} {s : ByteArray} (h : Rs a w c s 0) :
    Calls Tryz.prog 85 #[.pointer (some ⟨c, 0, none⟩)] w fun e w' => GotW w c s e w' := by
  go_enter Tryz.func85, Tryz.ntmps85
  go_wp2_with fail
  obtain ⟨b0, y2, y3⟩ := two_new w #[.int .i64 0, .int .i64 0, .int .i64 0, .int .i64 0, .int .i64 0, .int .i64 0, .int .i64 0, .int .i64 0, .int .i64 0, .int .i64 0, .slice none 0 0] 35
  generalize (w.alloc (.cells #[.int .i64 0, .int .i64 0, .int .i64 0, .int .i64 0, .int .i64 0, .int .i64 0, .int .i64 0, .int .i64 0, .int .i64 0, .int .i64 0, .slice none 0 0] 35)).alloc (.cells #[.int .i64 0, .int .i64 0, .int .i64 0, .int .i64 0, .int .i64 0, .int .i64 0, .int .i64 0, .int .i64 0, .int .i64 0, .int .i64 0, .slice none 0 0] 35) = u0 at *
  have R0 := h.below b0
  have X2_0 := Ws.new y2
  have X3_0 := Ws.new y3
  have hc := h.lt
  have h2c : w.heap.size ≠ c := by omega
  have h3c : w.heap.size + 1 ≠ c := by omega
  have h23 : w.heap.size ≠ w.heap.size + 1 := by omega
  have ha2 : a.heap.size ≤ w.heap.size := h.b.size
  have haw : a.heap.size ≤ w.heap.size + 1 := Nat.le_trans h.b.size (Nat.le_succ _)
  have hw3 : w.heap.size ≤ w.heap.size + 1 := Nat.le_succ _
  have B0 : But c w u0 := But.of b0
  have A0 := At.start s.data.toList
  clear y2 y3 b0
  generalize hb3 : w.heap.size + 1 = b3 at *
  refine (cpool R0).mono ?_
  rintro e w1 (⟨p0, r0, v0, hr0, hp0, hg0, rfl, rfl, Q1, k1⟩ | ⟨hb, rfl, k1⟩)
  rotate_left 1
  · go_wp2
    exact ⟨rfl, Or.inr ⟨A0.no (fun p => poolN p ≠ 0) (fun W => poolL W.p) (by simp) (fun _ => rfl) good0 hb, rfl, B0.trans k1⟩⟩
  have A1 : At s.data.toList [p0] _ := A0.step hr0 hp0
  have P2 := X2_0.but k1 h2c
  have P3 := X3_0.but k1 h3c
  have d := P3.c 0 (.int .i64 0) rfl
  have z := P3.z 0
  have R1 := Q1.far (k := 0) (.int .i64 (poolN p0)) h3c.symm haw
  have B1 := (B0.trans k1).new (k := 0) (.int .i64 (poolN p0)) hw3
  have X2_1 := P2.far (k := 0) (v := .int .i64 (poolN p0)) h23
  have X3_1 := P3.set 0 (by simp) (.int .i64 (poolN p0))
  go_wp2_with fail
  clear d z P2 P3 Q1 R0 B0 X2_0 X3_0 k1 A0
  generalize w1.setCell ⟨b3, 0, none⟩ (.int .i64 (poolN p0)) = u1 at *
  clear w1
  refine (ckind R1).mono ?_
  rintro e w2 (⟨p1, r1, v1, hr1, hp1, hg1, rfl, rfl, Q2, k2⟩ | ⟨hb, rfl, k2⟩)
  rotate_left 1
  · go_wp2
    exact ⟨rfl, Or.inr ⟨A1.no (fun p => kindN p ≠ 0) (fun W => kindL W.k) (by simp) (fun _ => rfl) good1 hb, rfl, B1.trans k2⟩⟩
  have A2 : At s.data.toList [p0, p1] _ := A1.step hr1 hp1
  have P2 := X2_1.but k2 h2c
  have P3 := X3_1.but k2 h3c
  have d := P3.c 1 (.int .i64 0) rfl
  have z := P3.z 1
  have R2 := Q2.far (k := 1) (.int .i64 (kindN p1)) h3c.symm haw
  have B2 := (B1.trans k2).new (k := 1) (.int .i64 (kindN p1)) hw3
  have X2_2 := P2.far (k := 1) (v := .int .i64 (kindN p1)) h23
  have X3_2 := P3.set 1 (by simp) (.int .i64 (kindN p1))
  go_wp2_with fail
  clear d z P2 P3 Q2 R1 B1 X2_1 X3_1 k2 A1
  generalize w2.setCell ⟨b3, 1, none⟩ (.int .i64 (kindN p1)) = u2 at *
  clear w2
  refine (cnum R2).mono ?_
  rintro e w3 (⟨p2, r2, v2, hr2, hp2, hg2, rfl, rfl, Q3, k3⟩ | ⟨hb, rfl, k3⟩)
  rotate_left 1
  · go_wp2
    exact ⟨rfl, Or.inr ⟨A2.no (fun p => (pnum p).2 = true) (fun W => Lib.itoa W.f) (by simp) (fun _ => rfl) good2 hb, rfl, B2.trans k3⟩⟩
  have A3 : At s.data.toList [p0, p1, p2] _ := A2.step hr2 hp2
  have P2 := X2_2.but k3 h2c
  have P3 := X3_2.but k3 h3c
  have d := P3.c 2 (.int .i64 0) rfl
  have z := P3.z 2
  have R3 := Q3.far (k := 2) (.int .i64 ((pnum p2).1)) h3c.symm haw
  have B3 := (B2.trans k3).new (k := 2) (.int .i64 ((pnum p2).1)) hw3
  have X2_3 := P2.far (k := 2) (v := .int .i64 ((pnum p2).1)) h23
  have X3_3 := P3.set 2 (by simp) (.int .i64 ((pnum p2).1))
  go_wp2_with fail
  clear d z P2 P3 Q3 R2 B2 X2_2 X3_2 k3 A2
  generalize w3.setCell ⟨b3, 2, none⟩ (.int .i64 ((pnum p2).1)) = u3 at *
  clear w3
  refine (cnum R3).mono ?_
  rintro e w4 (⟨p3, r3, v3, hr3, hp3, hg3, rfl, rfl, Q4, k4⟩ | ⟨hb, rfl, k4⟩)
  rotate_left 1
  · go_wp2
    exact ⟨rfl, Or.inr ⟨A3.no (fun p => (pnum p).2 = true) (fun W => Lib.itoa W.t) (by simp) (fun _ => rfl) good3 hb, rfl, B3.trans k4⟩⟩
  have A4 : At s.data.toList [p0, p1, p2, p3] _ := A3.step hr3 hp3
  have P2 := X2_3.but k4 h2c
  have P3 := X3_3.but k4 h3c
  have d := P3.c 3 (.int .i64 0) rfl
  have z := P3.z 3
  have R4 := Q4.far (k := 3) (.int .i64 ((pnum p3).1)) h3c.symm haw
  have B4 := (B3.trans k4).new (k := 3) (.int .i64 ((pnum p3).1)) hw3
  have X2_4 := P2.far (k := 3) (v := .int .i64 ((pnum p3).1)) h23
  have X3_4 := P3.set 3 (by simp) (.int .i64 ((pnum p3).1))
  go_wp2_with fail
  clear d z P2 P3 Q4 R3 B3 X2_3 X3_3 k4 A3
  generalize w4.setCell ⟨b3, 3, none⟩ (.int .i64 ((pnum p3).1)) = u4 at *
  clear w4
  refine (cnum R4).mono ?_
  rintro e w5 (⟨p4, r4, v4, hr4, hp4, hg4, rfl, rfl, Q5, k5⟩ | ⟨hb, rfl, k5⟩)
  rotate_left 1
  · go_wp2
    exact ⟨rfl, Or.inr ⟨A4.no (fun p => (pnum p).2 = true) (fun W => Lib.itoa W.s) (by simp) (fun _ => rfl) good4 hb, rfl, B4.trans k5⟩⟩
  have A5 : At s.data.toList [p0, p1, p2, p3, p4] _ := A4.step hr4 hp4
  have P2 := X2_4.but k5 h2c
  have P3 := X3_4.but k5 h3c
  have d := P3.c 4 (.int .i64 0) rfl
  have z := P3.z 4
  have R5 := Q5.far (k := 4) (.int .i64 ((pnum p4).1)) h3c.symm haw
  have B5 := (B4.trans k5).new (k := 4) (.int .i64 ((pnum p4).1)) hw3
  have X2_5 := P2.far (k := 4) (v := .int .i64 ((pnum p4).1)) h23
  have X3_5 := P3.set 4 (by simp) (.int .i64 ((pnum p4).1))
  go_wp2_with fail
  clear d z P2 P3 Q5 R4 B4 X2_4 X3_4 k5 A4
  generalize w5.setCell ⟨b3, 4, none⟩ (.int .i64 ((pnum p4).1)) = u5 at *
  clear w5
  refine (cnum R5).mono ?_
  rintro e w6 (⟨p5, r5, v5, hr5, hp5, hg5, rfl, rfl, Q6, k6⟩ | ⟨hb, rfl, k6⟩)
  rotate_left 1
  · go_wp2
    exact ⟨rfl, Or.inr ⟨A5.no (fun p => (pnum p).2 = true) (fun W => Lib.itoa W.q) (by simp) (fun _ => rfl) good5 hb, rfl, B5.trans k6⟩⟩
  have A6 : At s.data.toList [p0, p1, p2, p3, p4, p5] _ := A5.step hr5 hp5
  have P2 := X2_5.but k6 h2c
  have P3 := X3_5.but k6 h3c
  have d := P3.c 5 (.int .i64 0) rfl
  have z := P3.z 5
  have R6 := Q6.far (k := 5) (.int .i64 ((pnum p5).1)) h3c.symm haw
  have B6 := (B5.trans k6).new (k := 5) (.int .i64 ((pnum p5).1)) hw3
  have X2_6 := P2.far (k := 5) (v := .int .i64 ((pnum p5).1)) h23
  have X3_6 := P3.set 5 (by simp) (.int .i64 ((pnum p5).1))
  go_wp2_with fail
  clear d z P2 P3 Q6 R5 B5 X2_5 X3_5 k6 A5
  generalize w6.setCell ⟨b3, 5, none⟩ (.int .i64 ((pnum p5).1)) = u6 at *
  clear w6
  refine (ccoord R6 A6).mono ?_
  rintro e w7 (⟨p6, p7, p8, p9, n7, hg6, hg7, hg8, hg9, A7, rfl, Q7, k7⟩ | ⟨hb, rfl, k7⟩)
  rotate_left 1
  · go_wp2
    exact ⟨rfl, Or.inr ⟨hb, rfl, B6.trans k7⟩⟩
  replace A7 : At s.data.toList [p0, p1, p2, p3, p4, p5, p6, p7, p8, p9] n7 := A7
  have P2 := X2_6.but k7 h2c
  have P3 := X3_6.but k7 h3c
  have d6 := P3.c 6 (.int .i64 0) rfl
  have d7 := P3.c 7 (.int .i64 0) rfl
  have d8 := P3.c 8 (.int .i64 0) rfl
  have d9 := P3.c 9 (.int .i64 0) rfl
  have z6 := P3.z 6
  have z7 := P3.z 7
  have z8 := P3.z 8
  have z9 := P3.z 9
  have R7 := ((((Q7.far (k := 6) (.int .i64 (psg p6).1) h3c.symm haw).far (k := 7) (.int .i64 (psg p7).1) h3c.symm haw).far (k := 8) (.int .i64 (pnum p8).1) h3c.symm haw).far (k := 9) (.int .i64 (pnum p9).1) h3c.symm haw)
  have B7 := (((((B6.trans k7).new (k := 6) (.int .i64 (psg p6).1) hw3).new (k := 7) (.int .i64 (psg p7).1) hw3).new (k := 8) (.int .i64 (pnum p8).1) hw3).new (k := 9) (.int .i64 (pnum p9).1) hw3)
  have X2_7 := ((((P2.far (k := 6) (v := .int .i64 (psg p6).1) h23).far (k := 7) (v := .int .i64 (psg p7).1) h23).far (k := 8) (v := .int .i64 (pnum p8).1) h23).far (k := 9) (v := .int .i64 (pnum p9).1) h23)
  have X3_7 := ((((P3.set 6 (by simp) (.int .i64 (psg p6).1)).set 7 (by simp) (.int .i64 (psg p7).1)).set 8 (by simp) (.int .i64 (pnum p8).1)).set 9 (by simp) (.int .i64 (pnum p9).1))
  go_wp2_with fail
  clear d6 d7 d8 d9 z6 z7 z8 z9 P2 P3 Q7 R6 B6 X2_6 X3_6 k7 A6
  generalize ((((w7.setCell ⟨b3, 6, none⟩ (.int .i64 (psg p6).1)).setCell ⟨b3, 7, none⟩ (.int .i64 (psg p7).1)).setCell ⟨b3, 8, none⟩ (.int .i64 (pnum p8).1)).setCell ⟨b3, 9, none⟩ (.int .i64 (pnum p9).1)) = u7 at *
  clear w7
  refine (cfacts R7).mono ?_
  rintro e w8 (⟨p10, r10, v10, hr10, hp10, hg10, rfl, ⟨T, hT, hTl, ho⟩, Q8, k8⟩ | ⟨hb, rfl, k8⟩)
  rotate_left 1
  · go_wp2
    exact ⟨rfl, Or.inr ⟨A7.no (fun p => ∃ T, pt p = some T) (fun W => txL W.T) (by simp) (fun _ => rfl) good10 hb, rfl, B7.trans k8⟩⟩
  have A8 : At s.data.toList [p0, p1, p2, p3, p4, p5, p6, p7, p8, p9, p10] _ := A7.step hr10 hp10
  obtain ⟨ad, cp, rfl, -, -, -⟩ := own_facts ho
  have P2 := X2_7.but k8 h2c
  have P3 := X3_7.but k8 h3c
  have d := P3.c 10 (.slice none 0 0) rfl
  have z := P3.z 10
  have R8 := Q8.far (k := 10) (.slice ad T.length cp) h3c.symm haw
  have B8 := (B7.trans k8).new (k := 10) (.slice ad T.length cp) hw3
  have X2_8 := P2.far (k := 10) (v := .slice ad T.length cp) h23
  have X3_8 := P3.set 10 (by simp) (.slice ad T.length cp)
  have ho8 := own_set (k := 10) (.slice ad T.length cp) ho X3_7.lt
  have hub := X2_7.lt
  go_upto_region 10 with fail
  clear d z P2 P3 Q8 R7 B7 X2_7 X3_7 k8 A7 ho
  generalize w8.setCell ⟨b3, 10, none⟩ (.slice ad T.length cp) = u8 at *
  clear w8
  have hpa := A8.passed (by simp)
  have hJl : (Lib.join [p0, p1, p2, p3, p4, p5, p6, p7, p8, p9, p10] [32]).length ≤ 300 := by
    have e1 := congrArg List.length A8.pre
    rw [flat_join _ (by simp), List.length_append, List.length_take] at e1
    have hL : s.data.toList.length = s.size := by simp
    have := h.hs
    simp only [List.length_singleton] at e1
    omega
  obtain ⟨J, hJ⟩ : ∃ J, Hid (bs (Lib.join [p0, p1, p2, p3, p4, p5, p6, p7, p8, p9, p10] [32]) = J) := ⟨_, rfl⟩
  have hJs : J.size ≤ 300 := by rw [← hJ.out]; exact hJl
  have hsm := sumN_lt J
  obtain ⟨sn, hsn⟩ : ∃ sn, Hid (S.sumN J = sn) := ⟨_, rfl⟩
  rw [hsn.out] at hsm
  obtain ⟨HH, hHH⟩ : ∃ HH, Hid (bs (S.hex8 sn) = HH) := ⟨_, rfl⟩
  generalize hnn : n7 + p10.length + 1 = nn at *
  obtain ⟨X, hX⟩ : ∃ X, Hid (bs (s.data.toList.drop nn) = X) := ⟨_, rfl⟩
  obtain ⟨sh, hsh⟩ : ∃ sh, (X.toList == HH.toList) = sh := ⟨_, rfl⟩
  have RD := R8.below (qd (Below.refl _ _))
  clear hnn hJl
  refine wp_region_held_drew (S := fun _ => True) (by kernel_rfl) ?_ (fun hHeld => ?_)
  · (try dsimp only); (try trivial)
  refine tl (i := 0) (oi := { dst := some 29, op := .move (.tmp 0), type := 120, pos := "l4_word.go:178", after := #[], guard := none }) ?_
  (try simp only [pq])
  refine tl (i := 1) (oi := { dst := some 30, op := .nilCheck (.tmp 29), type := 0, pos := "l4_word.go:178", after := #[{ on := 0, ground := .data }], guard := none }) ?_
  (try simp only [pq])
  refine tl (i := 2) (oi := { dst := some 31, op := .fieldAddr 95 (.tmp 30) 0, type := 0, pos := "l4_word.go:178", after := #[{ on := 1, ground := .data }], guard := none }) ?_
  (try simp only [pq])
  refine tl (i := 4) (oi := { dst := some 33, op := .move (.tmp 0), type := 120, pos := "l4_word.go:178", after := #[], guard := none }) ?_
  (try simp only [pq])
  refine tl (i := 5) (oi := { dst := some 34, op := .nilCheck (.tmp 33), type := 0, pos := "l4_word.go:178", after := #[{ on := 4, ground := .data }], guard := none }) ?_
  (try simp only [pq])
  refine tl (i := 6) (oi := { dst := some 35, op := .fieldAddr 95 (.tmp 34) 0, type := 0, pos := "l4_word.go:178", after := #[{ on := 5, ground := .data }], guard := none }) ?_
  (try simp only [pq])
  refine wpAnyH_ready (rs := [3]) (by kernel_rfl) (by simp) ?_
  refine AllReadyH.cons (o := { dst := some 32, op := .call { callee := .value (.func 117), args := #[.tmp 31], argTypes := #[93] }, type := 9, pos := "l4_word.go:178", after := #[{ on := 2, ground := .data }], guard := none }) rfl (fun K hK => ?_) AllReadyH.nil
  go_simp
  have hRR := rest_any RD; rw [hX.out] at hRR; refine hRR.mono ?_; rintro r o1 ⟨rfl, e1⟩; have RD1 := RD.below e1
  go_wp2_with fail
  refine hK.out _ _ ?_ (fun hHeld => ?_)
  · (try dsimp only); (try trivial)
  clear hK K
  (try simp only [pq])
  refine wpAnyH_ready (rs := [7]) (by kernel_rfl) (by simp) ?_
  refine AllReadyH.cons (o := { dst := some 36, op := .call { callee := .value (.func 118), args := #[.tmp 35], argTypes := #[93] }, type := 9, pos := "l4_word.go:178", after := #[{ on := 6, ground := .data }, { on := 3, ground := .chain }], guard := none }) rfl (fun K hK => ?_) AllReadyH.nil
  go_simp
  have hPP := passed_any RD1; rw [hpa, hJ.out] at hPP; refine hPP.mono ?_; rintro r o2 ⟨rfl, e2⟩; have RD2 := RD1.below e2
  go_wp2_with fail
  refine hK.out _ _ ?_ (fun hHeld => ?_)
  · (try dsimp only); (try trivial)
  clear hK K
  (try simp only [pq])
  refine wpAnyH_ready (rs := [8]) (by kernel_rfl) (by simp) ?_
  refine AllReadyH.cons (o := { dst := some 37, op := .call { callee := .value (.func 52), args := #[.tmp 36], argTypes := #[9] }, type := 3, pos := "l4_word.go:178", after := #[{ on := 7, ground := .data }, { on := 7, ground := .chain }], guard := none }) rfl (fun K hK => ?_) AllReadyH.nil
  go_simp
  have hSS := S.sum_any J (by omega); rw [hsn.out] at hSS; refine (hSS _).mono ?_; rintro r o3 ⟨rfl, e3⟩; have RD3 := RD2.below e3
  go_wp2_with fail
  refine hK.out _ _ ?_ (fun hHeld => ?_)
  · (try dsimp only); (try trivial)
  clear hK K
  (try simp only [pq])
  refine wpAnyH_ready (rs := [9]) (by kernel_rfl) (by simp) ?_
  refine AllReadyH.cons (o := { dst := some 38, op := .call { callee := .value (.func 51), args := #[.tmp 37], argTypes := #[3] }, type := 9, pos := "l4_word.go:178", after := #[{ on := 8, ground := .data }, { on := 8, ground := .chain }], guard := none }) rfl (fun K hK => ?_) AllReadyH.nil
  go_simp
  have hTT := S.sumText_any sn hsm; rw [hHH.out] at hTT; refine (hTT _ ((RD3.b.cell (p := ⟨9, 15, none⟩) (S.cell_lt RD3.d)).trans RD3.d)).mono ?_; rintro r o4 ⟨rfl, e4⟩; have RD4 := RD3.below e4
  go_wp2_with fail
  refine hK.out _ _ ?_ (fun hHeld => ?_)
  · (try dsimp only); (try trivial)
  clear hK K
  (try simp only [pq])
  refine tl (i := 10) (oi := { dst := some 39, op := .binOp .eql 9 (.tmp 32) (.tmp 38) 9, type := 4, pos := "l4_word.go:178", after := #[{ on := 3, ground := .data }, { on := 9, ground := .data }], guard := none }) ?_
  (try simp only [pq])
  refine tl (i := 11) (oi := { dst := some 4, op := .assign (.tmp 39), type := 4, pos := "l4_word.go:178", after := #[{ on := 10, ground := .data }, { on := 9, ground := .chain }, { on := 0, ground := .phase }, { on := 1, ground := .phase }, { on := 2, ground := .phase }, { on := 3, ground := .phase }, { on := 4, ground := .phase }, { on := 5, ground := .phase }, { on := 6, ground := .phase }, { on := 7, ground := .phase }, { on := 8, ground := .phase }, { on := 9, ground := .phase }, { on := 10, ground := .phase }], guard := none }) ?_
  (try simp only [pq])
  refine wpAnyH_done (by kernel_rfl) ?_ _
  clear hHeld
  have BE : Below u8.heap.size u8 o4 := btrans (btrans (btrans (btrans (qd (Below.refl _ _)) e1) e2) e3) e4
  have X2 := X2_8.below BE
  have X3 : Ws o4 b3 [.int .i64 (poolN p0), .int .i64 (kindN p1), .int .i64 ((pnum p2).1), .int .i64 ((pnum p3).1), .int .i64 ((pnum p4).1), .int .i64 ((pnum p5).1), .int .i64 (psg p6).1, .int .i64 (psg p7).1, .int .i64 (pnum p8).1, .int .i64 (pnum p9).1, .slice ad T.length cp] := X3_8.below BE
  have BB := B8.trans (But.of BE)
  have hoE := own_below ho8 BE
  have hokE : (rdW p0 p1 p2 p3 p4 p5 p6 p7 p8 p9 T).ok = wokB (poolN p0) (kindN p1) ((pnum p2).1) ((pnum p3).1) ((pnum p4).1) ((pnum p5).1) ((psg p6).1) ((psg p7).1) ((pnum p8).1) ((pnum p9).1) T.length (atF T) := rfl
  clear X2_8 X3_8 B8 ho8 RD RD1 RD2 RD3 R8 e1 e2 e3 e4 BE
  have XD : Ws o4.drew b3 [.int .i64 (poolN p0), .int .i64 (kindN p1), .int .i64 ((pnum p2).1), .int .i64 ((pnum p3).1), .int .i64 ((pnum p4).1), .int .i64 ((pnum p5).1), .int .i64 (psg p6).1, .int .i64 (psg p7).1, .int .i64 (pnum p8).1, .int .i64 (pnum p9).1, .slice ad T.length cp] := X3.below (qd (Below.refl _ _))
  have hoD := own_below hoE (qd (Below.refl _ _))
  go_upto_region 11 with fail
  cases sh
  · skip
    refine wp_region_held_drew (S := fun w' => Ws w' b3 [.int .i64 (poolN p0), .int .i64 (kindN p1), .int .i64 ((pnum p2).1), .int .i64 ((pnum p3).1), .int .i64 ((pnum p4).1), .int .i64 ((pnum p5).1), .int .i64 (psg p6).1, .int .i64 (psg p7).1, .int .i64 (pnum p8).1, .int .i64 (pnum p9).1, .slice ad T.length cp]) (by kernel_rfl) ?_ (fun hHeld => ?_)
    · (try dsimp only); exact XD
    refine tk (i := 0) (oi := { dst := some 40, op := .load 35 (.tmp 3), type := 35, pos := "l4_word.go:179", after := #[], guard := none }) (v := .agg #[.int .i64 (poolN p0), .int .i64 (kindN p1), .int .i64 ((pnum p2).1), .int .i64 ((pnum p3).1), .int .i64 ((pnum p4).1), .int .i64 ((pnum p5).1), .int .i64 (psg p6).1, .int .i64 (psg p7).1, .int .i64 (pnum p8).1, .int .i64 (pnum p9).1, .slice ad T.length cp]) ?_ ?_
    · (intro w hSw; have d0 := hSw.c 0 (.int .i64 (poolN p0)) rfl; have d1 := hSw.c 1 (.int .i64 (kindN p1)) rfl; have d2 := hSw.c 2 (.int .i64 ((pnum p2).1)) rfl; have d3 := hSw.c 3 (.int .i64 ((pnum p3).1)) rfl; have d4 := hSw.c 4 (.int .i64 ((pnum p4).1)) rfl; have d5 := hSw.c 5 (.int .i64 ((pnum p5).1)) rfl; have d6 := hSw.c 6 (.int .i64 (psg p6).1) rfl; have d7 := hSw.c 7 (.int .i64 (psg p7).1) rfl; have d8 := hSw.c 8 (.int .i64 (pnum p8).1) rfl; have d9 := hSw.c 9 (.int .i64 (pnum p9).1) rfl; have d10 := hSw.c 10 (.slice ad T.length cp) rfl; go_simp)
    (try simp only [pq])
    refine tl (i := 1) (oi := { dst := some 41, op := .move (.tmp 4), type := 4, pos := "l4_word.go:179", after := #[], guard := none }) ?_
    (try simp only [pq])
    refine tl (i := 2) (oi := { dst := some 42, op := .move (.tmp 41), type := 4, pos := "l4_word.go:179", after := #[{ on := 1, ground := .data }], guard := none }) ?_
    (try simp only [pq])
    refine wpAnyH_take (i := 3) (oi := { dst := some 43, op := .load 35 (.tmp 3), type := 35, pos := "l4_word.go:179", after := #[{ on := 2, ground := .guard }], guard := some (2, true) }) (v := undef) rfl (by kernel_rfl) (by kernel_rfl) (by kernel_rfl) (fun _ _ _ h => h) (Or.inr ⟨by rfl, rfl⟩) (by assumption) ?_
    (try simp only [pq])
    refine wpAnyH_take (i := 4) (oi := { dst := some 44, op := .call { callee := .value (.func 23), args := #[.tmp 43], argTypes := #[35] }, type := 4, pos := "l4_word.go:179", after := #[{ on := 3, ground := .data }, { on := 2, ground := .chain }, { on := 2, ground := .guard }], guard := some (2, true) }) (v := undef) rfl (by kernel_rfl) (by kernel_rfl) (by kernel_rfl) (fun _ _ _ h => h) (Or.inr ⟨by rfl, rfl⟩) (by assumption) ?_
    (try simp only [pq])
    refine tl (i := 5) (oi := { dst := some 45, op := .pick (.tmp 42) (.tmp 44) (.const (.bool false)), type := 4, pos := "l4_word.go:179", after := #[{ on := 2, ground := .data }, { on := 4, ground := .data }], guard := none }) ?_
    (try simp only [pq])
    refine wpAnyH_ready (rs := [6]) (by kernel_rfl) (by simp) ?_
    refine AllReadyH.cons (o := { dst := some 46, op := .call { callee := .value (.func 119), args := #[.tmp 40, .tmp 45], argTypes := #[35, 4] }, type := 35, pos := "l4_word.go:179", after := #[{ on := 0, ground := .data }, { on := 5, ground := .data }, { on := 4, ground := .chain }], guard := none }) rfl (fun K hK => ?_) AllReadyH.nil
    go_simp
    refine (must_wd_no (poolN p0) (kindN p1) ((pnum p2).1) ((pnum p3).1) ((pnum p4).1) ((pnum p5).1) ((psg p6).1) ((psg p7).1) ((pnum p8).1) ((pnum p9).1) ad T.length cp _).mono ?_; rintro r o6 ⟨rfl, f6⟩
    go_wp2
    exact ⟨rfl, Or.inr ⟨A8.nosum rfl (fun e => by rw [hJ.out, hsn.out] at e; have e2 : X = HH := by { rw [← hX.out, e, hHH.out] }; rw [e2] at hsh; simp at hsh), rfl, BB.trans (But.of (btrans (qd (Below.refl _ _)) f6))⟩⟩
  · have hFS : FSl o4.drew ad T.length (atF T) := by
      obtain ⟨ad', cp', e0, -, -, hf⟩ := own_facts hoD
      injection e0 with e0 _ _
      subst e0
      exact hf
    have heq : s.data.toList.drop nn = S.hex8 (S.sumN (bs (Lib.join [p0, p1, p2, p3, p4, p5, p6, p7, p8, p9, p10] [32]))) := by
      rw [hJ.out, hsn.out]
      rw [← hX.out, ← hHH.out, ByteArray.toList_eq, ByteArray.toList_eq, beq_iff_eq] at hsh
      exact hsh
    cases hq : wokB (poolN p0) (kindN p1) ((pnum p2).1) ((pnum p3).1) ((pnum p4).1) ((pnum p5).1) ((psg p6).1) ((psg p7).1) ((pnum p8).1) ((pnum p9).1) T.length (atF T)
    · skip
      replace hq : Hid (wokB (poolN p0) (kindN p1) ((pnum p2).1) ((pnum p3).1) ((pnum p4).1) ((pnum p5).1) ((psg p6).1) ((psg p7).1) ((pnum p8).1) ((pnum p9).1) T.length (atF T) = false) := hq
      refine wp_region_held_drew (S := fun w' => Ws w' b3 [.int .i64 (poolN p0), .int .i64 (kindN p1), .int .i64 ((pnum p2).1), .int .i64 ((pnum p3).1), .int .i64 ((pnum p4).1), .int .i64 ((pnum p5).1), .int .i64 (psg p6).1, .int .i64 (psg p7).1, .int .i64 (pnum p8).1, .int .i64 (pnum p9).1, .slice ad T.length cp]) (by kernel_rfl) ?_ (fun hHeld => ?_)
      · (try dsimp only); exact XD
      refine tk (i := 0) (oi := { dst := some 40, op := .load 35 (.tmp 3), type := 35, pos := "l4_word.go:179", after := #[], guard := none }) (v := .agg #[.int .i64 (poolN p0), .int .i64 (kindN p1), .int .i64 ((pnum p2).1), .int .i64 ((pnum p3).1), .int .i64 ((pnum p4).1), .int .i64 ((pnum p5).1), .int .i64 (psg p6).1, .int .i64 (psg p7).1, .int .i64 (pnum p8).1, .int .i64 (pnum p9).1, .slice ad T.length cp]) ?_ ?_
      · (intro w hSw; have d0 := hSw.c 0 (.int .i64 (poolN p0)) rfl; have d1 := hSw.c 1 (.int .i64 (kindN p1)) rfl; have d2 := hSw.c 2 (.int .i64 ((pnum p2).1)) rfl; have d3 := hSw.c 3 (.int .i64 ((pnum p3).1)) rfl; have d4 := hSw.c 4 (.int .i64 ((pnum p4).1)) rfl; have d5 := hSw.c 5 (.int .i64 ((pnum p5).1)) rfl; have d6 := hSw.c 6 (.int .i64 (psg p6).1) rfl; have d7 := hSw.c 7 (.int .i64 (psg p7).1) rfl; have d8 := hSw.c 8 (.int .i64 (pnum p8).1) rfl; have d9 := hSw.c 9 (.int .i64 (pnum p9).1) rfl; have d10 := hSw.c 10 (.slice ad T.length cp) rfl; go_simp)
      (try simp only [pq])
      refine tl (i := 1) (oi := { dst := some 41, op := .move (.tmp 4), type := 4, pos := "l4_word.go:179", after := #[], guard := none }) ?_
      (try simp only [pq])
      refine tl (i := 2) (oi := { dst := some 42, op := .move (.tmp 41), type := 4, pos := "l4_word.go:179", after := #[{ on := 1, ground := .data }], guard := none }) ?_
      (try simp only [pq])
      refine tk (i := 3) (oi := { dst := some 43, op := .load 35 (.tmp 3), type := 35, pos := "l4_word.go:179", after := #[{ on := 2, ground := .guard }], guard := some (2, true) }) (v := .agg #[.int .i64 (poolN p0), .int .i64 (kindN p1), .int .i64 ((pnum p2).1), .int .i64 ((pnum p3).1), .int .i64 ((pnum p4).1), .int .i64 ((pnum p5).1), .int .i64 (psg p6).1, .int .i64 (psg p7).1, .int .i64 (pnum p8).1, .int .i64 (pnum p9).1, .slice ad T.length cp]) ?_ ?_
      · (intro w hSw; have d0 := hSw.c 0 (.int .i64 (poolN p0)) rfl; have d1 := hSw.c 1 (.int .i64 (kindN p1)) rfl; have d2 := hSw.c 2 (.int .i64 ((pnum p2).1)) rfl; have d3 := hSw.c 3 (.int .i64 ((pnum p3).1)) rfl; have d4 := hSw.c 4 (.int .i64 ((pnum p4).1)) rfl; have d5 := hSw.c 5 (.int .i64 ((pnum p5).1)) rfl; have d6 := hSw.c 6 (.int .i64 (psg p6).1) rfl; have d7 := hSw.c 7 (.int .i64 (psg p7).1) rfl; have d8 := hSw.c 8 (.int .i64 (pnum p8).1) rfl; have d9 := hSw.c 9 (.int .i64 (pnum p9).1) rfl; have d10 := hSw.c 10 (.slice ad T.length cp) rfl; go_simp)
      (try simp only [pq])
      refine wpAnyH_ready (rs := [4]) (by kernel_rfl) (by simp) ?_
      refine AllReadyH.cons (o := { dst := some 44, op := .call { callee := .value (.func 23), args := #[.tmp 43], argTypes := #[35] }, type := 4, pos := "l4_word.go:179", after := #[{ on := 3, ground := .data }, { on := 2, ground := .chain }, { on := 2, ground := .guard }], guard := some (2, true) }) rfl (fun K hK => ?_) AllReadyH.nil
      go_simp
      refine (wok_lit (poolN p0) (kindN p1) ((pnum p2).1) ((pnum p3).1) ((pnum p4).1) ((pnum p5).1) ((psg p6).1) ((psg p7).1) ((pnum p8).1) ((pnum p9).1) ad T.length cp (atF T) _ hq.out _ hFS hTl).mono ?_; rintro r o5 ⟨rfl, f5⟩; have XE : Ws o5 b3 [.int .i64 (poolN p0), .int .i64 (kindN p1), .int .i64 ((pnum p2).1), .int .i64 ((pnum p3).1), .int .i64 ((pnum p4).1), .int .i64 ((pnum p5).1), .int .i64 (psg p6).1, .int .i64 (psg p7).1, .int .i64 (pnum p8).1, .int .i64 (pnum p9).1, .slice ad T.length cp] := XD.below f5
      go_wp2_with fail
      refine hK.out _ _ ?_ (fun hHeld => ?_)
      · (try dsimp only); exact XE
      clear hK K
      (try simp only [pq])
      refine tl (i := 5) (oi := { dst := some 45, op := .pick (.tmp 42) (.tmp 44) (.const (.bool false)), type := 4, pos := "l4_word.go:179", after := #[{ on := 2, ground := .data }, { on := 4, ground := .data }], guard := none }) ?_
      (try simp only [pq])
      refine wpAnyH_ready (rs := [6]) (by kernel_rfl) (by simp) ?_
      refine AllReadyH.cons (o := { dst := some 46, op := .call { callee := .value (.func 119), args := #[.tmp 40, .tmp 45], argTypes := #[35, 4] }, type := 35, pos := "l4_word.go:179", after := #[{ on := 0, ground := .data }, { on := 5, ground := .data }, { on := 4, ground := .chain }], guard := none }) rfl (fun K hK => ?_) AllReadyH.nil
      go_simp
      refine (must_wd_no (poolN p0) (kindN p1) ((pnum p2).1) ((pnum p3).1) ((pnum p4).1) ((pnum p5).1) ((psg p6).1) ((psg p7).1) ((pnum p8).1) ((pnum p9).1) ad T.length cp _).mono ?_; rintro r o6 ⟨rfl, f6⟩
      go_wp2
      exact ⟨rfl, Or.inr ⟨A8.nook hT (hokE.trans hq.out), rfl, BB.trans (But.of (btrans (btrans (qd (Below.refl _ _)) f5) f6))⟩⟩
    · skip
      replace hq : Hid (wokB (poolN p0) (kindN p1) ((pnum p2).1) ((pnum p3).1) ((pnum p4).1) ((pnum p5).1) ((psg p6).1) ((psg p7).1) ((pnum p8).1) ((pnum p9).1) T.length (atF T) = true) := hq
      refine wp_region_held_drew (S := fun w' => Ws w' b3 [.int .i64 (poolN p0), .int .i64 (kindN p1), .int .i64 ((pnum p2).1), .int .i64 ((pnum p3).1), .int .i64 ((pnum p4).1), .int .i64 ((pnum p5).1), .int .i64 (psg p6).1, .int .i64 (psg p7).1, .int .i64 (pnum p8).1, .int .i64 (pnum p9).1, .slice ad T.length cp]) (by kernel_rfl) ?_ (fun hHeld => ?_)
      · (try dsimp only); exact XD
      refine tk (i := 0) (oi := { dst := some 40, op := .load 35 (.tmp 3), type := 35, pos := "l4_word.go:179", after := #[], guard := none }) (v := .agg #[.int .i64 (poolN p0), .int .i64 (kindN p1), .int .i64 ((pnum p2).1), .int .i64 ((pnum p3).1), .int .i64 ((pnum p4).1), .int .i64 ((pnum p5).1), .int .i64 (psg p6).1, .int .i64 (psg p7).1, .int .i64 (pnum p8).1, .int .i64 (pnum p9).1, .slice ad T.length cp]) ?_ ?_
      · (intro w hSw; have d0 := hSw.c 0 (.int .i64 (poolN p0)) rfl; have d1 := hSw.c 1 (.int .i64 (kindN p1)) rfl; have d2 := hSw.c 2 (.int .i64 ((pnum p2).1)) rfl; have d3 := hSw.c 3 (.int .i64 ((pnum p3).1)) rfl; have d4 := hSw.c 4 (.int .i64 ((pnum p4).1)) rfl; have d5 := hSw.c 5 (.int .i64 ((pnum p5).1)) rfl; have d6 := hSw.c 6 (.int .i64 (psg p6).1) rfl; have d7 := hSw.c 7 (.int .i64 (psg p7).1) rfl; have d8 := hSw.c 8 (.int .i64 (pnum p8).1) rfl; have d9 := hSw.c 9 (.int .i64 (pnum p9).1) rfl; have d10 := hSw.c 10 (.slice ad T.length cp) rfl; go_simp)
      (try simp only [pq])
      refine tl (i := 1) (oi := { dst := some 41, op := .move (.tmp 4), type := 4, pos := "l4_word.go:179", after := #[], guard := none }) ?_
      (try simp only [pq])
      refine tl (i := 2) (oi := { dst := some 42, op := .move (.tmp 41), type := 4, pos := "l4_word.go:179", after := #[{ on := 1, ground := .data }], guard := none }) ?_
      (try simp only [pq])
      refine tk (i := 3) (oi := { dst := some 43, op := .load 35 (.tmp 3), type := 35, pos := "l4_word.go:179", after := #[{ on := 2, ground := .guard }], guard := some (2, true) }) (v := .agg #[.int .i64 (poolN p0), .int .i64 (kindN p1), .int .i64 ((pnum p2).1), .int .i64 ((pnum p3).1), .int .i64 ((pnum p4).1), .int .i64 ((pnum p5).1), .int .i64 (psg p6).1, .int .i64 (psg p7).1, .int .i64 (pnum p8).1, .int .i64 (pnum p9).1, .slice ad T.length cp]) ?_ ?_
      · (intro w hSw; have d0 := hSw.c 0 (.int .i64 (poolN p0)) rfl; have d1 := hSw.c 1 (.int .i64 (kindN p1)) rfl; have d2 := hSw.c 2 (.int .i64 ((pnum p2).1)) rfl; have d3 := hSw.c 3 (.int .i64 ((pnum p3).1)) rfl; have d4 := hSw.c 4 (.int .i64 ((pnum p4).1)) rfl; have d5 := hSw.c 5 (.int .i64 ((pnum p5).1)) rfl; have d6 := hSw.c 6 (.int .i64 (psg p6).1) rfl; have d7 := hSw.c 7 (.int .i64 (psg p7).1) rfl; have d8 := hSw.c 8 (.int .i64 (pnum p8).1) rfl; have d9 := hSw.c 9 (.int .i64 (pnum p9).1) rfl; have d10 := hSw.c 10 (.slice ad T.length cp) rfl; go_simp)
      (try simp only [pq])
      refine wpAnyH_ready (rs := [4]) (by kernel_rfl) (by simp) ?_
      refine AllReadyH.cons (o := { dst := some 44, op := .call { callee := .value (.func 23), args := #[.tmp 43], argTypes := #[35] }, type := 4, pos := "l4_word.go:179", after := #[{ on := 3, ground := .data }, { on := 2, ground := .chain }, { on := 2, ground := .guard }], guard := some (2, true) }) rfl (fun K hK => ?_) AllReadyH.nil
      go_simp
      refine (wok_lit (poolN p0) (kindN p1) ((pnum p2).1) ((pnum p3).1) ((pnum p4).1) ((pnum p5).1) ((psg p6).1) ((psg p7).1) ((pnum p8).1) ((pnum p9).1) ad T.length cp (atF T) _ hq.out _ hFS hTl).mono ?_; rintro r o5 ⟨rfl, f5⟩; have XE : Ws o5 b3 [.int .i64 (poolN p0), .int .i64 (kindN p1), .int .i64 ((pnum p2).1), .int .i64 ((pnum p3).1), .int .i64 ((pnum p4).1), .int .i64 ((pnum p5).1), .int .i64 (psg p6).1, .int .i64 (psg p7).1, .int .i64 (pnum p8).1, .int .i64 (pnum p9).1, .slice ad T.length cp] := XD.below f5
      go_wp2_with fail
      refine hK.out _ _ ?_ (fun hHeld => ?_)
      · (try dsimp only); exact XE
      clear hK K
      (try simp only [pq])
      refine tl (i := 5) (oi := { dst := some 45, op := .pick (.tmp 42) (.tmp 44) (.const (.bool false)), type := 4, pos := "l4_word.go:179", after := #[{ on := 2, ground := .data }, { on := 4, ground := .data }], guard := none }) ?_
      (try simp only [pq])
      refine wpAnyH_ready (rs := [6]) (by kernel_rfl) (by simp) ?_
      refine AllReadyH.cons (o := { dst := some 46, op := .call { callee := .value (.func 119), args := #[.tmp 40, .tmp 45], argTypes := #[35, 4] }, type := 35, pos := "l4_word.go:179", after := #[{ on := 0, ground := .data }, { on := 5, ground := .data }, { on := 4, ground := .chain }], guard := none }) rfl (fun K hK => ?_) AllReadyH.nil
      go_simp
      refine (must_wd (poolN p0) (kindN p1) ((pnum p2).1) ((pnum p3).1) ((pnum p4).1) ((pnum p5).1) ((psg p6).1) ((psg p7).1) ((pnum p8).1) ((pnum p9).1) ad T.length cp _).mono ?_; rintro r o6 ⟨rfl, f6⟩; have XF : Ws o6 b3 [.int .i64 (poolN p0), .int .i64 (kindN p1), .int .i64 ((pnum p2).1), .int .i64 ((pnum p3).1), .int .i64 ((pnum p4).1), .int .i64 ((pnum p5).1), .int .i64 (psg p6).1, .int .i64 (psg p7).1, .int .i64 (pnum p8).1, .int .i64 (pnum p9).1, .slice ad T.length cp] := XE.below f6
      go_wp2_with fail
      refine hK.out _ _ ?_ (fun hHeld => ?_)
      · (try dsimp only); exact XF
      clear hK K
      (try simp only [pq])
      have BF : Below o4.heap.size o4 o6 := btrans (btrans (qd (Below.refl _ _)) f5) f6
      have Y := X2.below BF
      have d0 := Y.c 0 _ rfl
      have d1 := Y.c 1 _ rfl
      have d2 := Y.c 2 _ rfl
      have d3 := Y.c 3 _ rfl
      have d4 := Y.c 4 _ rfl
      have d5 := Y.c 5 _ rfl
      have d6 := Y.c 6 _ rfl
      have d7 := Y.c 7 _ rfl
      have d8 := Y.c 8 _ rfl
      have d9 := Y.c 9 _ rfl
      have d10 := Y.c 10 _ rfl
      have z0 := Y.z 0
      have z1 := Y.z 1
      have z2 := Y.z 2
      have z3 := Y.z 3
      have z4 := Y.z 4
      have z5 := Y.z 5
      have z6 := Y.z 6
      have z7 := Y.z 7
      have z8 := Y.z 8
      have z9 := Y.z 9
      have z10 := Y.z 10
      have XG := (((((((((((XF.far (k := 0) (v := .int .i64 (poolN p0)) h23.symm).far (k := 1) (v := .int .i64 (kindN p1)) h23.symm).far (k := 2) (v := .int .i64 ((pnum p2).1)) h23.symm).far (k := 3) (v := .int .i64 ((pnum p3).1)) h23.symm).far (k := 4) (v := .int .i64 ((pnum p4).1)) h23.symm).far (k := 5) (v := .int .i64 ((pnum p5).1)) h23.symm).far (k := 6) (v := .int .i64 (psg p6).1) h23.symm).far (k := 7) (v := .int .i64 (psg p7).1) h23.symm).far (k := 8) (v := .int .i64 (pnum p8).1) h23.symm).far (k := 9) (v := .int .i64 (pnum p9).1) h23.symm).far (k := 10) (v := .slice ad T.length cp) h23.symm)
      have YG : Ws (((((((((((o6.setCell ⟨w.heap.size, 0, none⟩ (.int .i64 (poolN p0))).setCell ⟨w.heap.size, 1, none⟩ (.int .i64 (kindN p1))).setCell ⟨w.heap.size, 2, none⟩ (.int .i64 ((pnum p2).1))).setCell ⟨w.heap.size, 3, none⟩ (.int .i64 ((pnum p3).1))).setCell ⟨w.heap.size, 4, none⟩ (.int .i64 ((pnum p4).1))).setCell ⟨w.heap.size, 5, none⟩ (.int .i64 ((pnum p5).1))).setCell ⟨w.heap.size, 6, none⟩ (.int .i64 (psg p6).1)).setCell ⟨w.heap.size, 7, none⟩ (.int .i64 (psg p7).1)).setCell ⟨w.heap.size, 8, none⟩ (.int .i64 (pnum p8).1)).setCell ⟨w.heap.size, 9, none⟩ (.int .i64 (pnum p9).1)).setCell ⟨w.heap.size, 10, none⟩ (.slice ad T.length cp)) w.heap.size [.int .i64 (poolN p0), .int .i64 (kindN p1), .int .i64 ((pnum p2).1), .int .i64 ((pnum p3).1), .int .i64 ((pnum p4).1), .int .i64 ((pnum p5).1), .int .i64 (psg p6).1, .int .i64 (psg p7).1, .int .i64 (pnum p8).1, .int .i64 (pnum p9).1, .slice ad T.length cp] := (((((((((((Y.set 0 (by simp) (.int .i64 (poolN p0))).set 1 (by simp) (.int .i64 (kindN p1))).set 2 (by simp) (.int .i64 ((pnum p2).1))).set 3 (by simp) (.int .i64 ((pnum p3).1))).set 4 (by simp) (.int .i64 ((pnum p4).1))).set 5 (by simp) (.int .i64 ((pnum p5).1))).set 6 (by simp) (.int .i64 (psg p6).1)).set 7 (by simp) (.int .i64 (psg p7).1)).set 8 (by simp) (.int .i64 (pnum p8).1)).set 9 (by simp) (.int .i64 (pnum p9).1)).set 10 (by simp) (.slice ad T.length cp))
      have BG := ((((((((((((BB.trans (But.of BF)).new (k := 0) (.int .i64 (poolN p0)) (Nat.le_refl _)).new (k := 1) (.int .i64 (kindN p1)) (Nat.le_refl _)).new (k := 2) (.int .i64 ((pnum p2).1)) (Nat.le_refl _)).new (k := 3) (.int .i64 ((pnum p3).1)) (Nat.le_refl _)).new (k := 4) (.int .i64 ((pnum p4).1)) (Nat.le_refl _)).new (k := 5) (.int .i64 ((pnum p5).1)) (Nat.le_refl _)).new (k := 6) (.int .i64 (psg p6).1) (Nat.le_refl _)).new (k := 7) (.int .i64 (psg p7).1) (Nat.le_refl _)).new (k := 8) (.int .i64 (pnum p8).1) (Nat.le_refl _)).new (k := 9) (.int .i64 (pnum p9).1) (Nat.le_refl _)).new (k := 10) (.slice ad T.length cp) (Nat.le_refl _))
      have hoG := own_mono (Nat.le_of_lt hub) (own_set (k := 10) (.slice ad T.length cp) (own_set (k := 9) (.int .i64 (pnum p9).1) (own_set (k := 8) (.int .i64 (pnum p8).1) (own_set (k := 7) (.int .i64 (psg p7).1) (own_set (k := 6) (.int .i64 (psg p6).1) (own_set (k := 5) (.int .i64 ((pnum p5).1)) (own_set (k := 4) (.int .i64 ((pnum p4).1)) (own_set (k := 3) (.int .i64 ((pnum p3).1)) (own_set (k := 2) (.int .i64 ((pnum p2).1)) (own_set (k := 1) (.int .i64 (kindN p1)) (own_set (k := 0) (.int .i64 (poolN p0)) (own_below hoE BF) hub) hub) hub) hub) hub) hub) hub) hub) hub) hub) hub)
      refine wpAnyH_ready (rs := [7]) (by kernel_rfl) (by simp) ?_
      refine AllReadyH.cons (o := { dst := none, op := .store 35 (.tmp 2) (.tmp 46), type := 0, pos := "l4_word.go:179", after := #[{ on := 6, ground := .data }, { on := 6, ground := .chain }, { on := 0, ground := .phase }, { on := 1, ground := .phase }, { on := 2, ground := .phase }, { on := 3, ground := .phase }, { on := 4, ground := .phase }, { on := 5, ground := .phase }, { on := 6, ground := .phase }], guard := none }) rfl (fun K hK => ?_) AllReadyH.nil
      go_simp
      generalize (((((((((((o6.setCell ⟨w.heap.size, 0, none⟩ (.int .i64 (poolN p0))).setCell ⟨w.heap.size, 1, none⟩ (.int .i64 (kindN p1))).setCell ⟨w.heap.size, 2, none⟩ (.int .i64 ((pnum p2).1))).setCell ⟨w.heap.size, 3, none⟩ (.int .i64 ((pnum p3).1))).setCell ⟨w.heap.size, 4, none⟩ (.int .i64 ((pnum p4).1))).setCell ⟨w.heap.size, 5, none⟩ (.int .i64 ((pnum p5).1))).setCell ⟨w.heap.size, 6, none⟩ (.int .i64 (psg p6).1)).setCell ⟨w.heap.size, 7, none⟩ (.int .i64 (psg p7).1)).setCell ⟨w.heap.size, 8, none⟩ (.int .i64 (pnum p8).1)).setCell ⟨w.heap.size, 9, none⟩ (.int .i64 (pnum p9).1)).setCell ⟨w.heap.size, 10, none⟩ (.slice ad T.length cp)) = w9 at *
      refine hK.out _ _ ?_ (fun hHeld => ?_)
      · (try dsimp only); exact XG
      clear hK K hHeld
      (try simp only [pq])
      refine wpAnyH_done (by kernel_rfl) ?_ _
      clear d0 d1 d2 d3 d4 d5 d6 d7 d8 d9 d10
      have d0 := YG.c 0 (.int .i64 (poolN p0)) rfl
      have d1 := YG.c 1 (.int .i64 (kindN p1)) rfl
      have d2 := YG.c 2 (.int .i64 ((pnum p2).1)) rfl
      have d3 := YG.c 3 (.int .i64 ((pnum p3).1)) rfl
      have d4 := YG.c 4 (.int .i64 ((pnum p4).1)) rfl
      have d5 := YG.c 5 (.int .i64 ((pnum p5).1)) rfl
      have d6 := YG.c 6 (.int .i64 (psg p6).1) rfl
      have d7 := YG.c 7 (.int .i64 (psg p7).1) rfl
      have d8 := YG.c 8 (.int .i64 (pnum p8).1) rfl
      have d9 := YG.c 9 (.int .i64 (pnum p9).1) rfl
      have d10 := YG.c 10 (.slice ad T.length cp) rfl
      go_wp2
      have hpc := rd_pcs hg0 hg1 hg2 hg3 hg4 hg5 hg6 hg7 hg8 hg9 hT
      exact bodyPost_ret (v := .agg #[.int .i64 (poolN p0), .int .i64 (kindN p1), .int .i64 ((pnum p2).1), .int .i64 ((pnum p3).1), .int .i64 ((pnum p4).1), .int .i64 ((pnum p5).1), .int .i64 (psg p6).1, .int .i64 (psg p7).1, .int .i64 (pnum p8).1, .int .i64 (pnum p9).1, .slice ad T.length cp]) (by simp [results, Tryz.results85, go_sem, d0, d1, d2, d3, d4, d5, d6, d7, d8, d9, d10]) rfl (Or.inl ⟨rdW p0 p1 p2 p3 p4 p5 p6 p7 p8 p9 T, ad, cp, hokE.trans hq.out, At.yes (W := rdW p0 p1 p2 p3 p4 p5 p6 p7 p8 p9 T) (hpc ▸ A8) (hpc ▸ heq), rfl, hoG, BG⟩)
end Go.Proofs.YtibnojbhoepcdaaGreatDoor
/- A word read: where a panic ends. -/
namespace Go.Proofs.YtibnojbhoepcdaaGreatDoor
open Go.ChangeShapes Go.WideShapes Go.ChangeAt Go.RowKit
attribute [local go_sem ↓] Go.wp_at_zero Go.wp_at_succ
def zW : List Value := [.int .i64 0, .int .i64 0, .int .i64 0, .int .i64 0, .int .i64 0, .int .i64 0, .int .i64 0, .int .i64 0, .int .i64 0, .int .i64 0, .slice none 0 0]
set_option maxRecDepth 20000 in
set_option maxHeartbeats 4000000 in
theorem catch_panicking (b2 b3 : Nat) (hne : b2 ≠ b3) (x : Bool) (u : TypeId) (pv : Value) (older : List PanicEntry) (w : World) (h2 : Ws w b2 zW) (h3 : Ws w b3 [.bool x]) :
    CallsD Tryz.prog 84 #[.pointer (some ⟨b2, 0, none⟩), .pointer (some ⟨b3, 0, none⟩)] (.panicking ({ v := .iface u pv, recovered := false } :: older)) w fun e u' w' =>
      e = .returned (.tuple #[]) ∧ u' = .panicking ({ v := .iface u pv, recovered := true } :: older) ∧ Ws w' b2 zW ∧ Ws w' b3 [.bool false] ∧ (∀ B (a : World), B ≤ b2 → B ≤ b3 → Below B a w → Below B a w') := by
  have d0 := h2.c 0 _ rfl
  have d1 := h2.c 1 _ rfl
  have d2 := h2.c 2 _ rfl
  have d3 := h2.c 3 _ rfl
  have d4 := h2.c 4 _ rfl
  have d5 := h2.c 5 _ rfl
  have d6 := h2.c 6 _ rfl
  have d7 := h2.c 7 _ rfl
  have d8 := h2.c 8 _ rfl
  have d9 := h2.c 9 _ rfl
  have d10 := h2.c 10 _ rfl
  have z := h2.z
  have e0 := h3.c 0 _ rfl
  have y := h3.z
  refine callsD_of_wpS Tryz.func84 rfl fun c₀ cs hu => ?_
  apply wpS_seq
  apply wpS_region
  simp [wpOpsS, go_sem, recoverD, hu, Tryz.ntmps84, Exit.thenS]
  refine wpS_cond (t := true) (by simp [Act.eval, Array.replicate]) ?_
  simp only [if_true]
  refine wpS_of_wp ?_
  rw [show (#[Value.pointer (some ⟨b2, 0, none⟩), Value.pointer (some ⟨b3, 0, none⟩)] ++ ((Array.replicate 3 undef).setIfInBounds 0 (Value.iface u pv)).setIfInBounds 1 (Value.bool true)) = #[Value.pointer (some ⟨b2, 0, none⟩), Value.pointer (some ⟨b3, 0, none⟩), Value.iface u pv, Value.bool true, undef] from rfl]
  have Y2 := (((((((((((h2.set 0 (by simp [zW]) (.int .i64 0)).set 1 (by simp [zW]) (.int .i64 0)).set 2 (by simp [zW]) (.int .i64 0)).set 3 (by simp [zW]) (.int .i64 0)).set 4 (by simp [zW]) (.int .i64 0)).set 5 (by simp [zW]) (.int .i64 0)).set 6 (by simp [zW]) (.int .i64 0)).set 7 (by simp [zW]) (.int .i64 0)).set 8 (by simp [zW]) (.int .i64 0)).set 9 (by simp [zW]) (.int .i64 0)).set 10 (by simp [zW]) (.slice none 0 0)).far (k := 0) (v := .bool false) hne
  have Y3 := (((((((((((h3.far (k := 0) (v := .int .i64 0) hne.symm).far (k := 1) (v := .int .i64 0) hne.symm).far (k := 2) (v := .int .i64 0) hne.symm).far (k := 3) (v := .int .i64 0) hne.symm).far (k := 4) (v := .int .i64 0) hne.symm).far (k := 5) (v := .int .i64 0) hne.symm).far (k := 6) (v := .int .i64 0) hne.symm).far (k := 7) (v := .int .i64 0) hne.symm).far (k := 8) (v := .int .i64 0) hne.symm).far (k := 9) (v := .int .i64 0) hne.symm).far (k := 10) (v := .slice none 0 0) hne.symm).set 0 (by simp) (.bool false)
  go_wp2
  exact ⟨rfl, _, rfl, .tuple #[], results_none rfl _ _ _, rfl, rfl, Y2, Y3, fun B a g2 g3 hB => (((((((((((hB.setCell (p := ⟨b2, 0, none⟩) g2 (.int .i64 0)).setCell (p := ⟨b2, 1, none⟩) g2 (.int .i64 0)).setCell (p := ⟨b2, 2, none⟩) g2 (.int .i64 0)).setCell (p := ⟨b2, 3, none⟩) g2 (.int .i64 0)).setCell (p := ⟨b2, 4, none⟩) g2 (.int .i64 0)).setCell (p := ⟨b2, 5, none⟩) g2 (.int .i64 0)).setCell (p := ⟨b2, 6, none⟩) g2 (.int .i64 0)).setCell (p := ⟨b2, 7, none⟩) g2 (.int .i64 0)).setCell (p := ⟨b2, 8, none⟩) g2 (.int .i64 0)).setCell (p := ⟨b2, 9, none⟩) g2 (.int .i64 0)).setCell (p := ⟨b2, 10, none⟩) g2 (.slice none 0 0)).setCell (p := ⟨b3, 0, none⟩) g3 (.bool false)⟩
theorem catch_idle (p q : Addr) (w : World) :
    CallsD Tryz.prog 84 #[.pointer (some p), .pointer (some q)] .returning w fun e u' w' => e = .returned (.tuple #[]) ∧ u' = .returning ∧ w' = w := by
  refine callsD_of_wpS Tryz.func84 rfl fun c₀ cs hu => ?_
  apply wpS_seq
  apply wpS_region
  simp [wpOpsS, go_sem, recoverD, hu, Tryz.ntmps84, Exit.thenS]
  refine wpS_cond (t := false) (by simp [Act.eval, Array.replicate]) ?_
  simp only [Bool.false_eq_true, if_false]
  refine wpS_of_wp (wp_skip ?_)
  cases c₀
  simp_all [bodyPostS, results, Tryz.results84]
/-- the word that nothing is read as -/
def Wd.zero : Wd := ⟨0, 0, 0, 0, 0, 0, 0, 0, 0, 0, []⟩
/-- a reader of words answers as it should -/
def RdW (s : ByteArray) (w : World) (e : Ending) (w' : World) : Prop :=
  ∃ (W : Wd) (ad : Option Addr) (cap : Nat) (q : Bool), e = .returned (.tuple #[.agg #[.int .i64 W.p, .int .i64 W.k, .int .i64 W.f, .int .i64 W.t, .int .i64 W.s, .int .i64 W.q, .int .i64 W.x, .int .i64 W.y, .int .i64 W.z, .int .i64 W.e, .slice ad W.T.length cap], .bool q]) ∧ (q = true → W.ok = true ∧ s.data.toList = W.txt) ∧ (q = false → NoWd s.data.toList ∧ W = Wd.zero) ∧ w'.ownsRow w.heap.size 53 4 (.slice ad W.T.length cap) W.T.length (fl W.T) ∧ Below w.heap.size w w'
theorem three_new (w : World) (c1 c2 c3 : Array Value) (t1 t2 t3 : TypeId) : Below w.heap.size w (((w.alloc (.cells c1 t1)).alloc (.cells c2 t2)).alloc (.cells c3 t3)) ∧ (((w.alloc (.cells c1 t1)).alloc (.cells c2 t2)).alloc (.cells c3 t3)).heap[w.heap.size]? = some (.cells c1 t1 (0, 0)) ∧ (((w.alloc (.cells c1 t1)).alloc (.cells c2 t2)).alloc (.cells c3 t3)).heap[w.heap.size + 1]? = some (.cells c2 t2 (0, 0)) ∧ (((w.alloc (.cells c1 t1)).alloc (.cells c2 t2)).alloc (.cells c3 t3)).heap[w.heap.size + 2]? = some (.cells c3 t3 (0, 0)) := by
  have h1 := heap_alloc_new w (.cells c1 t1)
  have h2 := heap_alloc_new (w.alloc (.cells c1 t1)) (.cells c2 t2)
  have h3 := heap_alloc_new ((w.alloc (.cells c1 t1)).alloc (.cells c2 t2)) (.cells c3 t3)
  have s1 : (w.alloc (.cells c1 t1)).heap.size = w.heap.size + 1 := Array.size_push _
  have s2 : ((w.alloc (.cells c1 t1)).alloc (.cells c2 t2)).heap.size = w.heap.size + 2 := (Array.size_push _).trans (by rw [s1])
  rw [s1] at h2
  rw [s2] at h3
  refine ⟨balloc _ (balloc _ (balloc _ (Below.refl _ _))), ?_, ?_, h3⟩
  · exact (Below.heap_alloc _ _ _ (by rw [s2]; omega)).trans ((Below.heap_alloc _ _ _ (by rw [s1]; omega)).trans h1)
  · exact (Below.heap_alloc _ _ _ (by rw [s2]; omega)).trans h2
set_option maxRecDepth 20000 in
set_option maxHeartbeats 8000000 in
theorem readWord_any (s : ByteArray) (hs : s.size ≤ 300) (w : World) (hp : Pst w) (hd : w.cell? ⟨9, 15, none⟩ = some (.int .u8 4)) :
    Calls Tryz.prog 43 #[.string s] w fun e w' => RdW s w e w' := by
  have hmf : ∀ (fn : Fn) (first cap : Array Value) (w : World), (Instr.makeFunc fn first cap).run Tryz.prog w = .ok (.func fn first cap) w := fun _ _ _ _ => rfl
  go_enter_defers Tryz.func43, Tryz.ntmps43
  go_wp2_with fail
  obtain ⟨b0, y2, y3, yc⟩ := three_new w #[.int .i64 0, .int .i64 0, .int .i64 0, .int .i64 0, .int .i64 0, .int .i64 0, .int .i64 0, .int .i64 0, .int .i64 0, .int .i64 0, .slice none 0 0] #[.bool false] #[.string s, .int .i64 0] 35 4 95
  generalize ((w.alloc (.cells #[.int .i64 0, .int .i64 0, .int .i64 0, .int .i64 0, .int .i64 0, .int .i64 0, .int .i64 0, .int .i64 0, .int .i64 0, .int .i64 0, .slice none 0 0] 35)).alloc (.cells #[.bool false] 4)).alloc (.cells #[.string s, .int .i64 0] 95) = u at *
  have X2 : Ws u w.heap.size zW := Ws.new y2
  have X3 : Ws u (w.heap.size + 1) [.bool false] := Ws.new y3
  have XC := Ws.new yc
  have hR : Rs w u (w.heap.size + 1 + 1) s 0 := ⟨hp, hd, b0, by omega, XC.lt, XC.c 0 _ rfl, XC.c 1 _ rfl, XC.z 1, by omega, hs⟩
  have hle : w.heap.size ≤ w.heap.size + 1 + 1 := by omega
  have h2c : w.heap.size ≠ w.heap.size + 1 + 1 := by omega
  have h3c : w.heap.size + 1 ≠ w.heap.size + 1 + 1 := by omega
  have hne : w.heap.size ≠ w.heap.size + 1 := by omega
  have hb2 := X2.lt
  have hb3 := X3.lt
  clear y2 y3 yc XC
  refine (cword hR).mono ?_
  rintro e w1 (⟨W, ad, cap, hok, htx, rfl, ho, k1⟩ | ⟨hno, rfl, k1⟩)
  · replace X2 := X2.but k1 h2c
    replace X3 := X3.but k1 h3c
    have d0 := X2.c 0 _ rfl
    have z0 := X2.z 0
    have d1 := X2.c 1 _ rfl
    have z1 := X2.z 1
    have d2 := X2.c 2 _ rfl
    have z2 := X2.z 2
    have d3 := X2.c 3 _ rfl
    have z3 := X2.z 3
    have d4 := X2.c 4 _ rfl
    have z4 := X2.z 4
    have d5 := X2.c 5 _ rfl
    have z5 := X2.z 5
    have d6 := X2.c 6 _ rfl
    have z6 := X2.z 6
    have d7 := X2.c 7 _ rfl
    have z7 := X2.z 7
    have d8 := X2.c 8 _ rfl
    have z8 := X2.z 8
    have d9 := X2.c 9 _ rfl
    have z9 := X2.z 9
    have d10 := X2.c 10 _ rfl
    have z10 := X2.z 10
    have e0 := X3.c 0 _ rfl
    have y0 := X3.z 0
    have Y2 : Ws _ w.heap.size [.int .i64 W.p, .int .i64 W.k, .int .i64 W.f, .int .i64 W.t, .int .i64 W.s, .int .i64 W.q, .int .i64 W.x, .int .i64 W.y, .int .i64 W.z, .int .i64 W.e, .slice ad W.T.length cap] := (((((((((((X2.set 0 (by simp [zW]) (.int .i64 W.p)).set 1 (by simp [zW]) (.int .i64 W.k)).set 2 (by simp [zW]) (.int .i64 W.f)).set 3 (by simp [zW]) (.int .i64 W.t)).set 4 (by simp [zW]) (.int .i64 W.s)).set 5 (by simp [zW]) (.int .i64 W.q)).set 6 (by simp [zW]) (.int .i64 W.x)).set 7 (by simp [zW]) (.int .i64 W.y)).set 8 (by simp [zW]) (.int .i64 W.z)).set 9 (by simp [zW]) (.int .i64 W.e)).set 10 (by simp [zW]) (.slice ad W.T.length cap)).far (k := 0) (v := .bool true) hne
    have Y3 := (((((((((((X3.far (k := 0) (v := .int .i64 W.p) hne.symm).far (k := 1) (v := .int .i64 W.k) hne.symm).far (k := 2) (v := .int .i64 W.f) hne.symm).far (k := 3) (v := .int .i64 W.t) hne.symm).far (k := 4) (v := .int .i64 W.s) hne.symm).far (k := 5) (v := .int .i64 W.q) hne.symm).far (k := 6) (v := .int .i64 W.x) hne.symm).far (k := 7) (v := .int .i64 W.y) hne.symm).far (k := 8) (v := .int .i64 W.z) hne.symm).far (k := 9) (v := .int .i64 W.e) hne.symm).far (k := 10) (v := .slice ad W.T.length cap) hne.symm).set 0 (by simp) (.bool true)
    have BY := ((((((((((((But.base b0 hle k1).setCell (p := ⟨w.heap.size, 0, none⟩) (Nat.le_refl _) (.int .i64 W.p)).setCell (p := ⟨w.heap.size, 1, none⟩) (Nat.le_refl _) (.int .i64 W.k)).setCell (p := ⟨w.heap.size, 2, none⟩) (Nat.le_refl _) (.int .i64 W.f)).setCell (p := ⟨w.heap.size, 3, none⟩) (Nat.le_refl _) (.int .i64 W.t)).setCell (p := ⟨w.heap.size, 4, none⟩) (Nat.le_refl _) (.int .i64 W.s)).setCell (p := ⟨w.heap.size, 5, none⟩) (Nat.le_refl _) (.int .i64 W.q)).setCell (p := ⟨w.heap.size, 6, none⟩) (Nat.le_refl _) (.int .i64 W.x)).setCell (p := ⟨w.heap.size, 7, none⟩) (Nat.le_refl _) (.int .i64 W.y)).setCell (p := ⟨w.heap.size, 8, none⟩) (Nat.le_refl _) (.int .i64 W.z)).setCell (p := ⟨w.heap.size, 9, none⟩) (Nat.le_refl _) (.int .i64 W.e)).setCell (p := ⟨w.heap.size, 10, none⟩) (Nat.le_refl _) (.slice ad W.T.length cap)).setCell (p := ⟨w.heap.size + 1, 0, none⟩) (Nat.le_succ _) (.bool true)
    have hoY := own_mono b0.size (own_set (k := 0) (.bool true) (own_set (k := 10) (.slice ad W.T.length cap) (own_set (k := 9) (.int .i64 W.e) (own_set (k := 8) (.int .i64 W.z) (own_set (k := 7) (.int .i64 W.y) (own_set (k := 6) (.int .i64 W.x) (own_set (k := 5) (.int .i64 W.q) (own_set (k := 4) (.int .i64 W.s) (own_set (k := 3) (.int .i64 W.t) (own_set (k := 2) (.int .i64 W.f) (own_set (k := 1) (.int .i64 W.k) (own_set (k := 0) (.int .i64 W.p) ho hb2) hb2) hb2) hb2) hb2) hb2) hb2) hb2) hb2) hb2) hb2) hb3)
    go_wp2
    clear d0 d1 d2 d3 d4 d5 d6 d7 d8 d9 d10 e0
    generalize (((((((((((w1.setCell ⟨w.heap.size, 0, none⟩ (.int .i64 W.p)).setCell ⟨w.heap.size, 1, none⟩ (.int .i64 W.k)).setCell ⟨w.heap.size, 2, none⟩ (.int .i64 W.f)).setCell ⟨w.heap.size, 3, none⟩ (.int .i64 W.t)).setCell ⟨w.heap.size, 4, none⟩ (.int .i64 W.s)).setCell ⟨w.heap.size, 5, none⟩ (.int .i64 W.q)).setCell ⟨w.heap.size, 6, none⟩ (.int .i64 W.x)).setCell ⟨w.heap.size, 7, none⟩ (.int .i64 W.y)).setCell ⟨w.heap.size, 8, none⟩ (.int .i64 W.z)).setCell ⟨w.heap.size, 9, none⟩ (.int .i64 W.e)).setCell ⟨w.heap.size, 10, none⟩ (.slice ad W.T.length cap)).setCell ⟨w.heap.size + 1, 0, none⟩ (.bool true) = w9 at *
    refine leaves_cons (f := 84) (args := #[.pointer (some ⟨w.heap.size, 0, none⟩), .pointer (some ⟨w.heap.size + 1, 0, none⟩)]) (by simp) (by simp [go_sem]) ?_
    refine (catch_idle ⟨w.heap.size, 0, none⟩ ⟨w.heap.size + 1, 0, none⟩ _).mono ?_
    rintro e u' w'' ⟨rfl, rfl, rfl⟩
    have d0 := Y2.c 0 (.int .i64 W.p) rfl
    have d1 := Y2.c 1 (.int .i64 W.k) rfl
    have d2 := Y2.c 2 (.int .i64 W.f) rfl
    have d3 := Y2.c 3 (.int .i64 W.t) rfl
    have d4 := Y2.c 4 (.int .i64 W.s) rfl
    have d5 := Y2.c 5 (.int .i64 W.q) rfl
    have d6 := Y2.c 6 (.int .i64 W.x) rfl
    have d7 := Y2.c 7 (.int .i64 W.y) rfl
    have d8 := Y2.c 8 (.int .i64 W.z) rfl
    have d9 := Y2.c 9 (.int .i64 W.e) rfl
    have d10 := Y2.c 10 (.slice ad W.T.length cap) rfl
    have e0 := Y3.c 0 (.bool true) rfl
    refine ⟨.tuple #[.agg #[.int .i64 W.p, .int .i64 W.k, .int .i64 W.f, .int .i64 W.t, .int .i64 W.s, .int .i64 W.q, .int .i64 W.x, .int .i64 W.y, .int .i64 W.z, .int .i64 W.e, .slice ad W.T.length cap], .bool true], (by simp [results, Tryz.results43, go_sem, d0, d1, d2, d3, d4, d5, d6, d7, d8, d9, d10, e0]), ?_⟩
    exact ⟨W, ad, cap, true, rfl, fun _ => ⟨hok, htx⟩, fun h => (by cases h), hoY, BY⟩
  · replace X2 := X2.but k1 h2c
    replace X3 := X3.but k1 h3c
    have BY := But.base b0 hle k1
    go_wp2
    refine leaves_cons (f := 84) (args := #[.pointer (some ⟨w.heap.size, 0, none⟩), .pointer (some ⟨w.heap.size + 1, 0, none⟩)]) (by simp) (by simp [go_sem]) ?_
    refine (catch_panicking w.heap.size (w.heap.size + 1) hne false 141 (.agg #[]) [] _ X2 X3).mono ?_
    rintro e u' w2 ⟨rfl, rfl, Y2, Y3, hB⟩
    have d0 := Y2.c 0 _ rfl
    have d1 := Y2.c 1 _ rfl
    have d2 := Y2.c 2 _ rfl
    have d3 := Y2.c 3 _ rfl
    have d4 := Y2.c 4 _ rfl
    have d5 := Y2.c 5 _ rfl
    have d6 := Y2.c 6 _ rfl
    have d7 := Y2.c 7 _ rfl
    have d8 := Y2.c 8 _ rfl
    have d9 := Y2.c 9 _ rfl
    have d10 := Y2.c 10 _ rfl
    have e0 := Y3.c 0 (.bool false) rfl
    refine ⟨.tuple #[.agg #[.int .i64 0, .int .i64 0, .int .i64 0, .int .i64 0, .int .i64 0, .int .i64 0, .int .i64 0, .int .i64 0, .int .i64 0, .int .i64 0, .slice none 0 0], .bool false], (by simp [results, Tryz.results43, go_sem, d0, d1, d2, d3, d4, d5, d6, d7, d8, d9, d10, e0]), ?_⟩
    exact ⟨Wd.zero, none, 0, false, rfl, fun h => (by cases h), fun _ => ⟨hno, rfl⟩, ⟨rfl, Or.inl ⟨rfl, rfl⟩⟩, hB w.heap.size w (Nat.le_refl _) (Nat.le_succ _) BY⟩
theorem nowd_long {s : List UInt8} (h : 300 < s.length) : NoWd s := fun W hW e => by
  have := (txt_len hW).1
  rw [e] at h
  omega
set_option maxRecDepth 20000 in
set_option maxHeartbeats 8000000 in
theorem read_any (s : ByteArray) (w : World) (hp : Pst w) (hd : w.cell? ⟨9, 15, none⟩ = some (.int .u8 4)) (hs : s.size ≤ 1048576) :
    Calls Tryz.prog 17 #[.string s] w fun e w' => RdW s w e w' := by
  have hL : s.data.toList.length = s.size := by simp
  have b0 := balloc (.cells #[.int .i64 0, .int .i64 0, .int .i64 0, .int .i64 0, .int .i64 0, .int .i64 0, .int .i64 0, .int .i64 0, .int .i64 0, .int .i64 0, .slice none 0 0] 35) (Below.refl w.heap.size w)
  have y0 : (w.alloc (.cells #[.int .i64 0, .int .i64 0, .int .i64 0, .int .i64 0, .int .i64 0, .int .i64 0, .int .i64 0, .int .i64 0, .int .i64 0, .int .i64 0, .slice none 0 0] 35)).heap[w.heap.size]? = some (.cells #[.int .i64 0, .int .i64 0, .int .i64 0, .int .i64 0, .int .i64 0, .int .i64 0, .int .i64 0, .int .i64 0, .int .i64 0, .int .i64 0, .slice none 0 0] 35 (0, 0)) := heap_alloc_new _ _
  by_cases hlen : 300 < s.size
  · have hno := nowd_long (s := s.data.toList) (by omega)
    have hi : (300 : Int) < (s.size : Int) := by omega
    go_enter Tryz.func17, Tryz.ntmps17
    go_wp2
    have X := Ws.new y0
    have d0 := X.c 0 _ rfl
    have d1 := X.c 1 _ rfl
    have d2 := X.c 2 _ rfl
    have d3 := X.c 3 _ rfl
    have d4 := X.c 4 _ rfl
    have d5 := X.c 5 _ rfl
    have d6 := X.c 6 _ rfl
    have d7 := X.c 7 _ rfl
    have d8 := X.c 8 _ rfl
    have d9 := X.c 9 _ rfl
    have d10 := X.c 10 _ rfl
    generalize w.alloc (.cells #[.int .i64 0, .int .i64 0, .int .i64 0, .int .i64 0, .int .i64 0, .int .i64 0, .int .i64 0, .int .i64 0, .int .i64 0, .int .i64 0, .slice none 0 0] 35) = u at *
    exact bodyPost_ret (v := .tuple #[.agg #[.int .i64 0, .int .i64 0, .int .i64 0, .int .i64 0, .int .i64 0, .int .i64 0, .int .i64 0, .int .i64 0, .int .i64 0, .int .i64 0, .slice none 0 0], .bool false]) (by simp [results, Tryz.results17, go_sem, d0, d1, d2, d3, d4, d5, d6, d7, d8, d9, d10]) rfl ⟨Wd.zero, none, 0, false, rfl, fun h => (by cases h), fun _ => ⟨hno, rfl⟩, ⟨rfl, Or.inl ⟨rfl, rfl⟩⟩, b0⟩
  · have hi : ¬ (300 : Int) < (s.size : Int) := by omega
    go_enter Tryz.func17, Tryz.ntmps17
    go_wp2_with fail
    have X0 := Ws.new y0
    have P0 := hp.below b0
    have D0 := keep_below b0 hd
    generalize w.alloc (.cells #[.int .i64 0, .int .i64 0, .int .i64 0, .int .i64 0, .int .i64 0, .int .i64 0, .int .i64 0, .int .i64 0, .int .i64 0, .int .i64 0, .slice none 0 0] 35) = u at *
    refine (readWord_any s (by omega) u P0 D0).mono ?_
    rintro e w1 ⟨W, ad, cap, q, rfl, hy, hn, ho, b1⟩
    have X1 := X0.below b1
    have d0 := X1.c 0 _ rfl
    have z0 := X1.z 0
    have d1 := X1.c 1 _ rfl
    have z1 := X1.z 1
    have d2 := X1.c 2 _ rfl
    have z2 := X1.z 2
    have d3 := X1.c 3 _ rfl
    have z3 := X1.z 3
    have d4 := X1.c 4 _ rfl
    have z4 := X1.z 4
    have d5 := X1.c 5 _ rfl
    have z5 := X1.z 5
    have d6 := X1.c 6 _ rfl
    have z6 := X1.z 6
    have d7 := X1.c 7 _ rfl
    have z7 := X1.z 7
    have d8 := X1.c 8 _ rfl
    have z8 := X1.z 8
    have d9 := X1.c 9 _ rfl
    have z9 := X1.z 9
    have d10 := X1.c 10 _ rfl
    have z10 := X1.z 10
    have Y : Ws _ w.heap.size [.int .i64 W.p, .int .i64 W.k, .int .i64 W.f, .int .i64 W.t, .int .i64 W.s, .int .i64 W.q, .int .i64 W.x, .int .i64 W.y, .int .i64 W.z, .int .i64 W.e, .slice ad W.T.length cap] := (((((((((((X1.set 0 (by simp) (.int .i64 W.p)).set 1 (by simp) (.int .i64 W.k)).set 2 (by simp) (.int .i64 W.f)).set 3 (by simp) (.int .i64 W.t)).set 4 (by simp) (.int .i64 W.s)).set 5 (by simp) (.int .i64 W.q)).set 6 (by simp) (.int .i64 W.x)).set 7 (by simp) (.int .i64 W.y)).set 8 (by simp) (.int .i64 W.z)).set 9 (by simp) (.int .i64 W.e)).set 10 (by simp) (.slice ad W.T.length cap))
    have BY := ((((((((((((btrans b0 b1).setCell (p := ⟨w.heap.size, 0, none⟩) (Nat.le_refl _) (.int .i64 W.p)).setCell (p := ⟨w.heap.size, 1, none⟩) (Nat.le_refl _) (.int .i64 W.k)).setCell (p := ⟨w.heap.size, 2, none⟩) (Nat.le_refl _) (.int .i64 W.f)).setCell (p := ⟨w.heap.size, 3, none⟩) (Nat.le_refl _) (.int .i64 W.t)).setCell (p := ⟨w.heap.size, 4, none⟩) (Nat.le_refl _) (.int .i64 W.s)).setCell (p := ⟨w.heap.size, 5, none⟩) (Nat.le_refl _) (.int .i64 W.q)).setCell (p := ⟨w.heap.size, 6, none⟩) (Nat.le_refl _) (.int .i64 W.x)).setCell (p := ⟨w.heap.size, 7, none⟩) (Nat.le_refl _) (.int .i64 W.y)).setCell (p := ⟨w.heap.size, 8, none⟩) (Nat.le_refl _) (.int .i64 W.z)).setCell (p := ⟨w.heap.size, 9, none⟩) (Nat.le_refl _) (.int .i64 W.e)).setCell (p := ⟨w.heap.size, 10, none⟩) (Nat.le_refl _) (.slice ad W.T.length cap))
    have hoY := own_mono b0.size (own_set (k := 10) (.slice ad W.T.length cap) (own_set (k := 9) (.int .i64 W.e) (own_set (k := 8) (.int .i64 W.z) (own_set (k := 7) (.int .i64 W.y) (own_set (k := 6) (.int .i64 W.x) (own_set (k := 5) (.int .i64 W.q) (own_set (k := 4) (.int .i64 W.s) (own_set (k := 3) (.int .i64 W.t) (own_set (k := 2) (.int .i64 W.f) (own_set (k := 1) (.int .i64 W.k) (own_set (k := 0) (.int .i64 W.p) ho X0.lt) X0.lt) X0.lt) X0.lt) X0.lt) X0.lt) X0.lt) X0.lt) X0.lt) X0.lt) X0.lt)
    go_wp2
    clear d0 d1 d2 d3 d4 d5 d6 d7 d8 d9 d10
    generalize (((((((((((w1.setCell ⟨w.heap.size, 0, none⟩ (.int .i64 W.p)).setCell ⟨w.heap.size, 1, none⟩ (.int .i64 W.k)).setCell ⟨w.heap.size, 2, none⟩ (.int .i64 W.f)).setCell ⟨w.heap.size, 3, none⟩ (.int .i64 W.t)).setCell ⟨w.heap.size, 4, none⟩ (.int .i64 W.s)).setCell ⟨w.heap.size, 5, none⟩ (.int .i64 W.q)).setCell ⟨w.heap.size, 6, none⟩ (.int .i64 W.x)).setCell ⟨w.heap.size, 7, none⟩ (.int .i64 W.y)).setCell ⟨w.heap.size, 8, none⟩ (.int .i64 W.z)).setCell ⟨w.heap.size, 9, none⟩ (.int .i64 W.e)).setCell ⟨w.heap.size, 10, none⟩ (.slice ad W.T.length cap)) = w9 at *
    have d0 := Y.c 0 (.int .i64 W.p) rfl
    have d1 := Y.c 1 (.int .i64 W.k) rfl
    have d2 := Y.c 2 (.int .i64 W.f) rfl
    have d3 := Y.c 3 (.int .i64 W.t) rfl
    have d4 := Y.c 4 (.int .i64 W.s) rfl
    have d5 := Y.c 5 (.int .i64 W.q) rfl
    have d6 := Y.c 6 (.int .i64 W.x) rfl
    have d7 := Y.c 7 (.int .i64 W.y) rfl
    have d8 := Y.c 8 (.int .i64 W.z) rfl
    have d9 := Y.c 9 (.int .i64 W.e) rfl
    have d10 := Y.c 10 (.slice ad W.T.length cap) rfl
    exact bodyPost_ret (v := .tuple #[.agg #[.int .i64 W.p, .int .i64 W.k, .int .i64 W.f, .int .i64 W.t, .int .i64 W.s, .int .i64 W.q, .int .i64 W.x, .int .i64 W.y, .int .i64 W.z, .int .i64 W.e, .slice ad W.T.length cap], .bool q]) (by simp [results, Tryz.results17, go_sem, d0, d1, d2, d3, d4, d5, d6, d7, d8, d9, d10]) rfl ⟨W, ad, cap, q, rfl, hy, hn, hoY, BY⟩
end Go.Proofs.YtibnojbhoepcdaaGreatDoor
/- A coordinate drawn. -/
namespace Go.Proofs.YtibnojbhoepcdaaGreatDoor
open Go.ChangeShapes Go.WideShapes Go.ChangeAt Go.RowKit
attribute [local go_sem ↓] Go.wp_at_zero Go.wp_at_succ
theorem snew_any (w : World) :
    Calls Tryz.prog 112 #[] w fun r w' => r = .returned (.agg #[.int .i64 0, .int .i64 0, .int .i64 0, .int .i64 1500]) ∧ ∃ o, w' = w.alloc o := by
  go_enter Tryz.func112, Tryz.ntmps112
  go_wp2
  exact bodyPost_ret (v := .agg #[.int .i64 0, .int .i64 0, .int .i64 0, .int .i64 1500]) (by simp [results, Tryz.results112, go_sem]) rfl ⟨rfl, _, rfl⟩
theorem snew_below (w : World) :
    Calls Tryz.prog 112 #[] w fun r w' => r = .returned (.agg #[.int .i64 0, .int .i64 0, .int .i64 0, .int .i64 1500]) ∧ Below w.heap.size w w' :=
  (snew_any w).mono (by rintro r w' ⟨rfl, o, rfl⟩; exact ⟨rfl, balloc o (Below.refl _ _)⟩)
set_option maxHeartbeats 1000000 in
theorem coord_any {G : Cd} (B rb p : Nat) (w : World) (h : Rd G B rb p w) (hp : p < 900000) :
    Calls Tryz.prog 83 #[.pointer (some ⟨rb, 0, none⟩)] w fun r w' => ∃ (x y z e : Int) (q : Nat), r = .returned (.agg #[.int .i64 x, .int .i64 y, .int .i64 z, .int .i64 e]) ∧ q ≤ p + 10 ∧ Rd G B rb q w' ∧ Off rb w w' := by
  have hlt := h.lt
  have hle := h.le
  have hne : w.heap.size ≠ rb := by omega
  go_enter Tryz.func83, Tryz.ntmps83
  go_wp2_with fail
  refine (pick_any B rb p _ _ (h.alloc _) (by omega)).mono ?_
  rintro r w1 ⟨rfl, ⟨a1, b1⟩, r1, o1⟩
  generalize G.pk _ _ = k1 at *
  have S1 := (Slot4.new w _ _ _ _ _).aside o1 hne
  have of1 := ((Off.refl rb w).alloc _).trans o1.off
  have z1 := o1.size
  simp at z1
  have z2 : w.heap.size < w1.heap.size := by omega
  clear z1
  clear o1
  by_cases hk : k1 = 0
  · subst hk
    go_wp2_with fail
    refine (snew_below _).mono ?_
    rintro r w2 ⟨rfl, b2⟩
    have S2 := S1.below b2
    have r2 := r1.below b2
    have of2 := of1.trans (Off.ofBelow rb b2)
    obtain ⟨⟨v0, c0⟩, f0⟩ := S2 0 (by omega)
    obtain ⟨⟨v1, c1⟩, f1⟩ := S2 1 (by omega)
    obtain ⟨⟨v2, c2⟩, f2⟩ := S2 2 (by omega)
    obtain ⟨⟨v3, c3⟩, f3⟩ := S2 3 (by omega)
    clear S1 S2 b2 z2
    go_wp2
    exact bodyPost_ret (v := .agg #[.int .i64 0, .int .i64 0, .int .i64 0, .int .i64 1500]) (by simp [results, Tryz.results83, go_sem, c0, c1, c2, c3]) rfl ⟨_, _, _, _, p + 1, rfl, by omega, r2.set4 _ _ _ _ _ hne (by omega), of2.set4 _ _ _ _ _ (Nat.le_refl _)⟩
  · have hk' : (k1 == 0) = false := by simp [hk]
    have hne1 : w1.heap.size ≠ rb := by omega
    clear b1
    go_wp2_with fail
    refine (pick_any B rb _ _ _ (r1.alloc _) (by omega)).mono ?_
    rintro r w2 ⟨rfl, ⟨a2, b2⟩, r2, o2⟩
    generalize G.pk _ _ = k2 at *
    obtain ⟨m, rfl⟩ := Int.eq_ofNat_of_zero_le a2
    have hm : m < 3 := by omega
    obtain ⟨far, hfar⟩ : ∃ r : Int, w2.cell? ⟨w1.heap.size, m, none⟩ = some (.int .i64 r) := by
      rw [o2.cell (p := ⟨w1.heap.size, m, none⟩) hne1]
      exact three w1 _ _ _ m hm
    have S2 := (S1.alloc _).aside o2 hne
    have of2 := (of1.alloc _).trans o2.off
    clear b2 o2 S1 of1 z2 hne1
    go_wp2_with fail
    clear hfar
    refine (pick_any B rb _ _ _ r2 (by omega)).mono ?_
    rintro r w3 ⟨rfl, ⟨a3, b3⟩, r3, o3⟩
    generalize G.pk _ _ = k3 at *
    have S3 := S2.aside o3 hne
    have of3 := of2.trans o3.off
    clear b3 o3 S2 of2
    go_wp2_with fail
    refine (pick_any B rb _ _ _ r3 (by omega)).mono ?_
    rintro r w4 ⟨rfl, ⟨a4, b4⟩, r4, o4⟩
    generalize G.pk _ _ = k4 at *
    have S4 := S3.aside o4 hne
    have of4 := of3.trans o4.off
    clear b4 o4 S3 of3
    go_wp2_with fail
    refine (pick_any B rb _ _ _ r4 (by omega)).mono ?_
    rintro r w5 ⟨rfl, ⟨a5, b5⟩, r5, o5⟩
    generalize G.pk _ _ = k5 at *
    have S5 := S4.aside o5 hne
    have of5 := of4.trans o5.off
    clear b5 o5 S4 of4
    go_wp2_with fail
    refine (pick_any B rb _ _ _ r5 (by omega)).mono ?_
    rintro r w6 ⟨rfl, ⟨a6, b6⟩, r6, o6⟩
    generalize G.pk _ _ = k6 at *
    have S6 := S5.aside o6 hne
    have of6 := of5.trans o6.off
    clear b6 o6 S5 of5
    obtain ⟨⟨v0, c0⟩, f0⟩ := S6 0 (by omega)
    obtain ⟨⟨v1, c1⟩, f1⟩ := S6 1 (by omega)
    obtain ⟨⟨v2, c2⟩, f2⟩ := S6 2 (by omega)
    obtain ⟨⟨v3, c3⟩, f3⟩ := S6 3 (by omega)
    clear S6
    go_wp2
    exact bodyPost_ret (v := .agg #[.int .i64 (wrap64 (k3 - far)), .int .i64 (wrap64 (k4 - far)), .int .i64 k5, .int .i64 (wrap64 (1 + k6))]) (by simp [results, Tryz.results83, go_sem, c0, c1, c2, c3]) rfl ⟨_, _, _, _, p + 1 + 1 + 1 + 1 + 1 + 1, rfl, by omega, r6.set4 _ _ _ _ _ hne (by omega), of6.set4 _ _ _ _ _ (Nat.le_refl _)⟩
/-- four numbers lie at block b, and may be written -/
def Num4 (w : World) (b : Nat) (x y z e : Int) : Prop :=
  (w.cell? ⟨b, 0, none⟩ = some (.int .i64 x) ∧ w.cell? ⟨b, 1, none⟩ = some (.int .i64 y) ∧ w.cell? ⟨b, 2, none⟩ = some (.int .i64 z) ∧ w.cell? ⟨b, 3, none⟩ = some (.int .i64 e)) ∧
  (w.frozen? ⟨b, 0, none⟩ = false ∧ w.frozen? ⟨b, 1, none⟩ = false ∧ w.frozen? ⟨b, 2, none⟩ = false ∧ w.frozen? ⟨b, 3, none⟩ = false)
theorem Num4.new (w : World) (x y z e : Int) (t : TypeId) : Num4 (w.alloc (.cells #[.int .i64 x, .int .i64 y, .int .i64 z, .int .i64 e] t)) w.heap.size x y z e := by
  refine ⟨⟨?_, ?_, ?_, ?_⟩, ?_, ?_, ?_, ?_⟩ <;> simp [go_sem]
theorem Num4.off {w w' : World} {b rb : Nat} {x y z e : Int} (h : Num4 w b x y z e) (ha : Off rb w w') (hb : b ≠ rb) : Num4 w' b x y z e := by
  obtain ⟨⟨c0, c1, c2, c3⟩, f0, f1, f2, f3⟩ := h
  have hlt : b < w.heap.size := World.block_lt_of_cell? w _ c0
  exact ⟨⟨(ha.cell (p := ⟨b, 0, none⟩) hlt hb).trans c0, (ha.cell (p := ⟨b, 1, none⟩) hlt hb).trans c1, (ha.cell (p := ⟨b, 2, none⟩) hlt hb).trans c2, (ha.cell (p := ⟨b, 3, none⟩) hlt hb).trans c3⟩, (ha.frozen (p := ⟨b, 0, none⟩) hlt hb).trans f0, (ha.frozen (p := ⟨b, 1, none⟩) hlt hb).trans f1, (ha.frozen (p := ⟨b, 2, none⟩) hlt hb).trans f2, (ha.frozen (p := ⟨b, 3, none⟩) hlt hb).trans f3⟩
set_option maxHeartbeats 1000000 in
theorem any_any {G : Cd} (B rb p : Nat) (w : World) (h : Rd G B rb p w) (hp : p < 800000) :
    Calls Tryz.prog 91 #[.pointer (some ⟨rb, 0, none⟩)] w fun r w' => ∃ (x y z e : Int) (q : Nat), r = .returned (.agg #[.int .i64 x, .int .i64 y, .int .i64 z, .int .i64 e]) ∧ q ≤ p + 20 ∧ Rd G B rb q w' ∧ Off rb w w' := by
  have hlt := h.lt
  have hle := h.le
  have hne : w.heap.size ≠ rb := by omega
  go_enter Tryz.func91, Tryz.ntmps91
  go_wp2_with fail
  refine (coord_any B rb p _ (h.alloc _) (by omega)).mono ?_
  rintro r w1 ⟨x, y, z, e, q, rfl, hq, r1, o1⟩
  have S1 := (Slot4.new w _ _ _ _ _).off o1 hne
  have of1 := ((Off.refl rb w).alloc _).trans o1
  have z1 := o1.size
  simp at z1
  have z2 : w.heap.size < w1.heap.size := by omega
  have hne1 : w1.heap.size ≠ rb := by omega
  have hR : w.heap.size ≠ w1.heap.size := by omega
  clear z1 o1
  go_wp2_with fail
  refine (pick_any B rb _ _ _ (r1.alloc _) (by omega)).mono ?_
  rintro r w2 ⟨rfl, ⟨a2, b2⟩, r2, o2⟩
  generalize G.pk _ _ = k at *
  have N2 := (Num4.new w1 x y z e _).off o2.off hne1
  have S2 := (S1.alloc _).aside o2 hne
  have of2 := (of1.alloc _).trans o2.off
  have z3 : w1.heap.size < w2.heap.size := by have := o2.size; simp at this; omega
  clear o2 of1 S1 b2
  generalize w1.heap.size = C at *
  by_cases k0 : k = 0
  · subst k0
    have hne2 : w2.heap.size ≠ rb := by omega
    go_wp2_with fail
    refine (pick_any B rb _ _ _ (r2.alloc _) (by omega)).mono ?_
    rintro r w3 ⟨rfl, ⟨a3, b3⟩, r3, o3⟩
    generalize G.pk _ _ = k2 at *
    obtain ⟨m, rfl⟩ := Int.eq_ofNat_of_zero_le a3
    have hm : m < 3 := by omega
    obtain ⟨v, hv⟩ : ∃ r : Int, w3.cell? ⟨w2.heap.size, m, none⟩ = some (.int .i64 r) := by
      rw [o3.cell (p := ⟨w2.heap.size, m, none⟩) hne2]
      exact three w2 _ _ _ m hm
    have N3 := N2.off ((Off.refl rb w2).alloc _ |>.trans o3.off) hne1
    have S3 := (S2.alloc _).aside o3 hne
    have of3 := (of2.alloc _).trans o3.off
    obtain ⟨⟨c0, c1, c2, c3⟩, f0, f1, f2, f3⟩ := N3
    obtain ⟨⟨v0, d0⟩, g0⟩ := S3 0 (by omega)
    obtain ⟨⟨v1, d1⟩, g1⟩ := S3 1 (by omega)
    obtain ⟨⟨v2, d2⟩, g2⟩ := S3 2 (by omega)
    obtain ⟨⟨v3, d3⟩, g3⟩ := S3 3 (by omega)
    clear N2 S2 S3 of2 o3 b3
    go_wp2
    exact bodyPost_ret (v := .agg #[.int .i64 v, .int .i64 y, .int .i64 z, .int .i64 e]) (by simp [results, Tryz.results91, go_sem, d0, d1, d2, d3]) rfl ⟨_, _, _, _, q + 1 + 1, rfl, by omega, (r3.set C 0 _ hne1 (by omega)).set4 _ _ _ _ _ hne (by omega), (of3.set C 0 _ (by omega)).set4 _ _ _ _ _ (Nat.le_refl _)⟩
  by_cases k1 : k = 1
  · subst k1
    have hne2 : w2.heap.size ≠ rb := by omega
    go_wp2_with fail
    refine (pick_any B rb _ _ _ (r2.alloc _) (by omega)).mono ?_
    rintro r w3 ⟨rfl, ⟨a3, b3⟩, r3, o3⟩
    generalize G.pk _ _ = k2 at *
    obtain ⟨m, rfl⟩ := Int.eq_ofNat_of_zero_le a3
    have hm : m < 2 := by omega
    obtain ⟨v, hv⟩ : ∃ r : Int, w3.cell? ⟨w2.heap.size, m, none⟩ = some (.int .i64 r) := by
      rw [o3.cell (p := ⟨w2.heap.size, m, none⟩) hne2]
      exact two w2 _ _ m hm
    have N3 := N2.off ((Off.refl rb w2).alloc _ |>.trans o3.off) hne1
    have S3 := (S2.alloc _).aside o3 hne
    have of3 := (of2.alloc _).trans o3.off
    obtain ⟨⟨c0, c1, c2, c3⟩, f0, f1, f2, f3⟩ := N3
    obtain ⟨⟨v0, d0⟩, g0⟩ := S3 0 (by omega)
    obtain ⟨⟨v1, d1⟩, g1⟩ := S3 1 (by omega)
    obtain ⟨⟨v2, d2⟩, g2⟩ := S3 2 (by omega)
    obtain ⟨⟨v3, d3⟩, g3⟩ := S3 3 (by omega)
    clear N2 S2 S3 of2 o3 b3
    go_wp2
    exact bodyPost_ret (v := .agg #[.int .i64 x, .int .i64 y, .int .i64 v, .int .i64 e]) (by simp [results, Tryz.results91, go_sem, d0, d1, d2, d3]) rfl ⟨_, _, _, _, q + 1 + 1, rfl, by omega, (r3.set C 2 _ hne1 (by omega)).set4 _ _ _ _ _ hne (by omega), (of3.set C 2 _ (by omega)).set4 _ _ _ _ _ (Nat.le_refl _)⟩
  by_cases k2' : k = 2
  · subst k2'
    have hne2 : w2.heap.size ≠ rb := by omega
    go_wp2_with fail
    refine (pick_any B rb _ _ _ (r2.alloc _) (by omega)).mono ?_
    rintro r w3 ⟨rfl, ⟨a3, b3⟩, r3, o3⟩
    generalize G.pk _ _ = k2 at *
    obtain ⟨m, rfl⟩ := Int.eq_ofNat_of_zero_le a3
    have hm : m < 2 := by omega
    obtain ⟨v, hv⟩ : ∃ r : Int, w3.cell? ⟨w2.heap.size, m, none⟩ = some (.int .i64 r) := by
      rw [o3.cell (p := ⟨w2.heap.size, m, none⟩) hne2]
      exact two w2 _ _ m hm
    have N3 := N2.off ((Off.refl rb w2).alloc _ |>.trans o3.off) hne1
    have S3 := (S2.alloc _).aside o3 hne
    have of3 := (of2.alloc _).trans o3.off
    obtain ⟨⟨c0, c1, c2, c3⟩, f0, f1, f2, f3⟩ := N3
    obtain ⟨⟨v0, d0⟩, g0⟩ := S3 0 (by omega)
    obtain ⟨⟨v1, d1⟩, g1⟩ := S3 1 (by omega)
    obtain ⟨⟨v2, d2⟩, g2⟩ := S3 2 (by omega)
    obtain ⟨⟨v3, d3⟩, g3⟩ := S3 3 (by omega)
    clear N2 S2 S3 of2 o3 b3
    go_wp2
    exact bodyPost_ret (v := .agg #[.int .i64 x, .int .i64 y, .int .i64 z, .int .i64 v]) (by simp [results, Tryz.results91, go_sem, d0, d1, d2, d3]) rfl ⟨_, _, _, _, q + 1 + 1, rfl, by omega, (r3.set C 3 _ hne1 (by omega)).set4 _ _ _ _ _ hne (by omega), (of3.set C 3 _ (by omega)).set4 _ _ _ _ _ (Nat.le_refl _)⟩
  · have e0 : (k == 0) = false := by simp [k0]
    have e1 : (k == 1) = false := by simp [k1]
    have e2 : (k == 2) = false := by simp [k2']
    obtain ⟨⟨c0, c1, c2, c3⟩, f0, f1, f2, f3⟩ := N2
    obtain ⟨⟨v0, d0⟩, g0⟩ := S2 0 (by omega)
    obtain ⟨⟨v1, d1⟩, g1⟩ := S2 1 (by omega)
    obtain ⟨⟨v2, d2⟩, g2⟩ := S2 2 (by omega)
    obtain ⟨⟨v3, d3⟩, g3⟩ := S2 3 (by omega)
    clear S2
    go_wp2
    exact bodyPost_ret (v := .agg #[.int .i64 x, .int .i64 y, .int .i64 z, .int .i64 e]) (by simp [results, Tryz.results91, go_sem, d0, d1, d2, d3]) rfl ⟨_, _, _, _, q + 1, rfl, by omega, r2.set4 _ _ _ _ _ hne (by omega), of2.set4 _ _ _ _ _ (Nat.le_refl _)⟩
end Go.Proofs.YtibnojbhoepcdaaGreatDoor
