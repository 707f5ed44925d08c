/- Leaving: what a node says, by the program, walked. -/
import Derived.Test.YtgcdcfjaeehnbaaGreatLv5
namespace Go.Proofs.YtgcdcfjaeehnbaaGreat
open Go.ChangeShapes Go.WideShapes Go.ChangeAt Go.RowKit
attribute [local go_sem ↓] Go.wp_at_zero Go.wp_at_succ
set_option maxRecDepth 20000
set_option maxHeartbeats 8000000
def s65_1 : List Stp := [⟨some 11, .move (.tmp 0), 72, none, 0⟩, ⟨some 12, .nilCheck (.tmp 11), 0, none, 0⟩, ⟨some 13, .fieldAddr 76 (.tmp 12) 0, 0, none, 0⟩, ⟨some 14, .fieldAddr 42 (.tmp 13) 8, 0, none, 0⟩, ⟨some 15, .load 34 (.tmp 14), 34, none, 0⟩, ⟨some 16, .fieldAddr 96 (.tmp 4) 0, 0, none, 0⟩, ⟨some 17, .load 3 (.tmp 16), 3, none, 0⟩]
def t65_1 : List (Nat × Nat) := [(0, 0), (1, 0), (2, 0), (3, 0), (4, 0), (5, 0), (6, 0)]
def c65_1 : Stp := ⟨some 18, .call { callee := .value (.func 127), args := #[.tmp 15, .tmp 17], argTypes := #[34, 3] }, 150, none, 1⟩
def a65_1 : Stp := ⟨some 6, .alloc 96, 0, none, 1⟩
def m65_1 : List Stp := [⟨some 10, .move (.tmp 18), 150, none, 0⟩, ⟨some 19, .extract (.tmp 10) 0, 96, none, 0⟩, ⟨some 20, .extract (.tmp 10) 1, 4, none, 0⟩]
def e65_1 : List Stp := [⟨none, .store 96 (.tmp 6) (.tmp 19), 0, none, 1⟩, ⟨some 7, .assign (.tmp 20), 4, none, 0⟩]
def s65_2 : List Stp := [⟨some 22, .move (.tmp 0), 72, none, 0⟩, ⟨some 23, .nilCheck (.tmp 22), 0, none, 0⟩, ⟨some 24, .fieldAddr 76 (.tmp 23) 0, 0, none, 0⟩, ⟨some 25, .fieldAddr 42 (.tmp 24) 8, 0, none, 0⟩, ⟨some 26, .load 34 (.tmp 25), 34, none, 0⟩, ⟨some 27, .load 96 (.tmp 4), 96, none, 0⟩, ⟨some 28, .call { callee := .value (.func 128), args := #[.tmp 26, .tmp 27], argTypes := #[34, 96] }, 152, none, 1⟩, ⟨some 21, .move (.tmp 28), 152, none, 0⟩, ⟨some 29, .extract (.tmp 21) 0, 34, none, 0⟩, ⟨some 30, .extract (.tmp 21) 1, 4, none, 0⟩, ⟨some 8, .assign (.tmp 29), 34, none, 0⟩, ⟨some 9, .assign (.tmp 30), 4, none, 0⟩]
def t65_2 : List (Nat × Nat) := [(0, 0), (1, 0), (2, 0), (3, 0), (4, 0), (5, 0), (6, 1), (7, 0), (8, 0), (9, 0), (10, 0), (11, 0)]
def s65_5 : List Stp := [⟨some 38, .move (.tmp 0), 72, none, 0⟩, ⟨some 39, .move (.tmp 0), 72, none, 0⟩, ⟨some 40, .nilCheck (.tmp 39), 0, none, 0⟩, ⟨some 41, .fieldAddr 76 (.tmp 40) 0, 0, none, 0⟩, ⟨some 42, .fieldAddr 42 (.tmp 41) 9, 0, none, 0⟩, ⟨some 44, .load 96 (.tmp 4), 96, none, 0⟩, ⟨some 43, .load 35 (.tmp 42), 35, none, 1⟩, ⟨some 45, .call { callee := .value (.func 129), args := #[.tmp 43, .tmp 44], argTypes := #[35, 96] }, 35, none, 1⟩, ⟨some 46, .nilCheck (.tmp 38), 0, none, 0⟩, ⟨some 47, .fieldAddr 76 (.tmp 46) 0, 0, none, 0⟩, ⟨some 48, .fieldAddr 42 (.tmp 47) 9, 0, none, 0⟩, ⟨none, .store 35 (.tmp 48) (.tmp 45), 0, none, 1⟩]
def t65_5 : List (Nat × Nat) := [(0, 0), (1, 0), (2, 0), (3, 0), (4, 0), (6, 0), (5, 1), (7, 1), (8, 0), (9, 0), (10, 0), (11, 1)]
def s65_7 : List Stp := [⟨some 61, .move (.tmp 0), 72, none, 0⟩, ⟨some 62, .move (.tmp 0), 72, none, 0⟩, ⟨some 63, .nilCheck (.tmp 62), 0, none, 0⟩, ⟨some 64, .fieldAddr 76 (.tmp 63) 0, 0, none, 0⟩, ⟨some 65, .fieldAddr 42 (.tmp 64) 11, 0, none, 0⟩, ⟨some 67, .fieldAddr 96 (.tmp 4) 0, 0, none, 0⟩, ⟨some 68, .load 3 (.tmp 67), 3, none, 0⟩, ⟨some 66, .load 37 (.tmp 65), 37, none, 1⟩, ⟨some 69, .call { callee := .value (.func 130), args := #[.tmp 66, .tmp 68], argTypes := #[37, 3] }, 37, none, 1⟩, ⟨some 70, .nilCheck (.tmp 61), 0, none, 0⟩, ⟨some 71, .fieldAddr 76 (.tmp 70) 0, 0, none, 0⟩, ⟨some 72, .fieldAddr 42 (.tmp 71) 11, 0, none, 0⟩, ⟨none, .store 37 (.tmp 72) (.tmp 69), 0, none, 1⟩]
def t65_7 : List (Nat × Nat) := [(0, 0), (1, 0), (2, 0), (3, 0), (4, 0), (6, 0), (7, 0), (5, 1), (8, 1), (9, 0), (10, 0), (11, 0), (12, 1)]
theorem say_any (base g : Nat) (n : Nod) (dr : Int) (ws : List Wo) (v1 v2 v3 v4 v5 vw : Value) (sD sP sO sW : Nat → Value) (by_ : Int) (w : World) (h : Ag w base g n dr ws v1 v2 v3 v4 v5 vw sD sP sO sW) (hb : base ≤ w.heap.size) (ok : LvOk n) :
  Calls Tryz.prog 65 #[.pointer (some ⟨g, 0, none⟩), .agg #[.int .i64 n.me, .int .i64 n.inc, .int .i64 4, .bool n.gate], .int .i64 by_] w fun r w' => Said w w' r base g (lvS n) dr ws v4 v5 vw sD sP sO sW := by
 obtain ⟨a1, c1, rfl, _⟩ := own_slice h.nd.t
 obtain ⟨a2, c2, rfl, _⟩ := own_slice h.nd.c
 obtain ⟨a3, c3, rfl, _⟩ := own_slice h.nd.d.row
 have hC := say_con (base := base) (n := n) (a1 := a1) (c1 := c1) (a2 := a2) (c2 := c2) (v3 := .slice a3 n.D.length c3) (sD := sD) ok h.nd.ht h.nd.hc h.nd.hd
 have gl : g < w.heap.size := h.box.lt
 have hlen : Hid ((lvS n).T.length ≤ 1048576) := Nat.le_trans ok.len (by omega)
 have hlenC : Hid ((lvS n).C.length ≤ 1048576) := Nat.le_trans ok.lenC (by omega)
 clear ok
 obtain ⟨me, hme⟩ : ∃ l, Hid (n.me = l) := ⟨_, rfl⟩
 obtain ⟨inc, hinc⟩ : ∃ l, Hid (n.inc = l) := ⟨_, rfl⟩
 obtain ⟨gate, hgate⟩ : ∃ l, Hid (n.gate = l) := ⟨_, rfl⟩
 have hC1 := hC.fin
 have hC2 := hC.put
 have hC3 := hC.cas
 have hC4 := hC.wo
 clear hC
 rw [hme.out, hinc.out, hgate.out] at hC1 hC2 hC3 ⊢
 rw [hme.out] at hC4
 clear hme hinc hgate
 go_enter Tryz.func65, Tryz.ntmps65
 go_upto_region 1 with fail
 rename_i K hK
 generalize hu : w.alloc (.cells _ _) = u
 obtain ⟨X, b0⟩ : Ws u w.heap.size _ ∧ Below w.heap.size w u := by subst hu; exact ⟨Ws.box _ _, balloc _ (Below.refl _ _)⟩
 clear hu
 obtain ⟨KX, hKX⟩ : ∃ K, Hid (w.heap.size = K) := ⟨_, rfl⟩
 have nKg : ¬ KX = g := by have := hKX.out; omega
 rw [hKX.out] at X ⊢
 have h0 := h.below b0
 have hs0 := b0.size
 have rest : ∀ (ko : Nat) (u1 : World), ¬ ko = g → Below u.heap.size u u1 → Ws u1 ko [.int .i64 me, .int .i64 inc, .int .i64 1, .bool gate] → K ⟨#[.pointer (some ⟨g, 0, none⟩), .agg #[.int .i64 me, .int .i64 inc, .int .i64 4, .bool gate], .int .i64 by_, undef, .pointer (some ⟨KX, 0, none⟩), undef, .pointer (some ⟨ko, 0, none⟩), .bool true, undef, undef, .tuple #[.agg #[.int .i64 me, .int .i64 inc, .int .i64 1, .bool gate], .bool true], .pointer (some ⟨g, 0, none⟩), .pointer (some ⟨g, 0, none⟩), .pointer (some ⟨g, 0, none⟩), .pointer (some ⟨g, 8, none⟩), .slice a1 n.T.length c1, .pointer (some ⟨KX, 0, none⟩), .int .i64 me, .tuple #[.agg #[.int .i64 me, .int .i64 inc, .int .i64 1, .bool gate], .bool true], .agg #[.int .i64 me, .int .i64 inc, .int .i64 1, .bool gate], .bool true, undef, undef, undef, undef, undef, undef, undef, undef, undef, undef, undef, undef, undef, undef, undef, undef, undef, undef, undef, undef, undef, undef, undef, undef, undef, undef, undef, undef, undef, undef, undef, undef, undef, undef, undef, undef, undef, undef, undef, undef, undef, undef, undef, undef, undef, undef, undef, undef, undef, undef, undef, undef, undef, undef, undef, undef, undef, undef, undef, undef, undef, undef, undef, undef, undef, undef, undef, undef, undef, undef, undef, undef, undef, undef, undef, undef, undef], []⟩ u1 := by
  intro ko u1 nko kb hO
  apply hK
  clear hK hC1
  have b1 := btrans b0 kb
  have h1 := h0.below kb
  have hs1 := b1.size
  have hF : FSl u1 a1 n.T.length (tF n.T) := NdIn.f h1.nd.toR
  have xr : u1.rangeAt KX 0 [.int .i64 me, .int .i64 inc, .int .i64 4, .bool gate] := (X.below kb).range
  have x2 := (X.below kb).c 2 (.int .i64 4) rfl
  have x1 := (X.below kb).c 1 (.int .i64 inc) rfl
  have x0 := (X.below kb).c 0 (.int .i64 me) rfl
  have d8 : u1.cell? ⟨g, 8, none⟩ = some (.slice a1 n.T.length c1) := h1.box.c 8 _ rfl
  have o1 := hO.c 1 (.int .i64 inc) rfl
  have o2 := hO.c 2 (.int .i64 1) rfl
  clear X h0 b0 hs0 hO kb
  show Code.wp _ _ _ ⟨List.toArray [.pointer (some ⟨g, 0, none⟩), .agg #[.int .i64 me, .int .i64 inc, .int .i64 4, .bool gate], .int .i64 by_, undef, .pointer (some ⟨KX, 0, none⟩), undef, .pointer (some ⟨ko, 0, none⟩), .bool true, undef, undef, .tuple #[.agg #[.int .i64 me, .int .i64 inc, .int .i64 1, .bool gate], .bool true], .pointer (some ⟨g, 0, none⟩), .pointer (some ⟨g, 0, none⟩), .pointer (some ⟨g, 0, none⟩), .pointer (some ⟨g, 8, none⟩), .slice a1 n.T.length c1, .pointer (some ⟨KX, 0, none⟩), .int .i64 me, .tuple #[.agg #[.int .i64 me, .int .i64 inc, .int .i64 1, .bool gate], .bool true], .agg #[.int .i64 me, .int .i64 inc, .int .i64 1, .bool gate], .bool true, undef, undef, undef, undef, undef, undef, undef, undef, undef, undef, undef, undef, undef, undef, undef, undef, undef, undef, undef, undef, undef, undef, undef, undef, undef, undef, undef, undef, undef, undef, undef, undef, undef, undef, undef, undef, undef, undef, undef, undef, undef, undef, undef, undef, undef, undef, undef, undef, undef, undef, undef, undef, undef, undef, undef, undef, undef, undef, undef, undef, undef, undef, undef, undef, undef, undef, undef, undef, undef, undef, undef, undef, undef, undef, undef, undef, undef], []⟩ _
  go_upto_region 2 with fail
  refine wp_region_w (fun _ => False) s65_2 t65_2 (fun hbq => ?_)
  iterate 4 refine mY ?_
  refine mL (hS := id) ?_
  refine mR (hS := id) ?_
  refine mX (hC2 _ (hF.below hbq.no)) hbq ?_
  rintro r w2 ⟨v, rfl, q1, k1⟩
  obtain ⟨a8, c8, rfl, _⟩ := own_slice q1
  refine ⟨_, rfl, Mw.of_below k1, fun hbq => ?_⟩
  simp only [putQ]
  iterate 5 refine mY ?_
  refine mE ?_
  replace q1 : w2.ownsRow w.heap.size 96 4 (.slice a8 (lvS n).T.length c8) (lvS n).T.length (rv (fv (tF (lvS n).T)) ((lvS n).T.length * 4)) := own_mono hs1 q1
  have k2 := hbq.no
  have b2 := btrans b1 k2
  have h2 := h1.below k2
  replace xr := range_below' xr k2
  replace x0 := keep_below k2 x0
  replace x1 := keep_below k2 x1
  replace x2 := keep_below k2 x2
  replace o1 := keep_below k2 o1
  replace o2 := keep_below k2 o2
  have d8 := h2.box.c 8 (.slice a1 n.T.length c1) rfl
  have z8 := h2.box.z 8
  clear hF h1 b1 hs1 k1 hbq k2 hC2
  go_upto_region 5 with fail
  have A := h2.am
  have mw := Mw.of_below (S := fun y => y = g) b2
  clear d8 z8 h2 b2
  have m_ : Mw (fun y => y = g) w2 (w2.setCell ⟨g, 8, none⟩ (.slice a8 (lvS n).T.length c8)) := (Mw.refl _ _).set rfl
  have A_ := A.set 8 (by simp [agC]) (.slice a8 (lvS n).T.length c8)
  replace q1 := A.row (k := 8) (x := .slice a8 (lvS n).T.length c8) q1
  replace mw := mw.trans m_
  replace x0 := m_.cell x0 nKg
  replace x1 := m_.cell x1 nKg
  replace x2 := m_.cell x2 nKg
  replace xr := m_.range xr nKg
  replace o1 := m_.cell o1 nko
  replace o2 := m_.cell o2 nko
  clear A m_
  generalize w2.setCell ⟨g, 8, none⟩ (.slice a8 (lvS n).T.length c8) = w3 at *
  replace A := A_
  clear A_
  have hs3 := mw.size
  replace A := A.below (QB1 (Below.refl w3.heap.size w3))
  have hI : TSl w3.drew a2 n.C.length (cF n.C) := NdIn.i A.nd.toR
  have y_ : w3.drew.cell? ⟨g, 9, none⟩ = some (.slice a2 n.C.length c2) := A.box.c 9 _ rfl
  refine wp_region_w (fun x => x = g) s65_5 t65_5 (fun hbq => ?_)
  iterate 5 refine mY ?_
  refine mR ?_
  refine mC (fun K2 hK2 => ?_)
  go_simp
  refine hK2.out _ _ hbq (.inl ?_)
  clear hK2 K2
  try simp only [putQ]
  refine mX (hC3 _ hI) hbq ?_
  rintro r w1 ⟨v, rfl, q2, k1⟩
  obtain ⟨a9, c9, rfl, _⟩ := own_slice q2
  clear y_ hI
  replace q1 := own_below q1 (btrans (QB1 (Below.refl w3.heap.size w3)) k1)
  have k2 := btrans (QB1 (Below.refl w3.heap.size w3)) k1
  replace A := A.below k1
  replace mw := mw.trans (Mw.of_below k2)
  replace xr := range_below' xr k2
  replace x0 := keep_below k2 x0
  replace x1 := keep_below k2 x1
  replace x2 := keep_below k2 x2
  replace o1 := keep_below k2 o1
  replace o2 := keep_below k2 o2
  clear k2
  refine ⟨_, rfl, Mw.of_below k1, fun hbq => ?_⟩
  simp only [putQ]
  iterate 3 refine mY ?_
  refine mC (fun K2 hK2 => ?_)
  have y_ := A.box.c 9 (.slice a2 n.C.length c2) rfl
  have z_ := A.box.z 9
  go_simp
  refine hK2.out _ _ (hbq.set rfl) (.inl ?_)
  clear hK2 K2 y_ z_
  try simp only [putQ]
  refine mE ?_
  replace q2 : w1.ownsRow w.heap.size 127 5 (.slice a9 (lvS n).C.length c9) (lvS n).C.length (rv (tv (cF (lvS n).C)) ((lvS n).C.length * 5)) := own_mono hs3 q2
  clear hbq k1 hs3 hC3
  have m_ : Mw (fun y => y = g) w1 (w1.setCell ⟨g, 9, none⟩ (.slice a9 (lvS n).C.length c9)) := (Mw.refl _ _).set rfl
  have A_ := A.set 9 (by simp [agC]) (.slice a9 (lvS n).C.length c9)
  replace q1 := A.row (k := 9) (x := .slice a9 (lvS n).C.length c9) q1
  replace q2 := A.row (k := 9) (x := .slice a9 (lvS n).C.length c9) q2
  replace mw := mw.trans m_
  replace x0 := m_.cell x0 nKg
  replace x1 := m_.cell x1 nKg
  replace x2 := m_.cell x2 nKg
  replace xr := m_.range xr nKg
  replace o1 := m_.cell o1 nko
  replace o2 := m_.cell o2 nko
  clear A m_
  generalize w1.setCell ⟨g, 9, none⟩ (.slice a9 (lvS n).C.length c9) = w4 at *
  replace A := A_
  clear A_
  go_upto_region 7 with fail
  have hs4 := mw.size
  replace A := A.below (QB1 (Below.refl w4.heap.size w4))
  have hD : OwD w4.drew base (.slice a3 n.D.length c3) n.D.length (dR n.D sD) sD (dN n.D) (dX n.D) := A.nd.d
  have y_ : w4.drew.cell? ⟨g, 14, none⟩ = some (.slice a3 n.D.length c3) := A.box.c 14 _ rfl
  clear o1 o2
  refine wp_region_w (fun x => x = g) s65_7 t65_7 (fun hbq => ?_)
  iterate 6 refine mY ?_
  refine mL ?_
  refine mC (fun K2 hK2 => ?_)
  go_simp
  refine hK2.out _ _ hbq (.inl ?_)
  clear hK2 K2
  try simp only [putQ]
  refine mX (hC4 _ hD (Nat.le_trans hb hs4)) hbq ?_
  rintro r w5 ⟨v, rfl, q3, k1⟩
  obtain ⟨a10, c10, rfl, _⟩ := own_slice q3
  clear y_ hD
  replace q1 := own_below q1 (btrans (QB1 (Below.refl w4.heap.size w4)) k1)
  replace q2 := own_below q2 (btrans (QB1 (Below.refl w4.heap.size w4)) k1)
  have k2 := btrans (QB1 (Below.refl w4.heap.size w4)) k1
  replace A := A.below k1
  replace mw := mw.trans (Mw.of_below k2)
  replace xr := range_below' xr k2
  replace x0 := keep_below k2 x0
  replace x1 := keep_below k2 x1
  replace x2 := keep_below k2 x2
  clear k2
  refine ⟨_, rfl, Mw.of_below k1, fun hbq => ?_⟩
  simp only [putQ]
  iterate 3 refine mY ?_
  refine mC (fun K2 hK2 => ?_)
  have y_ := A.box.c 14 (.slice a3 n.D.length c3) rfl
  have z_ := A.box.z 14
  go_simp
  refine hK2.out _ _ (hbq.set rfl) (.inl ?_)
  clear hK2 K2 y_ z_
  try simp only [putQ]
  refine mE ?_
  replace q3 : w5.ownsRow w.heap.size 121 4 (.slice a10 n.D.length c10) n.D.length (rv (dR n.D sD) (n.D.length * 4)) := own_mono hs4 q3
  clear hbq k1 hs4 hC4
  have m_ : Mw (fun y => y = g) w5 (w5.setCell ⟨g, 14, none⟩ (.slice a10 n.D.length c10)) := (Mw.refl _ _).set rfl
  have A_ := A.set 14 (by simp [agC]) (.slice a10 n.D.length c10)
  replace q1 := A.row (k := 14) (x := .slice a10 n.D.length c10) q1
  replace q2 := A.row (k := 14) (x := .slice a10 n.D.length c10) q2
  replace q3 := A.row (k := 14) (x := .slice a10 n.D.length c10) q3
  replace mw := mw.trans m_
  replace x0 := m_.cell x0 nKg
  replace x1 := m_.cell x1 nKg
  replace x2 := m_.cell x2 nKg
  replace xr := m_.range xr nKg
  clear A m_
  generalize w5.setCell ⟨g, 14, none⟩ (.slice a10 n.D.length c10) = w6 at *
  have fin : Said w w6 (.returned (.tuple #[])) base g (lvS n) dr ws v4 v5 vw sD sP sO sW := ⟨_, _, _, rfl, h.anew hb A_ q1 q2 q3 hlen.out hlenC.out, mw⟩
  clear A_ q1 q2 q3 h xr
  go_wp2
  exact bodyPost_end (v := .tuple #[]) (by simp [results, Tryz.results65]) rfl fin
 have hF : FSl u a1 n.T.length (tF n.T) := NdIn.f h0.nd.toR
 have d8 : u.cell? ⟨g, 8, none⟩ = some (.slice a1 n.T.length c1) := h0.box.c 8 _ rfl
 have x0 := X.c 0 (.int .i64 me) rfl
 clear h0 X hC2 hC3 hC4 hK
 refine wp_region_wf (fun _ => False) s65_1 t65_1 (i := 7) (j := 11) (si := c65_1) (sj := a65_1) (r1 := [(8, 0), (9, 0), (10, 0), (11, 1), (12, 1), (13, 0)]) (r2 := [(7, 1), (8, 0), (9, 0), (10, 0), (12, 1), (13, 0)]) (L1 := m65_1 ++ a65_1 :: e65_1) (L2 := c65_1 :: m65_1 ++ e65_1) (fun hbq => ?_)
 iterate 4 refine mY ?_
 refine mL (hS := id) ?_
 refine mY ?_
 refine mL (hS := id) ?_
 refine mE ⟨?_, ?_⟩
 ·refine mK (hC1 _ (hF.below hbq.no)) hbq (fun w1 hbq => ?_)
  iterate 3 refine mY ?_
  have hko : u.heap.size ≤ w1.heap.size := hbq.size
  have Y := Ws.box (w := w1) #[.int .i64 0, .int .i64 0, .int .i64 0, .bool false] 96
  have hth : (w1.alloc (.cells #[.int .i64 0, .int .i64 0, .int .i64 0, .bool false] 96)).there w1.heap.size 0 4 := Y.there rfl
  refine mC (fun K2 hK2 => ?_)
  go_simp
  refine hK2.out _ _ (hbq.alloc _) (.inl ?_)
  clear hK2 K2
  try simp only [putQ]
  replace hbq := hbq.alloc (.cells #[.int .i64 0, .int .i64 0, .int .i64 0, .bool false] 96)
  refine mC (fun K2 hK2 => ?_)
  refine wp_store_mid 96 _ _ rfl w1.heap.size 0 #[.int .i64 me, .int .i64 inc, .int .i64 1, .bool gate] rfl rfl hth (by kernel_rfl) (by kernel_rfl) ?_
  have hq := ((hbq.mono (fun _ e => e.elim)).trans (Mw.cells (b := w1.heap.size) (w := w1.alloc (.cells #[.int .i64 0, .int .i64 0, .int .i64 0, .bool false] 96)) (#[.int .i64 me, .int .i64 inc, .int .i64 1, .bool gate] : Array Value).toList)).fresh (T := fun _ => False) (fun i e hi => absurd hi (by subst e; exact Nat.not_lt.2 hko))
  refine hK2.out _ _ hq (.inl ?_)
  clear hK2 K2
  try simp only [putQ]
  refine mY ?_
  refine mE ?_
  exact rest _ _ (by omega) hq.no (Y.cells _ rfl)
 ·have hko : u.heap.size ≤ u.drew.heap.size := Nat.le_refl _
  have Y := Ws.box (w := u.drew) #[.int .i64 0, .int .i64 0, .int .i64 0, .bool false] 96
  refine mC (fun K2 hK2 => ?_)
  go_simp
  refine hK2.out _ _ (hbq.alloc _) (.inl ?_)
  clear hK2 K2
  try simp only [putQ]
  replace hbq := hbq.alloc (.cells #[.int .i64 0, .int .i64 0, .int .i64 0, .bool false] 96)
  refine mX (hC1 _ (hF.below hbq.no)) hbq ?_
  rintro r w1 ⟨rfl, k1⟩
  refine ⟨_, rfl, Mw.of_below k1, fun hbq => ?_⟩
  simp only [putQ]
  replace Y := Y.below k1
  have hth : w1.there u.drew.heap.size 0 4 := Y.there rfl
  iterate 3 refine mY ?_
  refine mC (fun K2 hK2 => ?_)
  refine wp_store_mid 96 _ _ rfl u.drew.heap.size 0 #[.int .i64 me, .int .i64 inc, .int .i64 1, .bool gate] rfl rfl hth (by kernel_rfl) (by kernel_rfl) ?_
  have hq := ((hbq.mono (fun _ e => e.elim)).trans (Mw.cells (b := u.drew.heap.size) (w := w1) (#[.int .i64 me, .int .i64 inc, .int .i64 1, .bool gate] : Array Value).toList)).fresh (T := fun _ => False) (fun i e hi => absurd hi (by subst e; exact Nat.not_lt.2 hko))
  refine hK2.out _ _ hq (.inl ?_)
  clear hK2 K2
  try simp only [putQ]
  refine mY ?_
  refine mE ?_
  exact rest _ _ (by omega) hq.no (Y.cells _ rfl)
end Go.Proofs.YtgcdcfjaeehnbaaGreat
