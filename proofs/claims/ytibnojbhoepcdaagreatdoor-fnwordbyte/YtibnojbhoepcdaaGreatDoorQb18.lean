/- Texts of the proof, laid together: Dw3, Dw4. -/
import Derived.Test.YtibnojbhoepcdaaGreatDoorQb17
import Derived.Test.YtibnojbhoepcdaaGreatDoorQb10
import Derived.Test.YtibnojbhoepcdaaGreatDoorQb7
/- Any word drawn. -/
namespace Go.Proofs.YtibnojbhoepcdaaGreatDoor
open Go.ChangeShapes Go.WideShapes Go.ChangeAt Go.RowKit
attribute [local go_sem ↓] Go.wp_at_zero Go.wp_at_succ
theorem RwT.far {u w : World} {b2 cap b k : Nat} {ad : Option Addr} {T : List Fc} (v : Value) (h : RwT u w b2 ad cap T) (hb : some b ≠ (Value.slice ad T.length cap).ownBlock) : RwT u (w.setCell ⟨b, k, none⟩ v) b2 ad cap T := ⟨own_setNe v h.o hb, h.l, h.n, h.v⟩
/-- a block of a type -/
def Ty (w : World) (b : Nat) (t : TypeId) : Prop := ∃ cs fz, w.heap[b]? = some (.cells cs t fz)
theorem Ty.off {w w' : World} {b rb : Nat} {t : TypeId} (h : Ty w b t) (o : Off rb w w') (hb : b ≠ rb) : Ty w' b t := by
  obtain ⟨cs, fz, e⟩ := h
  exact ⟨cs, fz, (o.block b (lt_of_block e) hb).trans e⟩
theorem Ty.row {w w' : World} {b base size n : Nat} {e t : TypeId} {v : Value} {xs : List Value} {r : Option Nat} (h : Ty w b t) (g : w.grownBy w' r) (hr : some b ≠ r) (ho : w'.ownsRow base e size v n xs) (ht : t ≠ e) : some b ≠ v.ownBlock := by
  obtain ⟨cs, fz, e1⟩ := h
  intro hb
  rcases ho.2 with ⟨rfl, _⟩ | ⟨g', cap, cur, rfl, _, hh, _⟩
  · cases hb
  · injection hb with hb
    subst hb
    rw [g.block b (lt_of_block e1) hr, e1] at hh
    injection hh with hh
    injection hh with _ hh _
    exact ht hh
theorem Ws.grownD {w w' : World} {b : Nat} {xs : List Value} {row : Option Nat} (h : Ws w b xs) (g : w.grownBy w' row) (hb : some b ≠ row) : Ws w' b xs :=
  ⟨Nat.lt_of_lt_of_le h.lt g.size, fun i v hv => (World.cell?_of_block (w := w) (g.block b h.lt hb)).trans (h.c i v hv), fun o => (World.frozen?_of_block (a := ⟨b, o, none⟩) (g.block b h.lt hb)).trans (h.z o)⟩
set_option maxRecDepth 20000 in
set_option maxHeartbeats 16000000 in
theorem anyWord_any {G : Cd} (B rb p : Nat) (w : World) (h : Rd G B rb p w) (hp : p < 490000) :
    Calls Tryz.prog 53 #[.pointer (some ⟨rb, 0, none⟩)] w (WdPost G B rb 530000 7 w) := by
  have hlt := h.lt
  have hle := h.le
  go_enter Tryz.func53, Tryz.ntmps53
  go_wp2_with fail
  have X0 : Ws (w.alloc (.cells #[.int .i64 0, .int .i64 0, .int .i64 0, .int .i64 0, .int .i64 0, .int .i64 0, .int .i64 0, .int .i64 0, .int .i64 0, .int .i64 0, .slice none 0 0] 35)) w.heap.size zW := Ws.new (heap_alloc_new w (.cells #[.int .i64 0, .int .i64 0, .int .i64 0, .int .i64 0, .int .i64 0, .int .i64 0, .int .i64 0, .int .i64 0, .int .i64 0, .int .i64 0, .slice none 0 0] 35))
  have D0 : Dw G B rb p w (w.alloc (.cells #[.int .i64 0, .int .i64 0, .int .i64 0, .int .i64 0, .int .i64 0, .int .i64 0, .int .i64 0, .int .i64 0, .int .i64 0, .int .i64 0, .slice none 0 0] 35)) w.heap.size := ⟨h.alloc _, (Off.refl rb w).alloc _, X0, by omega, Nat.le_refl _, by omega, hlt⟩
  have T2 : Ty (w.alloc (.cells #[.int .i64 0, .int .i64 0, .int .i64 0, .int .i64 0, .int .i64 0, .int .i64 0, .int .i64 0, .int .i64 0, .int .i64 0, .int .i64 0, .slice none 0 0] 35)) w.heap.size 35 := ⟨_, _, heap_alloc_new w (.cells #[.int .i64 0, .int .i64 0, .int .i64 0, .int .i64 0, .int .i64 0, .int .i64 0, .int .i64 0, .int .i64 0, .int .i64 0, .int .i64 0, .slice none 0 0] 35)⟩
  generalize w.alloc (.cells #[.int .i64 0, .int .i64 0, .int .i64 0, .int .i64 0, .int .i64 0, .int .i64 0, .int .i64 0, .int .i64 0, .int .i64 0, .int .i64 0, .slice none 0 0] 35) = u0 at *
  refine (word_any B rb p _ D0.r hp).mono ?_
  rintro r w1 ⟨vp, vk, vf, vt, vs, vq, vx, vy, vz, ve, ad, cap, T, p1, rfl, hown, hT, hnil, hp1, r1, o1⟩
  have D1 := D0.step r1 o1
  have R1 : RwT w w1 w.heap.size ad cap T := ⟨own_mono D0.o.size hown, hT, own_fresh hown (Or.inl D0.x2.lt), hnil⟩
  replace T2 := T2.off o1 D0.h2
  clear hown r1 o1 D0 X0
  have D2 := D1.alloc (.cells #[.int .i64 vp, .int .i64 vk, .int .i64 vf, .int .i64 vt, .int .i64 vs, .int .i64 vq, .int .i64 vx, .int .i64 vy, .int .i64 vz, .int .i64 ve, .slice ad T.length cap] 35)
  have X2 : Ws (w1.alloc (.cells #[.int .i64 vp, .int .i64 vk, .int .i64 vf, .int .i64 vt, .int .i64 vs, .int .i64 vq, .int .i64 vx, .int .i64 vy, .int .i64 vz, .int .i64 ve, .slice ad T.length cap] 35)) w1.heap.size [.int .i64 vp, .int .i64 vk, .int .i64 vf, .int .i64 vt, .int .i64 vs, .int .i64 vq, .int .i64 vx, .int .i64 vy, .int .i64 vz, .int .i64 ve, .slice ad T.length cap] := Ws.new (heap_alloc_new w1 (.cells #[.int .i64 vp, .int .i64 vk, .int .i64 vf, .int .i64 vt, .int .i64 vs, .int .i64 vq, .int .i64 vx, .int .i64 vy, .int .i64 vz, .int .i64 ve, .slice ad T.length cap] 35))
  have R2 := R1.step ((Off.refl rb w1).alloc (.cells #[.int .i64 vp, .int .i64 vk, .int .i64 vf, .int .i64 vt, .int .i64 vs, .int .i64 vq, .int .i64 vx, .int .i64 vy, .int .i64 vz, .int .i64 ve, .slice ad T.length cap] 35)) D1.hr
  have T3 : Ty (w1.alloc (.cells #[.int .i64 vp, .int .i64 vk, .int .i64 vf, .int .i64 vt, .int .i64 vs, .int .i64 vq, .int .i64 vx, .int .i64 vy, .int .i64 vz, .int .i64 ve, .slice ad T.length cap] 35)) w1.heap.size 35 := ⟨_, _, heap_alloc_new w1 (.cells #[.int .i64 vp, .int .i64 vk, .int .i64 vf, .int .i64 vt, .int .i64 vs, .int .i64 vq, .int .i64 vx, .int .i64 vy, .int .i64 vz, .int .i64 ve, .slice ad T.length cap] 35)⟩
  replace T2 := T2.off ((Off.refl rb w1).alloc (.cells #[.int .i64 vp, .int .i64 vk, .int .i64 vf, .int .i64 vt, .int .i64 vs, .int .i64 vq, .int .i64 vx, .int .i64 vy, .int .i64 vz, .int .i64 ve, .slice ad T.length cap] 35)) D1.h2
  have hn3 := own_fresh R1.o (Or.inr (Nat.le_refl w1.heap.size))
  have h3r : w1.heap.size ≠ rb := by have := D1.r.lt; omega
  have h23 : w.heap.size ≠ w1.heap.size := by have := D1.x2.lt; omega
  have h3u : w.heap.size ≤ w1.heap.size := D1.o.size
  clear R1 D1
  go_upto_region 2 with fail
  generalize w1.alloc (.cells #[.int .i64 vp, .int .i64 vk, .int .i64 vf, .int .i64 vt, .int .i64 vs, .int .i64 vq, .int .i64 vx, .int .i64 vy, .int .i64 vz, .int .i64 ve, .slice ad T.length cap] 35) = u1 at *
  generalize w1.heap.size = b3 at *
  clear w1
  go_wp2_with fail
  refine (pick_any B rb p1 16 _ D2.r (by omega)).mono ?_
  rintro r w2 ⟨rfl, hk, r2, o2'⟩
  have o2 := o2'.off
  have D3 := D2.step r2 o2
  have X3 := X2.off o2 h3r
  have R3 := R2.step o2 D2.hr
  replace T2 := T2.off o2 D2.h2
  replace T3 := T3.off o2 h3r
  generalize G.pk p1 16 = kk at *
  clear D2 X2 R2 r2 o2 o2'
  by_cases e0 : kk = 0
  · subst e0
    go_wp2_with fail
    have o4 : Off rb w2 (w2.alloc (.cells #[.int .i64 (0), .int .i64 7] 3)) := (Off.refl rb w2).alloc _
    have D4 := D3.alloc (.cells #[.int .i64 (0), .int .i64 7] 3)
    have X4 := X3.off o4 h3r
    have R4 := R3.step o4 D3.hr
    have hlt2 : w2.heap.size < (w2.alloc (.cells #[.int .i64 (0), .int .i64 7] 3)).heap.size := lt_of_block (heap_alloc_new w2 _)
    have htw := two w2 (0) 7
    have hsr : w2.heap.size ≠ rb := by have := D3.r.lt; omega
    generalize w2.alloc (.cells #[.int .i64 (0), .int .i64 7] 3) = u4 at *
    generalize w2.heap.size = sl at *
    refine (pick_any B rb (p1 + 1) 2 _ D4.r (by omega)).mono ?_
    rintro r w5 ⟨rfl, hk5, r5, o5'⟩
    have o5 := o5'.off
    have D5 := D4.step r5 o5
    have X5 := X4.off o5 h3r
    have R5 := R4.step o5 D4.hr
    generalize G.pk (p1 + 1) 2 = k5 at *
    obtain ⟨m5, rfl⟩ : ∃ m5 : Nat, k5 = m5 := ⟨k5.toNat, by omega⟩
    have hm5 : m5 < 2 := by omega
    obtain ⟨sv, hsv⟩ := htw m5 hm5
    replace hsv := (o5.cell (p := ⟨sl, m5, none⟩) hlt2 hsr).trans hsv
    have i0 : (0 : Int) ≤ (m5 : Int) := by omega
    have i1 : (m5 : Int) < 2 := by omega
    clear D3 X3 R3 D4 X4 R4 o4 r5 o5 o5' htw hk5
    have d := X5.c 1 _ rfl
    have zz := X5.z 1
    have D6 := D5.set b3 1 (.int .i64 sv) h3r h3u h23
    have X6 := X5.set 1 (by simp) (.int .i64 sv)
    have R6 := R5.far (b := b3) (k := 1) (.int .i64 sv) hn3
    go_upto_region 15 with fail
    clear d zz D5 X5 R5 hsv
    generalize w5.setCell ⟨b3, 1, none⟩ (.int .i64 sv) = u6 at *
    have m0 := X6.c 0 (.int .i64 vp) rfl
    have m1 := X6.c 1 (.int .i64 sv) rfl
    have m2 := X6.c 2 (.int .i64 vf) rfl
    have m3 := X6.c 3 (.int .i64 vt) rfl
    have m4 := X6.c 4 (.int .i64 vs) rfl
    have m5 := X6.c 5 (.int .i64 vq) rfl
    have m6 := X6.c 6 (.int .i64 vx) rfl
    have m7 := X6.c 7 (.int .i64 vy) rfl
    have m8 := X6.c 8 (.int .i64 vz) rfl
    have m9 := X6.c 9 (.int .i64 ve) rfl
    have m10 := X6.c 10 (.slice ad T.length cap) rfl
    have d0 := D6.x2.c 0 _ rfl
    have z0 := D6.x2.z 0
    have d1 := D6.x2.c 1 _ rfl
    have z1 := D6.x2.z 1
    have d2 := D6.x2.c 2 _ rfl
    have z2 := D6.x2.z 2
    have d3 := D6.x2.c 3 _ rfl
    have z3 := D6.x2.z 3
    have d4 := D6.x2.c 4 _ rfl
    have z4 := D6.x2.z 4
    have d5 := D6.x2.c 5 _ rfl
    have z5 := D6.x2.z 5
    have d6 := D6.x2.c 6 _ rfl
    have z6 := D6.x2.z 6
    have d7 := D6.x2.c 7 _ rfl
    have z7 := D6.x2.z 7
    have d8 := D6.x2.c 8 _ rfl
    have z8 := D6.x2.z 8
    have d9 := D6.x2.c 9 _ rfl
    have z9 := D6.x2.z 9
    have d10 := D6.x2.c 10 _ rfl
    have z10 := D6.x2.z 10
    have Y : Ws _ w.heap.size [.int .i64 vp, .int .i64 sv, .int .i64 vf, .int .i64 vt, .int .i64 vs, .int .i64 vq, .int .i64 vx, .int .i64 vy, .int .i64 vz, .int .i64 ve, .slice ad T.length cap] := (((((((((((D6.x2.set 0 (by simp [zW]) (.int .i64 vp)).set 1 (by simp [zW]) (.int .i64 sv)).set 2 (by simp [zW]) (.int .i64 vf)).set 3 (by simp [zW]) (.int .i64 vt)).set 4 (by simp [zW]) (.int .i64 vs)).set 5 (by simp [zW]) (.int .i64 vq)).set 6 (by simp [zW]) (.int .i64 vx)).set 7 (by simp [zW]) (.int .i64 vy)).set 8 (by simp [zW]) (.int .i64 vz)).set 9 (by simp [zW]) (.int .i64 ve)).set 10 (by simp [zW]) (.slice ad T.length cap))
    have rY := (((((((((((D6.r.set w.heap.size 0 (.int .i64 vp) D6.h2 D6.hB).set w.heap.size 1 (.int .i64 sv) D6.h2 D6.hB).set w.heap.size 2 (.int .i64 vf) D6.h2 D6.hB).set w.heap.size 3 (.int .i64 vt) D6.h2 D6.hB).set w.heap.size 4 (.int .i64 vs) D6.h2 D6.hB).set w.heap.size 5 (.int .i64 vq) D6.h2 D6.hB).set w.heap.size 6 (.int .i64 vx) D6.h2 D6.hB).set w.heap.size 7 (.int .i64 vy) D6.h2 D6.hB).set w.heap.size 8 (.int .i64 vz) D6.h2 D6.hB).set w.heap.size 9 (.int .i64 ve) D6.h2 D6.hB).set w.heap.size 10 (.slice ad T.length cap) D6.h2 D6.hB)
    have oY := (((((((((((D6.o.set w.heap.size 0 (.int .i64 vp) (Nat.le_refl _)).set w.heap.size 1 (.int .i64 sv) (Nat.le_refl _)).set w.heap.size 2 (.int .i64 vf) (Nat.le_refl _)).set w.heap.size 3 (.int .i64 vt) (Nat.le_refl _)).set w.heap.size 4 (.int .i64 vs) (Nat.le_refl _)).set w.heap.size 5 (.int .i64 vq) (Nat.le_refl _)).set w.heap.size 6 (.int .i64 vx) (Nat.le_refl _)).set w.heap.size 7 (.int .i64 vy) (Nat.le_refl _)).set w.heap.size 8 (.int .i64 vz) (Nat.le_refl _)).set w.heap.size 9 (.int .i64 ve) (Nat.le_refl _)).set w.heap.size 10 (.slice ad T.length cap) (Nat.le_refl _))
    have owY := (own_setNe (b := w.heap.size) (k := 10) (.slice ad T.length cap) (own_setNe (b := w.heap.size) (k := 9) (.int .i64 ve) (own_setNe (b := w.heap.size) (k := 8) (.int .i64 vz) (own_setNe (b := w.heap.size) (k := 7) (.int .i64 vy) (own_setNe (b := w.heap.size) (k := 6) (.int .i64 vx) (own_setNe (b := w.heap.size) (k := 5) (.int .i64 vq) (own_setNe (b := w.heap.size) (k := 4) (.int .i64 vs) (own_setNe (b := w.heap.size) (k := 3) (.int .i64 vt) (own_setNe (b := w.heap.size) (k := 2) (.int .i64 vf) (own_setNe (b := w.heap.size) (k := 1) (.int .i64 sv) (own_setNe (b := w.heap.size) (k := 0) (.int .i64 vp) R6.o R6.n) R6.n) R6.n) R6.n) R6.n) R6.n) R6.n) R6.n) R6.n) R6.n) R6.n)
    go_wp2
    clear d0 d1 d2 d3 d4 d5 d6 d7 d8 d9 d10
    generalize (((((((((((u6.setCell ⟨w.heap.size, 0, none⟩ (.int .i64 vp)).setCell ⟨w.heap.size, 1, none⟩ (.int .i64 sv)).setCell ⟨w.heap.size, 2, none⟩ (.int .i64 vf)).setCell ⟨w.heap.size, 3, none⟩ (.int .i64 vt)).setCell ⟨w.heap.size, 4, none⟩ (.int .i64 vs)).setCell ⟨w.heap.size, 5, none⟩ (.int .i64 vq)).setCell ⟨w.heap.size, 6, none⟩ (.int .i64 vx)).setCell ⟨w.heap.size, 7, none⟩ (.int .i64 vy)).setCell ⟨w.heap.size, 8, none⟩ (.int .i64 vz)).setCell ⟨w.heap.size, 9, none⟩ (.int .i64 ve)).setCell ⟨w.heap.size, 10, none⟩ (.slice ad T.length cap)) = w9 at *
    have d0 := Y.c 0 (.int .i64 vp) rfl
    have d1 := Y.c 1 (.int .i64 sv) rfl
    have d2 := Y.c 2 (.int .i64 vf) rfl
    have d3 := Y.c 3 (.int .i64 vt) rfl
    have d4 := Y.c 4 (.int .i64 vs) rfl
    have d5 := Y.c 5 (.int .i64 vq) rfl
    have d6 := Y.c 6 (.int .i64 vx) rfl
    have d7 := Y.c 7 (.int .i64 vy) rfl
    have d8 := Y.c 8 (.int .i64 vz) rfl
    have d9 := Y.c 9 (.int .i64 ve) rfl
    have d10 := Y.c 10 (.slice ad T.length cap) rfl
    exact bodyPost_ret (v := .agg #[.int .i64 vp, .int .i64 sv, .int .i64 vf, .int .i64 vt, .int .i64 vs, .int .i64 vq, .int .i64 vx, .int .i64 vy, .int .i64 vz, .int .i64 ve, .slice ad T.length cap]) (by simp [results, Tryz.results53, go_sem, d0, d1, d2, d3, d4, d5, d6, d7, d8, d9, d10]) rfl ⟨vp, sv, vf, vt, vs, vq, vx, vy, vz, ve, ad, cap, T, _, rfl, owY, Nat.le_succ_of_le R6.l, R6.v, (by omega), rY, oY⟩
  by_cases e1 : kk = 1
  · subst e1
    go_wp2_with fail
    refine (pick_any B rb (p1 + 1) 4 _ D3.r (by omega)).mono ?_
    rintro r w5 ⟨rfl, hk5, r5, o5'⟩
    have o5 := o5'.off
    have D5 := D3.step r5 o5
    have X5 := X3.off o5 h3r
    have R5 := R3.step o5 D3.hr
    generalize G.pk (p1 + 1) 4 = sv at *
    clear D3 X3 R3 r5 o5 o5' hk5
    have d := X5.c 0 _ rfl
    have zz := X5.z 0
    have D6 := D5.set b3 0 (.int .i64 sv) h3r h3u h23
    have X6 := X5.set 0 (by simp) (.int .i64 sv)
    have R6 := R5.far (b := b3) (k := 0) (.int .i64 sv) hn3
    go_upto_region 15 with fail
    clear d zz D5 X5 R5
    generalize w5.setCell ⟨b3, 0, none⟩ (.int .i64 sv) = u6 at *
    have m0 := X6.c 0 (.int .i64 sv) rfl
    have m1 := X6.c 1 (.int .i64 vk) rfl
    have m2 := X6.c 2 (.int .i64 vf) rfl
    have m3 := X6.c 3 (.int .i64 vt) rfl
    have m4 := X6.c 4 (.int .i64 vs) rfl
    have m5 := X6.c 5 (.int .i64 vq) rfl
    have m6 := X6.c 6 (.int .i64 vx) rfl
    have m7 := X6.c 7 (.int .i64 vy) rfl
    have m8 := X6.c 8 (.int .i64 vz) rfl
    have m9 := X6.c 9 (.int .i64 ve) rfl
    have m10 := X6.c 10 (.slice ad T.length cap) rfl
    have d0 := D6.x2.c 0 _ rfl
    have z0 := D6.x2.z 0
    have d1 := D6.x2.c 1 _ rfl
    have z1 := D6.x2.z 1
    have d2 := D6.x2.c 2 _ rfl
    have z2 := D6.x2.z 2
    have d3 := D6.x2.c 3 _ rfl
    have z3 := D6.x2.z 3
    have d4 := D6.x2.c 4 _ rfl
    have z4 := D6.x2.z 4
    have d5 := D6.x2.c 5 _ rfl
    have z5 := D6.x2.z 5
    have d6 := D6.x2.c 6 _ rfl
    have z6 := D6.x2.z 6
    have d7 := D6.x2.c 7 _ rfl
    have z7 := D6.x2.z 7
    have d8 := D6.x2.c 8 _ rfl
    have z8 := D6.x2.z 8
    have d9 := D6.x2.c 9 _ rfl
    have z9 := D6.x2.z 9
    have d10 := D6.x2.c 10 _ rfl
    have z10 := D6.x2.z 10
    have Y : Ws _ w.heap.size [.int .i64 sv, .int .i64 vk, .int .i64 vf, .int .i64 vt, .int .i64 vs, .int .i64 vq, .int .i64 vx, .int .i64 vy, .int .i64 vz, .int .i64 ve, .slice ad T.length cap] := (((((((((((D6.x2.set 0 (by simp [zW]) (.int .i64 sv)).set 1 (by simp [zW]) (.int .i64 vk)).set 2 (by simp [zW]) (.int .i64 vf)).set 3 (by simp [zW]) (.int .i64 vt)).set 4 (by simp [zW]) (.int .i64 vs)).set 5 (by simp [zW]) (.int .i64 vq)).set 6 (by simp [zW]) (.int .i64 vx)).set 7 (by simp [zW]) (.int .i64 vy)).set 8 (by simp [zW]) (.int .i64 vz)).set 9 (by simp [zW]) (.int .i64 ve)).set 10 (by simp [zW]) (.slice ad T.length cap))
    have rY := (((((((((((D6.r.set w.heap.size 0 (.int .i64 sv) D6.h2 D6.hB).set w.heap.size 1 (.int .i64 vk) D6.h2 D6.hB).set w.heap.size 2 (.int .i64 vf) D6.h2 D6.hB).set w.heap.size 3 (.int .i64 vt) D6.h2 D6.hB).set w.heap.size 4 (.int .i64 vs) D6.h2 D6.hB).set w.heap.size 5 (.int .i64 vq) D6.h2 D6.hB).set w.heap.size 6 (.int .i64 vx) D6.h2 D6.hB).set w.heap.size 7 (.int .i64 vy) D6.h2 D6.hB).set w.heap.size 8 (.int .i64 vz) D6.h2 D6.hB).set w.heap.size 9 (.int .i64 ve) D6.h2 D6.hB).set w.heap.size 10 (.slice ad T.length cap) D6.h2 D6.hB)
    have oY := (((((((((((D6.o.set w.heap.size 0 (.int .i64 sv) (Nat.le_refl _)).set w.heap.size 1 (.int .i64 vk) (Nat.le_refl _)).set w.heap.size 2 (.int .i64 vf) (Nat.le_refl _)).set w.heap.size 3 (.int .i64 vt) (Nat.le_refl _)).set w.heap.size 4 (.int .i64 vs) (Nat.le_refl _)).set w.heap.size 5 (.int .i64 vq) (Nat.le_refl _)).set w.heap.size 6 (.int .i64 vx) (Nat.le_refl _)).set w.heap.size 7 (.int .i64 vy) (Nat.le_refl _)).set w.heap.size 8 (.int .i64 vz) (Nat.le_refl _)).set w.heap.size 9 (.int .i64 ve) (Nat.le_refl _)).set w.heap.size 10 (.slice ad T.length cap) (Nat.le_refl _))
    have owY := (own_setNe (b := w.heap.size) (k := 10) (.slice ad T.length cap) (own_setNe (b := w.heap.size) (k := 9) (.int .i64 ve) (own_setNe (b := w.heap.size) (k := 8) (.int .i64 vz) (own_setNe (b := w.heap.size) (k := 7) (.int .i64 vy) (own_setNe (b := w.heap.size) (k := 6) (.int .i64 vx) (own_setNe (b := w.heap.size) (k := 5) (.int .i64 vq) (own_setNe (b := w.heap.size) (k := 4) (.int .i64 vs) (own_setNe (b := w.heap.size) (k := 3) (.int .i64 vt) (own_setNe (b := w.heap.size) (k := 2) (.int .i64 vf) (own_setNe (b := w.heap.size) (k := 1) (.int .i64 vk) (own_setNe (b := w.heap.size) (k := 0) (.int .i64 sv) R6.o R6.n) R6.n) R6.n) R6.n) R6.n) R6.n) R6.n) R6.n) R6.n) R6.n) R6.n)
    go_wp2
    clear d0 d1 d2 d3 d4 d5 d6 d7 d8 d9 d10
    generalize (((((((((((u6.setCell ⟨w.heap.size, 0, none⟩ (.int .i64 sv)).setCell ⟨w.heap.size, 1, none⟩ (.int .i64 vk)).setCell ⟨w.heap.size, 2, none⟩ (.int .i64 vf)).setCell ⟨w.heap.size, 3, none⟩ (.int .i64 vt)).setCell ⟨w.heap.size, 4, none⟩ (.int .i64 vs)).setCell ⟨w.heap.size, 5, none⟩ (.int .i64 vq)).setCell ⟨w.heap.size, 6, none⟩ (.int .i64 vx)).setCell ⟨w.heap.size, 7, none⟩ (.int .i64 vy)).setCell ⟨w.heap.size, 8, none⟩ (.int .i64 vz)).setCell ⟨w.heap.size, 9, none⟩ (.int .i64 ve)).setCell ⟨w.heap.size, 10, none⟩ (.slice ad T.length cap)) = w9 at *
    have d0 := Y.c 0 (.int .i64 sv) rfl
    have d1 := Y.c 1 (.int .i64 vk) rfl
    have d2 := Y.c 2 (.int .i64 vf) rfl
    have d3 := Y.c 3 (.int .i64 vt) rfl
    have d4 := Y.c 4 (.int .i64 vs) rfl
    have d5 := Y.c 5 (.int .i64 vq) rfl
    have d6 := Y.c 6 (.int .i64 vx) rfl
    have d7 := Y.c 7 (.int .i64 vy) rfl
    have d8 := Y.c 8 (.int .i64 vz) rfl
    have d9 := Y.c 9 (.int .i64 ve) rfl
    have d10 := Y.c 10 (.slice ad T.length cap) rfl
    exact bodyPost_ret (v := .agg #[.int .i64 sv, .int .i64 vk, .int .i64 vf, .int .i64 vt, .int .i64 vs, .int .i64 vq, .int .i64 vx, .int .i64 vy, .int .i64 vz, .int .i64 ve, .slice ad T.length cap]) (by simp [results, Tryz.results53, go_sem, d0, d1, d2, d3, d4, d5, d6, d7, d8, d9, d10]) rfl ⟨sv, vk, vf, vt, vs, vq, vx, vy, vz, ve, ad, cap, T, _, rfl, owY, Nat.le_succ_of_le R6.l, R6.v, (by omega), rY, oY⟩
  by_cases e2 : kk = 2
  · subst e2
    go_wp2_with fail
    refine (any_any B rb (p1 + 1) _ D3.r (by omega)).mono ?_
    rintro r w5 ⟨cx, cy, cz, ce, p5, rfl, hp5, r5, o5⟩
    have D5 := D3.step r5 o5
    have X5 := X3.off o5 h3r
    have R5 := R3.step o5 D3.hr
    clear D3 X3 R3 r5 o5
    have d6 := X5.c 6 _ rfl
    have d7 := X5.c 7 _ rfl
    have d8 := X5.c 8 _ rfl
    have d9 := X5.c 9 _ rfl
    have z6 := X5.z 6
    have z7 := X5.z 7
    have z8 := X5.z 8
    have z9 := X5.z 9
    have D6 := ((((D5.set b3 6 (.int .i64 cx) h3r h3u h23).set b3 7 (.int .i64 cy) h3r h3u h23).set b3 8 (.int .i64 cz) h3r h3u h23).set b3 9 (.int .i64 ce) h3r h3u h23)
    have X6 := ((((X5.set 6 (by simp) (.int .i64 cx)).set 7 (by simp) (.int .i64 cy)).set 8 (by simp) (.int .i64 cz)).set 9 (by simp) (.int .i64 ce))
    have R6 := ((((R5.far (b := b3) (k := 6) (.int .i64 cx) hn3).far (b := b3) (k := 7) (.int .i64 cy) hn3).far (b := b3) (k := 8) (.int .i64 cz) hn3).far (b := b3) (k := 9) (.int .i64 ce) hn3)
    go_upto_region 15 with fail
    clear d6 d7 d8 d9 z6 z7 z8 z9 D5 X5 R5
    generalize ((((w5.setCell ⟨b3, 6, none⟩ (.int .i64 cx)).setCell ⟨b3, 7, none⟩ (.int .i64 cy)).setCell ⟨b3, 8, none⟩ (.int .i64 cz)).setCell ⟨b3, 9, none⟩ (.int .i64 ce)) = u6 at *
    have m0 := X6.c 0 (.int .i64 vp) rfl
    have m1 := X6.c 1 (.int .i64 vk) rfl
    have m2 := X6.c 2 (.int .i64 vf) rfl
    have m3 := X6.c 3 (.int .i64 vt) rfl
    have m4 := X6.c 4 (.int .i64 vs) rfl
    have m5 := X6.c 5 (.int .i64 vq) rfl
    have m6 := X6.c 6 (.int .i64 cx) rfl
    have m7 := X6.c 7 (.int .i64 cy) rfl
    have m8 := X6.c 8 (.int .i64 cz) rfl
    have m9 := X6.c 9 (.int .i64 ce) rfl
    have m10 := X6.c 10 (.slice ad T.length cap) rfl
    have d0 := D6.x2.c 0 _ rfl
    have z0 := D6.x2.z 0
    have d1 := D6.x2.c 1 _ rfl
    have z1 := D6.x2.z 1
    have d2 := D6.x2.c 2 _ rfl
    have z2 := D6.x2.z 2
    have d3 := D6.x2.c 3 _ rfl
    have z3 := D6.x2.z 3
    have d4 := D6.x2.c 4 _ rfl
    have z4 := D6.x2.z 4
    have d5 := D6.x2.c 5 _ rfl
    have z5 := D6.x2.z 5
    have d6 := D6.x2.c 6 _ rfl
    have z6 := D6.x2.z 6
    have d7 := D6.x2.c 7 _ rfl
    have z7 := D6.x2.z 7
    have d8 := D6.x2.c 8 _ rfl
    have z8 := D6.x2.z 8
    have d9 := D6.x2.c 9 _ rfl
    have z9 := D6.x2.z 9
    have d10 := D6.x2.c 10 _ rfl
    have z10 := D6.x2.z 10
    have Y : Ws _ w.heap.size [.int .i64 vp, .int .i64 vk, .int .i64 vf, .int .i64 vt, .int .i64 vs, .int .i64 vq, .int .i64 cx, .int .i64 cy, .int .i64 cz, .int .i64 ce, .slice ad T.length cap] := (((((((((((D6.x2.set 0 (by simp [zW]) (.int .i64 vp)).set 1 (by simp [zW]) (.int .i64 vk)).set 2 (by simp [zW]) (.int .i64 vf)).set 3 (by simp [zW]) (.int .i64 vt)).set 4 (by simp [zW]) (.int .i64 vs)).set 5 (by simp [zW]) (.int .i64 vq)).set 6 (by simp [zW]) (.int .i64 cx)).set 7 (by simp [zW]) (.int .i64 cy)).set 8 (by simp [zW]) (.int .i64 cz)).set 9 (by simp [zW]) (.int .i64 ce)).set 10 (by simp [zW]) (.slice ad T.length cap))
    have rY := (((((((((((D6.r.set w.heap.size 0 (.int .i64 vp) D6.h2 D6.hB).set w.heap.size 1 (.int .i64 vk) D6.h2 D6.hB).set w.heap.size 2 (.int .i64 vf) D6.h2 D6.hB).set w.heap.size 3 (.int .i64 vt) D6.h2 D6.hB).set w.heap.size 4 (.int .i64 vs) D6.h2 D6.hB).set w.heap.size 5 (.int .i64 vq) D6.h2 D6.hB).set w.heap.size 6 (.int .i64 cx) D6.h2 D6.hB).set w.heap.size 7 (.int .i64 cy) D6.h2 D6.hB).set w.heap.size 8 (.int .i64 cz) D6.h2 D6.hB).set w.heap.size 9 (.int .i64 ce) D6.h2 D6.hB).set w.heap.size 10 (.slice ad T.length cap) D6.h2 D6.hB)
    have oY := (((((((((((D6.o.set w.heap.size 0 (.int .i64 vp) (Nat.le_refl _)).set w.heap.size 1 (.int .i64 vk) (Nat.le_refl _)).set w.heap.size 2 (.int .i64 vf) (Nat.le_refl _)).set w.heap.size 3 (.int .i64 vt) (Nat.le_refl _)).set w.heap.size 4 (.int .i64 vs) (Nat.le_refl _)).set w.heap.size 5 (.int .i64 vq) (Nat.le_refl _)).set w.heap.size 6 (.int .i64 cx) (Nat.le_refl _)).set w.heap.size 7 (.int .i64 cy) (Nat.le_refl _)).set w.heap.size 8 (.int .i64 cz) (Nat.le_refl _)).set w.heap.size 9 (.int .i64 ce) (Nat.le_refl _)).set w.heap.size 10 (.slice ad T.length cap) (Nat.le_refl _))
    have owY := (own_setNe (b := w.heap.size) (k := 10) (.slice ad T.length cap) (own_setNe (b := w.heap.size) (k := 9) (.int .i64 ce) (own_setNe (b := w.heap.size) (k := 8) (.int .i64 cz) (own_setNe (b := w.heap.size) (k := 7) (.int .i64 cy) (own_setNe (b := w.heap.size) (k := 6) (.int .i64 cx) (own_setNe (b := w.heap.size) (k := 5) (.int .i64 vq) (own_setNe (b := w.heap.size) (k := 4) (.int .i64 vs) (own_setNe (b := w.heap.size) (k := 3) (.int .i64 vt) (own_setNe (b := w.heap.size) (k := 2) (.int .i64 vf) (own_setNe (b := w.heap.size) (k := 1) (.int .i64 vk) (own_setNe (b := w.heap.size) (k := 0) (.int .i64 vp) R6.o R6.n) R6.n) R6.n) R6.n) R6.n) R6.n) R6.n) R6.n) R6.n) R6.n) R6.n)
    go_wp2
    clear d0 d1 d2 d3 d4 d5 d6 d7 d8 d9 d10
    generalize (((((((((((u6.setCell ⟨w.heap.size, 0, none⟩ (.int .i64 vp)).setCell ⟨w.heap.size, 1, none⟩ (.int .i64 vk)).setCell ⟨w.heap.size, 2, none⟩ (.int .i64 vf)).setCell ⟨w.heap.size, 3, none⟩ (.int .i64 vt)).setCell ⟨w.heap.size, 4, none⟩ (.int .i64 vs)).setCell ⟨w.heap.size, 5, none⟩ (.int .i64 vq)).setCell ⟨w.heap.size, 6, none⟩ (.int .i64 cx)).setCell ⟨w.heap.size, 7, none⟩ (.int .i64 cy)).setCell ⟨w.heap.size, 8, none⟩ (.int .i64 cz)).setCell ⟨w.heap.size, 9, none⟩ (.int .i64 ce)).setCell ⟨w.heap.size, 10, none⟩ (.slice ad T.length cap)) = w9 at *
    have d0 := Y.c 0 (.int .i64 vp) rfl
    have d1 := Y.c 1 (.int .i64 vk) rfl
    have d2 := Y.c 2 (.int .i64 vf) rfl
    have d3 := Y.c 3 (.int .i64 vt) rfl
    have d4 := Y.c 4 (.int .i64 vs) rfl
    have d5 := Y.c 5 (.int .i64 vq) rfl
    have d6 := Y.c 6 (.int .i64 cx) rfl
    have d7 := Y.c 7 (.int .i64 cy) rfl
    have d8 := Y.c 8 (.int .i64 cz) rfl
    have d9 := Y.c 9 (.int .i64 ce) rfl
    have d10 := Y.c 10 (.slice ad T.length cap) rfl
    exact bodyPost_ret (v := .agg #[.int .i64 vp, .int .i64 vk, .int .i64 vf, .int .i64 vt, .int .i64 vs, .int .i64 vq, .int .i64 cx, .int .i64 cy, .int .i64 cz, .int .i64 ce, .slice ad T.length cap]) (by simp [results, Tryz.results53, go_sem, d0, d1, d2, d3, d4, d5, d6, d7, d8, d9, d10]) rfl ⟨vp, vk, vf, vt, vs, vq, cx, cy, cz, ce, ad, cap, T, _, rfl, owY, Nat.le_succ_of_le R6.l, R6.v, (by omega), rY, oY⟩
  by_cases e3 : kk = 3
  · subst e3
    go_upto_region 10 with fail
    have XD := X3.off (Off.refl rb w2).drew h3r
    have DD := D3.step D3.r.drew (Off.refl rb w2).drew
    have RD := R3.step (Off.refl rb w2).drew D3.hr
    refine wp_region_held_drew (S := fun _ => True) (by kernel_rfl) trivial (fun hHeld => ?_)
    refine wpAnyH_take (i := 0) (oi := { dst := some 28, op := .fieldAddr 35 (.tmp 3) 7, type := 0, pos := "l61_draw.go:307", after := #[], guard := none }) (v := ?_) rfl (by kernel_rfl) (by kernel_rfl) (by kernel_rfl) (fun _ _ _ h => h) (Or.inl ⟨by rfl, ?_⟩) (by assumption) ?_
    rotate_left 1
    · (intro w hSw; (try dsimp only at hSw); go_simp; try with_reducible rfl)
    (try simp only [Act.put, List.setIfInBounds_toArray, List.set_cons_zero, List.set_cons_succ])
    refine wpAnyH_take (i := 2) (oi := { dst := some 30, op := .move (.tmp 0), type := 44, pos := "l61_draw.go:307", after := #[], guard := none }) (v := ?_) rfl (by kernel_rfl) (by kernel_rfl) (by kernel_rfl) (fun _ _ _ h => h) (Or.inl ⟨by rfl, ?_⟩) (by assumption) ?_
    rotate_left 1
    · (intro w hSw; (try dsimp only at hSw); go_simp; try with_reducible rfl)
    (try simp only [Act.put, List.setIfInBounds_toArray, List.set_cons_zero, List.set_cons_succ])
    refine wpAnyH_ready (rs := [1, 3]) (by kernel_rfl) (by simp) ?_
    refine (AllReadyH.cons (o := { dst := some 29, op := .load 24 (.tmp 28), type := 24, pos := "l61_draw.go:307", after := #[{ on := 0, ground := .data }], guard := none }) rfl (fun K hK => ?_) (AllReadyH.cons (o := { dst := some 31, op := .call { callee := .value (.func 80), args := #[.tmp 30], argTypes := #[44] }, type := 53, pos := "l61_draw.go:307", after := #[{ on := 2, ground := .data }], guard := none }) rfl (fun K hK => ?_) AllReadyH.nil))
    · have q10 := XD.c 10 (.slice ad T.length cap) rfl
      go_simp
      refine hK.out _ _ trivial (fun hHeld => ?_)
      clear hK K
      (try simp only [List.setIfInBounds_toArray, List.set_cons_zero, List.set_cons_succ])
      clear q10
      refine wpAnyH_ready (rs := [3]) (by kernel_rfl) (by simp) ?_
      refine (AllReadyH.cons (o := { dst := some 31, op := .call { callee := .value (.func 80), args := #[.tmp 30], argTypes := #[44] }, type := 53, pos := "l61_draw.go:307", after := #[{ on := 2, ground := .data }], guard := none }) rfl (fun K hK => ?_) AllReadyH.nil)
      go_simp
      refine (anyFact_any B rb (p1 + 1) _ DD.r (by omega)).mono ?_; rintro r w5 ⟨fn, fi, fs, fg, p5, rfl, hp5, r5, o5⟩
      have D5 := DD.step r5 o5
      have X5 := XD.off o5 h3r
      have R5 := RD.step o5 DD.hr
      go_wp2_with fail
      refine hK.out _ _ trivial (fun hHeld => ?_)
      clear hK K
      (try simp only [List.setIfInBounds_toArray, List.set_cons_zero, List.set_cons_succ])
      refine wpAnyH_ready (rs := [4]) (by kernel_rfl) (by simp) ?_
      refine (AllReadyH.cons (o := { dst := some 32, op := .buildSlice 24 1 #[(0, .tmp 31)], type := 24, pos := "l61_draw.go:307", after := #[{ on := 3, ground := .data }], guard := none }) rfl (fun K hK => ?_) AllReadyH.nil)
      go_simp
      have o6 : Off rb w5 (w5.alloc (.cells #[.int .i64 fn, .int .i64 fi, .int .i64 fs, .bool fg] 53)) := (Off.refl rb w5).alloc _
      have D6 := D5.alloc (.cells #[.int .i64 fn, .int .i64 fi, .int .i64 fs, .bool fg] 53)
      have X6 := X5.off o6 h3r
      have R6 := R5.step o6 D5.hr
      have cX : FactsIn (w5.alloc (.cells #[.int .i64 fn, .int .i64 fi, .int .i64 fs, .bool fg] 53)) w5.heap.size 0 1 (fun j => [(⟨fn, fi, fs, fg⟩ : Fc)].getD j Fc.zero) := new_one w5 ⟨fn, fi, fs, fg⟩
      refine hK.out _ _ trivial (fun hHeld => ?_)
      clear hK K
      (try simp only [List.setIfInBounds_toArray, List.set_cons_zero, List.set_cons_succ])
      generalize w5.alloc (.cells #[.int .i64 fn, .int .i64 fi, .int .i64 fs, .bool fg] 53) = u6 at *
      generalize w5.heap.size = fb at *
      refine wpAnyH_ready (rs := [5]) (by kernel_rfl) (by simp) ?_
      refine (AllReadyH.cons (o := { dst := some 33, op := .call { callee := .builtin .append, args := #[.tmp 29, .tmp 32], argTypes := #[24, 24] }, type := 24, pos := "l61_draw.go:307", after := #[{ on := 1, ground := .data }, { on := 4, ground := .data }, { on := 3, ground := .chain }], guard := none }) rfl (fun K hK => ?_) AllReadyH.nil)
      refine step_appF (by rfl) _ _ (by rfl) w.heap.size (.slice ad T.length cap) T.length T (by rfl) R6.v R6.o (some ⟨fb, 0, none⟩) fb 0 rfl 1 1 [⟨fn, fi, fs, fg⟩] (by rfl) rfl cX (T.length + 1) rfl (by have := R6.l; omega) D6.o.size ?_
      intro g8 c8 u8 oR8 gr8 hc8
      have hal : ∀ k, (Value.slice ad T.length cap).ownBlock = some k → B ≤ k ∧ k ≠ rb := fun k hk => by have := (R6.o.lt k hk).1; have := D6.hB; have := D6.hr; omega
      have T36 := ((T3.off (Off.refl rb w2).drew h3r).off o5 h3r).off o6 h3r
      have T26 := ((T2.off (Off.refl rb w2).drew D3.h2).off o5 D3.h2).off o6 D3.h2
      have D8 : Dw G B rb p5 w u8 w.heap.size := ⟨rd_grown D6.r gr8 hal, off_grown D6.o gr8 (fun k hk => (R6.o.lt k hk).1), D6.x2.grownD gr8 R6.n, D6.h2, D6.hu2, D6.hB, D6.hr⟩
      have X8 := X6.grownD gr8 hn3
      have n38 := T36.row gr8 hn3 oR8 (by decide)
      have n28 := T26.row gr8 R6.n oR8 (by decide)
      have hl8 : T.length + 1 = (T ++ [(⟨fn, fi, fs, fg⟩ : Fc)]).length := by simp
      have hl7 := R6.l
      rw [hl8] at oR8 n38 n28 hc8 ⊢
      have hle8 : (T ++ [(⟨fn, fi, fs, fg⟩ : Fc)]).length ≤ 7 := by rw [← hl8]; omega
      clear hl8
      generalize T ++ [(⟨fn, fi, fs, fg⟩ : Fc)] = T8 at *
      refine hK.out _ _ trivial (fun hHeld => ?_)
      clear hK K
      (try simp only [Act.put, List.setIfInBounds_toArray, List.set_cons_zero, List.set_cons_succ])
      refine wpAnyH_take (i := 6) (oi := { dst := some 34, op := .fieldAddr 35 (.tmp 3) 7, type := 0, pos := "l61_draw.go:307", after := #[{ on := 0, ground := .phase }, { on := 1, ground := .phase }, { on := 2, ground := .phase }, { on := 3, ground := .phase }, { on := 4, ground := .phase }, { on := 5, ground := .phase }], guard := none }) (v := ?_) rfl (by kernel_rfl) (by kernel_rfl) (by kernel_rfl) (fun _ _ _ h => h) (Or.inl ⟨by rfl, ?_⟩) (by assumption) ?_
      rotate_left 1
      · (intro w hSw; (try dsimp only at hSw); go_simp; try with_reducible rfl)
      (try simp only [Act.put, List.setIfInBounds_toArray, List.set_cons_zero, List.set_cons_succ])
      have d := X8.c 10 _ rfl
      have zz := X8.z 10
      have D9 := D8.set b3 10 (.slice (some ⟨g8, 0, none⟩) T8.length c8) h3r h3u h23
      have X9 := X8.set 10 (by simp) (.slice (some ⟨g8, 0, none⟩) T8.length c8)
      have o9 := own_setNe (b := b3) (k := 10) (.slice (some ⟨g8, 0, none⟩) T8.length c8) oR8 n38
      refine wpAnyH_ready (rs := [7]) (by kernel_rfl) (by simp) ?_
      refine (AllReadyH.cons (o := { dst := none, op := .store 24 (.tmp 34) (.tmp 33), type := 0, pos := "l61_draw.go:307", after := #[{ on := 6, ground := .data }, { on := 5, ground := .data }, { on := 5, ground := .chain }, { on := 0, ground := .phase }, { on := 1, ground := .phase }, { on := 2, ground := .phase }, { on := 3, ground := .phase }, { on := 4, ground := .phase }, { on := 5, ground := .phase }], guard := none }) rfl (fun K hK => ?_) AllReadyH.nil)
      go_simp
      clear d zz
      generalize u8.setCell ⟨b3, 10, none⟩ (.slice (some ⟨g8, 0, none⟩) T8.length c8) = u9 at *
      refine hK.out _ _ trivial (fun hHeld => ?_)
      clear hK K
      (try simp only [List.setIfInBounds_toArray, List.set_cons_zero, List.set_cons_succ])
      refine wpAnyH_done (by kernel_rfl) ?_ _
      clear hHeld
      have n9 : Value.slice (some ⟨g8, 0, none⟩) T8.length c8 ≠ .slice none 0 0 := by simp
      go_upto_region 15 with fail
      have m0 := X9.c 0 (.int .i64 vp) rfl
      have m1 := X9.c 1 (.int .i64 vk) rfl
      have m2 := X9.c 2 (.int .i64 vf) rfl
      have m3 := X9.c 3 (.int .i64 vt) rfl
      have m4 := X9.c 4 (.int .i64 vs) rfl
      have m5 := X9.c 5 (.int .i64 vq) rfl
      have m6 := X9.c 6 (.int .i64 vx) rfl
      have m7 := X9.c 7 (.int .i64 vy) rfl
      have m8 := X9.c 8 (.int .i64 vz) rfl
      have m9 := X9.c 9 (.int .i64 ve) rfl
      have m10 := X9.c 10 (.slice (some ⟨g8, 0, none⟩) T8.length c8) rfl
      have d0 := D9.x2.c 0 _ rfl
      have z0 := D9.x2.z 0
      have d1 := D9.x2.c 1 _ rfl
      have z1 := D9.x2.z 1
      have d2 := D9.x2.c 2 _ rfl
      have z2 := D9.x2.z 2
      have d3 := D9.x2.c 3 _ rfl
      have z3 := D9.x2.z 3
      have d4 := D9.x2.c 4 _ rfl
      have z4 := D9.x2.z 4
      have d5 := D9.x2.c 5 _ rfl
      have z5 := D9.x2.z 5
      have d6 := D9.x2.c 6 _ rfl
      have z6 := D9.x2.z 6
      have d7 := D9.x2.c 7 _ rfl
      have z7 := D9.x2.z 7
      have d8 := D9.x2.c 8 _ rfl
      have z8 := D9.x2.z 8
      have d9 := D9.x2.c 9 _ rfl
      have z9 := D9.x2.z 9
      have d10 := D9.x2.c 10 _ rfl
      have z10 := D9.x2.z 10
      have Y : Ws _ w.heap.size [.int .i64 vp, .int .i64 vk, .int .i64 vf, .int .i64 vt, .int .i64 vs, .int .i64 vq, .int .i64 vx, .int .i64 vy, .int .i64 vz, .int .i64 ve, .slice (some ⟨g8, 0, none⟩) T8.length c8] := (((((((((((D9.x2.set 0 (by simp [zW]) (.int .i64 vp)).set 1 (by simp [zW]) (.int .i64 vk)).set 2 (by simp [zW]) (.int .i64 vf)).set 3 (by simp [zW]) (.int .i64 vt)).set 4 (by simp [zW]) (.int .i64 vs)).set 5 (by simp [zW]) (.int .i64 vq)).set 6 (by simp [zW]) (.int .i64 vx)).set 7 (by simp [zW]) (.int .i64 vy)).set 8 (by simp [zW]) (.int .i64 vz)).set 9 (by simp [zW]) (.int .i64 ve)).set 10 (by simp [zW]) (.slice (some ⟨g8, 0, none⟩) T8.length c8))
      have rY := (((((((((((D9.r.set w.heap.size 0 (.int .i64 vp) D9.h2 D9.hB).set w.heap.size 1 (.int .i64 vk) D9.h2 D9.hB).set w.heap.size 2 (.int .i64 vf) D9.h2 D9.hB).set w.heap.size 3 (.int .i64 vt) D9.h2 D9.hB).set w.heap.size 4 (.int .i64 vs) D9.h2 D9.hB).set w.heap.size 5 (.int .i64 vq) D9.h2 D9.hB).set w.heap.size 6 (.int .i64 vx) D9.h2 D9.hB).set w.heap.size 7 (.int .i64 vy) D9.h2 D9.hB).set w.heap.size 8 (.int .i64 vz) D9.h2 D9.hB).set w.heap.size 9 (.int .i64 ve) D9.h2 D9.hB).set w.heap.size 10 (.slice (some ⟨g8, 0, none⟩) T8.length c8) D9.h2 D9.hB)
      have oY := (((((((((((D9.o.set w.heap.size 0 (.int .i64 vp) (Nat.le_refl _)).set w.heap.size 1 (.int .i64 vk) (Nat.le_refl _)).set w.heap.size 2 (.int .i64 vf) (Nat.le_refl _)).set w.heap.size 3 (.int .i64 vt) (Nat.le_refl _)).set w.heap.size 4 (.int .i64 vs) (Nat.le_refl _)).set w.heap.size 5 (.int .i64 vq) (Nat.le_refl _)).set w.heap.size 6 (.int .i64 vx) (Nat.le_refl _)).set w.heap.size 7 (.int .i64 vy) (Nat.le_refl _)).set w.heap.size 8 (.int .i64 vz) (Nat.le_refl _)).set w.heap.size 9 (.int .i64 ve) (Nat.le_refl _)).set w.heap.size 10 (.slice (some ⟨g8, 0, none⟩) T8.length c8) (Nat.le_refl _))
      have owY := (own_setNe (b := w.heap.size) (k := 10) (.slice (some ⟨g8, 0, none⟩) T8.length c8) (own_setNe (b := w.heap.size) (k := 9) (.int .i64 ve) (own_setNe (b := w.heap.size) (k := 8) (.int .i64 vz) (own_setNe (b := w.heap.size) (k := 7) (.int .i64 vy) (own_setNe (b := w.heap.size) (k := 6) (.int .i64 vx) (own_setNe (b := w.heap.size) (k := 5) (.int .i64 vq) (own_setNe (b := w.heap.size) (k := 4) (.int .i64 vs) (own_setNe (b := w.heap.size) (k := 3) (.int .i64 vt) (own_setNe (b := w.heap.size) (k := 2) (.int .i64 vf) (own_setNe (b := w.heap.size) (k := 1) (.int .i64 vk) (own_setNe (b := w.heap.size) (k := 0) (.int .i64 vp) o9 n28) n28) n28) n28) n28) n28) n28) n28) n28) n28) n28)
      go_wp2
      clear d0 d1 d2 d3 d4 d5 d6 d7 d8 d9 d10
      generalize (((((((((((u9.setCell ⟨w.heap.size, 0, none⟩ (.int .i64 vp)).setCell ⟨w.heap.size, 1, none⟩ (.int .i64 vk)).setCell ⟨w.heap.size, 2, none⟩ (.int .i64 vf)).setCell ⟨w.heap.size, 3, none⟩ (.int .i64 vt)).setCell ⟨w.heap.size, 4, none⟩ (.int .i64 vs)).setCell ⟨w.heap.size, 5, none⟩ (.int .i64 vq)).setCell ⟨w.heap.size, 6, none⟩ (.int .i64 vx)).setCell ⟨w.heap.size, 7, none⟩ (.int .i64 vy)).setCell ⟨w.heap.size, 8, none⟩ (.int .i64 vz)).setCell ⟨w.heap.size, 9, none⟩ (.int .i64 ve)).setCell ⟨w.heap.size, 10, none⟩ (.slice (some ⟨g8, 0, none⟩) T8.length c8)) = w9 at *
      have d0 := Y.c 0 (.int .i64 vp) rfl
      have d1 := Y.c 1 (.int .i64 vk) rfl
      have d2 := Y.c 2 (.int .i64 vf) rfl
      have d3 := Y.c 3 (.int .i64 vt) rfl
      have d4 := Y.c 4 (.int .i64 vs) rfl
      have d5 := Y.c 5 (.int .i64 vq) rfl
      have d6 := Y.c 6 (.int .i64 vx) rfl
      have d7 := Y.c 7 (.int .i64 vy) rfl
      have d8 := Y.c 8 (.int .i64 vz) rfl
      have d9 := Y.c 9 (.int .i64 ve) rfl
      have d10 := Y.c 10 (.slice (some ⟨g8, 0, none⟩) T8.length c8) rfl
      exact bodyPost_ret (v := .agg #[.int .i64 vp, .int .i64 vk, .int .i64 vf, .int .i64 vt, .int .i64 vs, .int .i64 vq, .int .i64 vx, .int .i64 vy, .int .i64 vz, .int .i64 ve, .slice (some ⟨g8, 0, none⟩) T8.length c8]) (by simp [results, Tryz.results53, go_sem, d0, d1, d2, d3, d4, d5, d6, d7, d8, d9, d10]) rfl ⟨vp, vk, vf, vt, vs, vq, vx, vy, vz, ve, (some ⟨g8, 0, none⟩), c8, T8, _, rfl, owY, hle8, n9, (by omega), rY, oY⟩
    · go_simp
      refine (anyFact_any B rb (p1 + 1) _ DD.r (by omega)).mono ?_; rintro r w5 ⟨fn, fi, fs, fg, p5, rfl, hp5, r5, o5⟩
      have D5 := DD.step r5 o5
      have X5 := XD.off o5 h3r
      have R5 := RD.step o5 DD.hr
      go_wp2_with fail
      refine hK.out _ _ trivial (fun hHeld => ?_)
      clear hK K
      (try simp only [List.setIfInBounds_toArray, List.set_cons_zero, List.set_cons_succ])
      refine wpAnyH_ready (rs := [1, 4]) (by kernel_rfl) (by simp) ?_
      refine (AllReadyH.cons (o := { dst := some 29, op := .load 24 (.tmp 28), type := 24, pos := "l61_draw.go:307", after := #[{ on := 0, ground := .data }], guard := none }) rfl (fun K hK => ?_) (AllReadyH.cons (o := { dst := some 32, op := .buildSlice 24 1 #[(0, .tmp 31)], type := 24, pos := "l61_draw.go:307", after := #[{ on := 3, ground := .data }], guard := none }) rfl (fun K hK => ?_) AllReadyH.nil))
      · have q10 := X5.c 10 (.slice ad T.length cap) rfl
        go_simp
        refine hK.out _ _ trivial (fun hHeld => ?_)
        clear hK K
        (try simp only [List.setIfInBounds_toArray, List.set_cons_zero, List.set_cons_succ])
        clear q10
        refine wpAnyH_ready (rs := [4]) (by kernel_rfl) (by simp) ?_
        refine (AllReadyH.cons (o := { dst := some 32, op := .buildSlice 24 1 #[(0, .tmp 31)], type := 24, pos := "l61_draw.go:307", after := #[{ on := 3, ground := .data }], guard := none }) rfl (fun K hK => ?_) AllReadyH.nil)
        go_simp
        have o6 : Off rb w5 (w5.alloc (.cells #[.int .i64 fn, .int .i64 fi, .int .i64 fs, .bool fg] 53)) := (Off.refl rb w5).alloc _
        have D6 := D5.alloc (.cells #[.int .i64 fn, .int .i64 fi, .int .i64 fs, .bool fg] 53)
        have X6 := X5.off o6 h3r
        have R6 := R5.step o6 D5.hr
        have cX : FactsIn (w5.alloc (.cells #[.int .i64 fn, .int .i64 fi, .int .i64 fs, .bool fg] 53)) w5.heap.size 0 1 (fun j => [(⟨fn, fi, fs, fg⟩ : Fc)].getD j Fc.zero) := new_one w5 ⟨fn, fi, fs, fg⟩
        refine hK.out _ _ trivial (fun hHeld => ?_)
        clear hK K
        (try simp only [List.setIfInBounds_toArray, List.set_cons_zero, List.set_cons_succ])
        generalize w5.alloc (.cells #[.int .i64 fn, .int .i64 fi, .int .i64 fs, .bool fg] 53) = u6 at *
        generalize w5.heap.size = fb at *
        refine wpAnyH_ready (rs := [5]) (by kernel_rfl) (by simp) ?_
        refine (AllReadyH.cons (o := { dst := some 33, op := .call { callee := .builtin .append, args := #[.tmp 29, .tmp 32], argTypes := #[24, 24] }, type := 24, pos := "l61_draw.go:307", after := #[{ on := 1, ground := .data }, { on := 4, ground := .data }, { on := 3, ground := .chain }], guard := none }) rfl (fun K hK => ?_) AllReadyH.nil)
        refine step_appF (by rfl) _ _ (by rfl) w.heap.size (.slice ad T.length cap) T.length T (by rfl) R6.v R6.o (some ⟨fb, 0, none⟩) fb 0 rfl 1 1 [⟨fn, fi, fs, fg⟩] (by rfl) rfl cX (T.length + 1) rfl (by have := R6.l; omega) D6.o.size ?_
        intro g8 c8 u8 oR8 gr8 hc8
        have hal : ∀ k, (Value.slice ad T.length cap).ownBlock = some k → B ≤ k ∧ k ≠ rb := fun k hk => by have := (R6.o.lt k hk).1; have := D6.hB; have := D6.hr; omega
        have T36 := ((T3.off (Off.refl rb w2).drew h3r).off o5 h3r).off o6 h3r
        have T26 := ((T2.off (Off.refl rb w2).drew D3.h2).off o5 D3.h2).off o6 D3.h2
        have D8 : Dw G B rb p5 w u8 w.heap.size := ⟨rd_grown D6.r gr8 hal, off_grown D6.o gr8 (fun k hk => (R6.o.lt k hk).1), D6.x2.grownD gr8 R6.n, D6.h2, D6.hu2, D6.hB, D6.hr⟩
        have X8 := X6.grownD gr8 hn3
        have n38 := T36.row gr8 hn3 oR8 (by decide)
        have n28 := T26.row gr8 R6.n oR8 (by decide)
        have hl8 : T.length + 1 = (T ++ [(⟨fn, fi, fs, fg⟩ : Fc)]).length := by simp
        have hl7 := R6.l
        rw [hl8] at oR8 n38 n28 hc8 ⊢
        have hle8 : (T ++ [(⟨fn, fi, fs, fg⟩ : Fc)]).length ≤ 7 := by rw [← hl8]; omega
        clear hl8
        generalize T ++ [(⟨fn, fi, fs, fg⟩ : Fc)] = T8 at *
        refine hK.out _ _ trivial (fun hHeld => ?_)
        clear hK K
        (try simp only [Act.put, List.setIfInBounds_toArray, List.set_cons_zero, List.set_cons_succ])
        refine wpAnyH_take (i := 6) (oi := { dst := some 34, op := .fieldAddr 35 (.tmp 3) 7, type := 0, pos := "l61_draw.go:307", after := #[{ on := 0, ground := .phase }, { on := 1, ground := .phase }, { on := 2, ground := .phase }, { on := 3, ground := .phase }, { on := 4, ground := .phase }, { on := 5, ground := .phase }], guard := none }) (v := ?_) rfl (by kernel_rfl) (by kernel_rfl) (by kernel_rfl) (fun _ _ _ h => h) (Or.inl ⟨by rfl, ?_⟩) (by assumption) ?_
        rotate_left 1
        · (intro w hSw; (try dsimp only at hSw); go_simp; try with_reducible rfl)
        (try simp only [Act.put, List.setIfInBounds_toArray, List.set_cons_zero, List.set_cons_succ])
        have d := X8.c 10 _ rfl
        have zz := X8.z 10
        have D9 := D8.set b3 10 (.slice (some ⟨g8, 0, none⟩) T8.length c8) h3r h3u h23
        have X9 := X8.set 10 (by simp) (.slice (some ⟨g8, 0, none⟩) T8.length c8)
        have o9 := own_setNe (b := b3) (k := 10) (.slice (some ⟨g8, 0, none⟩) T8.length c8) oR8 n38
        refine wpAnyH_ready (rs := [7]) (by kernel_rfl) (by simp) ?_
        refine (AllReadyH.cons (o := { dst := none, op := .store 24 (.tmp 34) (.tmp 33), type := 0, pos := "l61_draw.go:307", after := #[{ on := 6, ground := .data }, { on := 5, ground := .data }, { on := 5, ground := .chain }, { on := 0, ground := .phase }, { on := 1, ground := .phase }, { on := 2, ground := .phase }, { on := 3, ground := .phase }, { on := 4, ground := .phase }, { on := 5, ground := .phase }], guard := none }) rfl (fun K hK => ?_) AllReadyH.nil)
        go_simp
        clear d zz
        generalize u8.setCell ⟨b3, 10, none⟩ (.slice (some ⟨g8, 0, none⟩) T8.length c8) = u9 at *
        refine hK.out _ _ trivial (fun hHeld => ?_)
        clear hK K
        (try simp only [List.setIfInBounds_toArray, List.set_cons_zero, List.set_cons_succ])
        refine wpAnyH_done (by kernel_rfl) ?_ _
        clear hHeld
        have n9 : Value.slice (some ⟨g8, 0, none⟩) T8.length c8 ≠ .slice none 0 0 := by simp
        go_upto_region 15 with fail
        have m0 := X9.c 0 (.int .i64 vp) rfl
        have m1 := X9.c 1 (.int .i64 vk) rfl
        have m2 := X9.c 2 (.int .i64 vf) rfl
        have m3 := X9.c 3 (.int .i64 vt) rfl
        have m4 := X9.c 4 (.int .i64 vs) rfl
        have m5 := X9.c 5 (.int .i64 vq) rfl
        have m6 := X9.c 6 (.int .i64 vx) rfl
        have m7 := X9.c 7 (.int .i64 vy) rfl
        have m8 := X9.c 8 (.int .i64 vz) rfl
        have m9 := X9.c 9 (.int .i64 ve) rfl
        have m10 := X9.c 10 (.slice (some ⟨g8, 0, none⟩) T8.length c8) rfl
        have d0 := D9.x2.c 0 _ rfl
        have z0 := D9.x2.z 0
        have d1 := D9.x2.c 1 _ rfl
        have z1 := D9.x2.z 1
        have d2 := D9.x2.c 2 _ rfl
        have z2 := D9.x2.z 2
        have d3 := D9.x2.c 3 _ rfl
        have z3 := D9.x2.z 3
        have d4 := D9.x2.c 4 _ rfl
        have z4 := D9.x2.z 4
        have d5 := D9.x2.c 5 _ rfl
        have z5 := D9.x2.z 5
        have d6 := D9.x2.c 6 _ rfl
        have z6 := D9.x2.z 6
        have d7 := D9.x2.c 7 _ rfl
        have z7 := D9.x2.z 7
        have d8 := D9.x2.c 8 _ rfl
        have z8 := D9.x2.z 8
        have d9 := D9.x2.c 9 _ rfl
        have z9 := D9.x2.z 9
        have d10 := D9.x2.c 10 _ rfl
        have z10 := D9.x2.z 10
        have Y : Ws _ w.heap.size [.int .i64 vp, .int .i64 vk, .int .i64 vf, .int .i64 vt, .int .i64 vs, .int .i64 vq, .int .i64 vx, .int .i64 vy, .int .i64 vz, .int .i64 ve, .slice (some ⟨g8, 0, none⟩) T8.length c8] := (((((((((((D9.x2.set 0 (by simp [zW]) (.int .i64 vp)).set 1 (by simp [zW]) (.int .i64 vk)).set 2 (by simp [zW]) (.int .i64 vf)).set 3 (by simp [zW]) (.int .i64 vt)).set 4 (by simp [zW]) (.int .i64 vs)).set 5 (by simp [zW]) (.int .i64 vq)).set 6 (by simp [zW]) (.int .i64 vx)).set 7 (by simp [zW]) (.int .i64 vy)).set 8 (by simp [zW]) (.int .i64 vz)).set 9 (by simp [zW]) (.int .i64 ve)).set 10 (by simp [zW]) (.slice (some ⟨g8, 0, none⟩) T8.length c8))
        have rY := (((((((((((D9.r.set w.heap.size 0 (.int .i64 vp) D9.h2 D9.hB).set w.heap.size 1 (.int .i64 vk) D9.h2 D9.hB).set w.heap.size 2 (.int .i64 vf) D9.h2 D9.hB).set w.heap.size 3 (.int .i64 vt) D9.h2 D9.hB).set w.heap.size 4 (.int .i64 vs) D9.h2 D9.hB).set w.heap.size 5 (.int .i64 vq) D9.h2 D9.hB).set w.heap.size 6 (.int .i64 vx) D9.h2 D9.hB).set w.heap.size 7 (.int .i64 vy) D9.h2 D9.hB).set w.heap.size 8 (.int .i64 vz) D9.h2 D9.hB).set w.heap.size 9 (.int .i64 ve) D9.h2 D9.hB).set w.heap.size 10 (.slice (some ⟨g8, 0, none⟩) T8.length c8) D9.h2 D9.hB)
        have oY := (((((((((((D9.o.set w.heap.size 0 (.int .i64 vp) (Nat.le_refl _)).set w.heap.size 1 (.int .i64 vk) (Nat.le_refl _)).set w.heap.size 2 (.int .i64 vf) (Nat.le_refl _)).set w.heap.size 3 (.int .i64 vt) (Nat.le_refl _)).set w.heap.size 4 (.int .i64 vs) (Nat.le_refl _)).set w.heap.size 5 (.int .i64 vq) (Nat.le_refl _)).set w.heap.size 6 (.int .i64 vx) (Nat.le_refl _)).set w.heap.size 7 (.int .i64 vy) (Nat.le_refl _)).set w.heap.size 8 (.int .i64 vz) (Nat.le_refl _)).set w.heap.size 9 (.int .i64 ve) (Nat.le_refl _)).set w.heap.size 10 (.slice (some ⟨g8, 0, none⟩) T8.length c8) (Nat.le_refl _))
        have owY := (own_setNe (b := w.heap.size) (k := 10) (.slice (some ⟨g8, 0, none⟩) T8.length c8) (own_setNe (b := w.heap.size) (k := 9) (.int .i64 ve) (own_setNe (b := w.heap.size) (k := 8) (.int .i64 vz) (own_setNe (b := w.heap.size) (k := 7) (.int .i64 vy) (own_setNe (b := w.heap.size) (k := 6) (.int .i64 vx) (own_setNe (b := w.heap.size) (k := 5) (.int .i64 vq) (own_setNe (b := w.heap.size) (k := 4) (.int .i64 vs) (own_setNe (b := w.heap.size) (k := 3) (.int .i64 vt) (own_setNe (b := w.heap.size) (k := 2) (.int .i64 vf) (own_setNe (b := w.heap.size) (k := 1) (.int .i64 vk) (own_setNe (b := w.heap.size) (k := 0) (.int .i64 vp) o9 n28) n28) n28) n28) n28) n28) n28) n28) n28) n28) n28)
        go_wp2
        clear d0 d1 d2 d3 d4 d5 d6 d7 d8 d9 d10
        generalize (((((((((((u9.setCell ⟨w.heap.size, 0, none⟩ (.int .i64 vp)).setCell ⟨w.heap.size, 1, none⟩ (.int .i64 vk)).setCell ⟨w.heap.size, 2, none⟩ (.int .i64 vf)).setCell ⟨w.heap.size, 3, none⟩ (.int .i64 vt)).setCell ⟨w.heap.size, 4, none⟩ (.int .i64 vs)).setCell ⟨w.heap.size, 5, none⟩ (.int .i64 vq)).setCell ⟨w.heap.size, 6, none⟩ (.int .i64 vx)).setCell ⟨w.heap.size, 7, none⟩ (.int .i64 vy)).setCell ⟨w.heap.size, 8, none⟩ (.int .i64 vz)).setCell ⟨w.heap.size, 9, none⟩ (.int .i64 ve)).setCell ⟨w.heap.size, 10, none⟩ (.slice (some ⟨g8, 0, none⟩) T8.length c8)) = w9 at *
        have d0 := Y.c 0 (.int .i64 vp) rfl
        have d1 := Y.c 1 (.int .i64 vk) rfl
        have d2 := Y.c 2 (.int .i64 vf) rfl
        have d3 := Y.c 3 (.int .i64 vt) rfl
        have d4 := Y.c 4 (.int .i64 vs) rfl
        have d5 := Y.c 5 (.int .i64 vq) rfl
        have d6 := Y.c 6 (.int .i64 vx) rfl
        have d7 := Y.c 7 (.int .i64 vy) rfl
        have d8 := Y.c 8 (.int .i64 vz) rfl
        have d9 := Y.c 9 (.int .i64 ve) rfl
        have d10 := Y.c 10 (.slice (some ⟨g8, 0, none⟩) T8.length c8) rfl
        exact bodyPost_ret (v := .agg #[.int .i64 vp, .int .i64 vk, .int .i64 vf, .int .i64 vt, .int .i64 vs, .int .i64 vq, .int .i64 vx, .int .i64 vy, .int .i64 vz, .int .i64 ve, .slice (some ⟨g8, 0, none⟩) T8.length c8]) (by simp [results, Tryz.results53, go_sem, d0, d1, d2, d3, d4, d5, d6, d7, d8, d9, d10]) rfl ⟨vp, vk, vf, vt, vs, vq, vx, vy, vz, ve, (some ⟨g8, 0, none⟩), c8, T8, _, rfl, owY, hle8, n9, (by omega), rY, oY⟩
      · go_simp
        have o6 : Off rb w5 (w5.alloc (.cells #[.int .i64 fn, .int .i64 fi, .int .i64 fs, .bool fg] 53)) := (Off.refl rb w5).alloc _
        have D6 := D5.alloc (.cells #[.int .i64 fn, .int .i64 fi, .int .i64 fs, .bool fg] 53)
        have X6 := X5.off o6 h3r
        have R6 := R5.step o6 D5.hr
        have cX : FactsIn (w5.alloc (.cells #[.int .i64 fn, .int .i64 fi, .int .i64 fs, .bool fg] 53)) w5.heap.size 0 1 (fun j => [(⟨fn, fi, fs, fg⟩ : Fc)].getD j Fc.zero) := new_one w5 ⟨fn, fi, fs, fg⟩
        refine hK.out _ _ trivial (fun hHeld => ?_)
        clear hK K
        (try simp only [List.setIfInBounds_toArray, List.set_cons_zero, List.set_cons_succ])
        generalize w5.alloc (.cells #[.int .i64 fn, .int .i64 fi, .int .i64 fs, .bool fg] 53) = u6 at *
        generalize w5.heap.size = fb at *
        refine wpAnyH_ready (rs := [1]) (by kernel_rfl) (by simp) ?_
        refine (AllReadyH.cons (o := { dst := some 29, op := .load 24 (.tmp 28), type := 24, pos := "l61_draw.go:307", after := #[{ on := 0, ground := .data }], guard := none }) rfl (fun K hK => ?_) AllReadyH.nil)
        have q10 := X6.c 10 (.slice ad T.length cap) rfl
        go_simp
        refine hK.out _ _ trivial (fun hHeld => ?_)
        clear hK K
        (try simp only [List.setIfInBounds_toArray, List.set_cons_zero, List.set_cons_succ])
        clear q10
        refine wpAnyH_ready (rs := [5]) (by kernel_rfl) (by simp) ?_
        refine (AllReadyH.cons (o := { dst := some 33, op := .call { callee := .builtin .append, args := #[.tmp 29, .tmp 32], argTypes := #[24, 24] }, type := 24, pos := "l61_draw.go:307", after := #[{ on := 1, ground := .data }, { on := 4, ground := .data }, { on := 3, ground := .chain }], guard := none }) rfl (fun K hK => ?_) AllReadyH.nil)
        refine step_appF (by rfl) _ _ (by rfl) w.heap.size (.slice ad T.length cap) T.length T (by rfl) R6.v R6.o (some ⟨fb, 0, none⟩) fb 0 rfl 1 1 [⟨fn, fi, fs, fg⟩] (by rfl) rfl cX (T.length + 1) rfl (by have := R6.l; omega) D6.o.size ?_
        intro g8 c8 u8 oR8 gr8 hc8
        have hal : ∀ k, (Value.slice ad T.length cap).ownBlock = some k → B ≤ k ∧ k ≠ rb := fun k hk => by have := (R6.o.lt k hk).1; have := D6.hB; have := D6.hr; omega
        have T36 := ((T3.off (Off.refl rb w2).drew h3r).off o5 h3r).off o6 h3r
        have T26 := ((T2.off (Off.refl rb w2).drew D3.h2).off o5 D3.h2).off o6 D3.h2
        have D8 : Dw G B rb p5 w u8 w.heap.size := ⟨rd_grown D6.r gr8 hal, off_grown D6.o gr8 (fun k hk => (R6.o.lt k hk).1), D6.x2.grownD gr8 R6.n, D6.h2, D6.hu2, D6.hB, D6.hr⟩
        have X8 := X6.grownD gr8 hn3
        have n38 := T36.row gr8 hn3 oR8 (by decide)
        have n28 := T26.row gr8 R6.n oR8 (by decide)
        have hl8 : T.length + 1 = (T ++ [(⟨fn, fi, fs, fg⟩ : Fc)]).length := by simp
        have hl7 := R6.l
        rw [hl8] at oR8 n38 n28 hc8 ⊢
        have hle8 : (T ++ [(⟨fn, fi, fs, fg⟩ : Fc)]).length ≤ 7 := by rw [← hl8]; omega
        clear hl8
        generalize T ++ [(⟨fn, fi, fs, fg⟩ : Fc)] = T8 at *
        refine hK.out _ _ trivial (fun hHeld => ?_)
        clear hK K
        (try simp only [Act.put, List.setIfInBounds_toArray, List.set_cons_zero, List.set_cons_succ])
        refine wpAnyH_take (i := 6) (oi := { dst := some 34, op := .fieldAddr 35 (.tmp 3) 7, type := 0, pos := "l61_draw.go:307", after := #[{ on := 0, ground := .phase }, { on := 1, ground := .phase }, { on := 2, ground := .phase }, { on := 3, ground := .phase }, { on := 4, ground := .phase }, { on := 5, ground := .phase }], guard := none }) (v := ?_) rfl (by kernel_rfl) (by kernel_rfl) (by kernel_rfl) (fun _ _ _ h => h) (Or.inl ⟨by rfl, ?_⟩) (by assumption) ?_
        rotate_left 1
        · (intro w hSw; (try dsimp only at hSw); go_simp; try with_reducible rfl)
        (try simp only [Act.put, List.setIfInBounds_toArray, List.set_cons_zero, List.set_cons_succ])
        have d := X8.c 10 _ rfl
        have zz := X8.z 10
        have D9 := D8.set b3 10 (.slice (some ⟨g8, 0, none⟩) T8.length c8) h3r h3u h23
        have X9 := X8.set 10 (by simp) (.slice (some ⟨g8, 0, none⟩) T8.length c8)
        have o9 := own_setNe (b := b3) (k := 10) (.slice (some ⟨g8, 0, none⟩) T8.length c8) oR8 n38
        refine wpAnyH_ready (rs := [7]) (by kernel_rfl) (by simp) ?_
        refine (AllReadyH.cons (o := { dst := none, op := .store 24 (.tmp 34) (.tmp 33), type := 0, pos := "l61_draw.go:307", after := #[{ on := 6, ground := .data }, { on := 5, ground := .data }, { on := 5, ground := .chain }, { on := 0, ground := .phase }, { on := 1, ground := .phase }, { on := 2, ground := .phase }, { on := 3, ground := .phase }, { on := 4, ground := .phase }, { on := 5, ground := .phase }], guard := none }) rfl (fun K hK => ?_) AllReadyH.nil)
        go_simp
        clear d zz
        generalize u8.setCell ⟨b3, 10, none⟩ (.slice (some ⟨g8, 0, none⟩) T8.length c8) = u9 at *
        refine hK.out _ _ trivial (fun hHeld => ?_)
        clear hK K
        (try simp only [List.setIfInBounds_toArray, List.set_cons_zero, List.set_cons_succ])
        refine wpAnyH_done (by kernel_rfl) ?_ _
        clear hHeld
        have n9 : Value.slice (some ⟨g8, 0, none⟩) T8.length c8 ≠ .slice none 0 0 := by simp
        go_upto_region 15 with fail
        have m0 := X9.c 0 (.int .i64 vp) rfl
        have m1 := X9.c 1 (.int .i64 vk) rfl
        have m2 := X9.c 2 (.int .i64 vf) rfl
        have m3 := X9.c 3 (.int .i64 vt) rfl
        have m4 := X9.c 4 (.int .i64 vs) rfl
        have m5 := X9.c 5 (.int .i64 vq) rfl
        have m6 := X9.c 6 (.int .i64 vx) rfl
        have m7 := X9.c 7 (.int .i64 vy) rfl
        have m8 := X9.c 8 (.int .i64 vz) rfl
        have m9 := X9.c 9 (.int .i64 ve) rfl
        have m10 := X9.c 10 (.slice (some ⟨g8, 0, none⟩) T8.length c8) rfl
        have d0 := D9.x2.c 0 _ rfl
        have z0 := D9.x2.z 0
        have d1 := D9.x2.c 1 _ rfl
        have z1 := D9.x2.z 1
        have d2 := D9.x2.c 2 _ rfl
        have z2 := D9.x2.z 2
        have d3 := D9.x2.c 3 _ rfl
        have z3 := D9.x2.z 3
        have d4 := D9.x2.c 4 _ rfl
        have z4 := D9.x2.z 4
        have d5 := D9.x2.c 5 _ rfl
        have z5 := D9.x2.z 5
        have d6 := D9.x2.c 6 _ rfl
        have z6 := D9.x2.z 6
        have d7 := D9.x2.c 7 _ rfl
        have z7 := D9.x2.z 7
        have d8 := D9.x2.c 8 _ rfl
        have z8 := D9.x2.z 8
        have d9 := D9.x2.c 9 _ rfl
        have z9 := D9.x2.z 9
        have d10 := D9.x2.c 10 _ rfl
        have z10 := D9.x2.z 10
        have Y : Ws _ w.heap.size [.int .i64 vp, .int .i64 vk, .int .i64 vf, .int .i64 vt, .int .i64 vs, .int .i64 vq, .int .i64 vx, .int .i64 vy, .int .i64 vz, .int .i64 ve, .slice (some ⟨g8, 0, none⟩) T8.length c8] := (((((((((((D9.x2.set 0 (by simp [zW]) (.int .i64 vp)).set 1 (by simp [zW]) (.int .i64 vk)).set 2 (by simp [zW]) (.int .i64 vf)).set 3 (by simp [zW]) (.int .i64 vt)).set 4 (by simp [zW]) (.int .i64 vs)).set 5 (by simp [zW]) (.int .i64 vq)).set 6 (by simp [zW]) (.int .i64 vx)).set 7 (by simp [zW]) (.int .i64 vy)).set 8 (by simp [zW]) (.int .i64 vz)).set 9 (by simp [zW]) (.int .i64 ve)).set 10 (by simp [zW]) (.slice (some ⟨g8, 0, none⟩) T8.length c8))
        have rY := (((((((((((D9.r.set w.heap.size 0 (.int .i64 vp) D9.h2 D9.hB).set w.heap.size 1 (.int .i64 vk) D9.h2 D9.hB).set w.heap.size 2 (.int .i64 vf) D9.h2 D9.hB).set w.heap.size 3 (.int .i64 vt) D9.h2 D9.hB).set w.heap.size 4 (.int .i64 vs) D9.h2 D9.hB).set w.heap.size 5 (.int .i64 vq) D9.h2 D9.hB).set w.heap.size 6 (.int .i64 vx) D9.h2 D9.hB).set w.heap.size 7 (.int .i64 vy) D9.h2 D9.hB).set w.heap.size 8 (.int .i64 vz) D9.h2 D9.hB).set w.heap.size 9 (.int .i64 ve) D9.h2 D9.hB).set w.heap.size 10 (.slice (some ⟨g8, 0, none⟩) T8.length c8) D9.h2 D9.hB)
        have oY := (((((((((((D9.o.set w.heap.size 0 (.int .i64 vp) (Nat.le_refl _)).set w.heap.size 1 (.int .i64 vk) (Nat.le_refl _)).set w.heap.size 2 (.int .i64 vf) (Nat.le_refl _)).set w.heap.size 3 (.int .i64 vt) (Nat.le_refl _)).set w.heap.size 4 (.int .i64 vs) (Nat.le_refl _)).set w.heap.size 5 (.int .i64 vq) (Nat.le_refl _)).set w.heap.size 6 (.int .i64 vx) (Nat.le_refl _)).set w.heap.size 7 (.int .i64 vy) (Nat.le_refl _)).set w.heap.size 8 (.int .i64 vz) (Nat.le_refl _)).set w.heap.size 9 (.int .i64 ve) (Nat.le_refl _)).set w.heap.size 10 (.slice (some ⟨g8, 0, none⟩) T8.length c8) (Nat.le_refl _))
        have owY := (own_setNe (b := w.heap.size) (k := 10) (.slice (some ⟨g8, 0, none⟩) T8.length c8) (own_setNe (b := w.heap.size) (k := 9) (.int .i64 ve) (own_setNe (b := w.heap.size) (k := 8) (.int .i64 vz) (own_setNe (b := w.heap.size) (k := 7) (.int .i64 vy) (own_setNe (b := w.heap.size) (k := 6) (.int .i64 vx) (own_setNe (b := w.heap.size) (k := 5) (.int .i64 vq) (own_setNe (b := w.heap.size) (k := 4) (.int .i64 vs) (own_setNe (b := w.heap.size) (k := 3) (.int .i64 vt) (own_setNe (b := w.heap.size) (k := 2) (.int .i64 vf) (own_setNe (b := w.heap.size) (k := 1) (.int .i64 vk) (own_setNe (b := w.heap.size) (k := 0) (.int .i64 vp) o9 n28) n28) n28) n28) n28) n28) n28) n28) n28) n28) n28)
        go_wp2
        clear d0 d1 d2 d3 d4 d5 d6 d7 d8 d9 d10
        generalize (((((((((((u9.setCell ⟨w.heap.size, 0, none⟩ (.int .i64 vp)).setCell ⟨w.heap.size, 1, none⟩ (.int .i64 vk)).setCell ⟨w.heap.size, 2, none⟩ (.int .i64 vf)).setCell ⟨w.heap.size, 3, none⟩ (.int .i64 vt)).setCell ⟨w.heap.size, 4, none⟩ (.int .i64 vs)).setCell ⟨w.heap.size, 5, none⟩ (.int .i64 vq)).setCell ⟨w.heap.size, 6, none⟩ (.int .i64 vx)).setCell ⟨w.heap.size, 7, none⟩ (.int .i64 vy)).setCell ⟨w.heap.size, 8, none⟩ (.int .i64 vz)).setCell ⟨w.heap.size, 9, none⟩ (.int .i64 ve)).setCell ⟨w.heap.size, 10, none⟩ (.slice (some ⟨g8, 0, none⟩) T8.length c8)) = w9 at *
        have d0 := Y.c 0 (.int .i64 vp) rfl
        have d1 := Y.c 1 (.int .i64 vk) rfl
        have d2 := Y.c 2 (.int .i64 vf) rfl
        have d3 := Y.c 3 (.int .i64 vt) rfl
        have d4 := Y.c 4 (.int .i64 vs) rfl
        have d5 := Y.c 5 (.int .i64 vq) rfl
        have d6 := Y.c 6 (.int .i64 vx) rfl
        have d7 := Y.c 7 (.int .i64 vy) rfl
        have d8 := Y.c 8 (.int .i64 vz) rfl
        have d9 := Y.c 9 (.int .i64 ve) rfl
        have d10 := Y.c 10 (.slice (some ⟨g8, 0, none⟩) T8.length c8) rfl
        exact bodyPost_ret (v := .agg #[.int .i64 vp, .int .i64 vk, .int .i64 vf, .int .i64 vt, .int .i64 vs, .int .i64 vq, .int .i64 vx, .int .i64 vy, .int .i64 vz, .int .i64 ve, .slice (some ⟨g8, 0, none⟩) T8.length c8]) (by simp [results, Tryz.results53, go_sem, d0, d1, d2, d3, d4, d5, d6, d7, d8, d9, d10]) rfl ⟨vp, vk, vf, vt, vs, vq, vx, vy, vz, ve, (some ⟨g8, 0, none⟩), c8, T8, _, rfl, owY, hle8, n9, (by omega), rY, oY⟩
  by_cases e4 : kk = 4
  · subst e4
    go_wp2_with fail
    have o4 : Off rb w2 (w2.alloc (.cells #[.int .i64 (-1), .int .i64 8] 3)) := (Off.refl rb w2).alloc _
    have D4 := D3.alloc (.cells #[.int .i64 (-1), .int .i64 8] 3)
    have X4 := X3.off o4 h3r
    have R4 := R3.step o4 D3.hr
    have hlt2 : w2.heap.size < (w2.alloc (.cells #[.int .i64 (-1), .int .i64 8] 3)).heap.size := lt_of_block (heap_alloc_new w2 _)
    have htw := two w2 (-1) 8
    have hsr : w2.heap.size ≠ rb := by have := D3.r.lt; omega
    generalize w2.alloc (.cells #[.int .i64 (-1), .int .i64 8] 3) = u4 at *
    generalize w2.heap.size = sl at *
    refine (pick_any B rb (p1 + 1) 2 _ D4.r (by omega)).mono ?_
    rintro r w5 ⟨rfl, hk5, r5, o5'⟩
    have o5 := o5'.off
    have D5 := D4.step r5 o5
    have X5 := X4.off o5 h3r
    have R5 := R4.step o5 D4.hr
    generalize G.pk (p1 + 1) 2 = k5 at *
    obtain ⟨m5, rfl⟩ : ∃ m5 : Nat, k5 = m5 := ⟨k5.toNat, by omega⟩
    have hm5 : m5 < 2 := by omega
    obtain ⟨sv, hsv⟩ := htw m5 hm5
    replace hsv := (o5.cell (p := ⟨sl, m5, none⟩) hlt2 hsr).trans hsv
    have i0 : (0 : Int) ≤ (m5 : Int) := by omega
    have i1 : (m5 : Int) < 2 := by omega
    clear D3 X3 R3 D4 X4 R4 o4 r5 o5 o5' htw hk5
    have d := X5.c 2 _ rfl
    have zz := X5.z 2
    have D6 := D5.set b3 2 (.int .i64 sv) h3r h3u h23
    have X6 := X5.set 2 (by simp) (.int .i64 sv)
    have R6 := R5.far (b := b3) (k := 2) (.int .i64 sv) hn3
    go_upto_region 15 with fail
    clear d zz D5 X5 R5 hsv
    generalize w5.setCell ⟨b3, 2, none⟩ (.int .i64 sv) = u6 at *
    have m0 := X6.c 0 (.int .i64 vp) rfl
    have m1 := X6.c 1 (.int .i64 vk) rfl
    have m2 := X6.c 2 (.int .i64 sv) rfl
    have m3 := X6.c 3 (.int .i64 vt) rfl
    have m4 := X6.c 4 (.int .i64 vs) rfl
    have m5 := X6.c 5 (.int .i64 vq) rfl
    have m6 := X6.c 6 (.int .i64 vx) rfl
    have m7 := X6.c 7 (.int .i64 vy) rfl
    have m8 := X6.c 8 (.int .i64 vz) rfl
    have m9 := X6.c 9 (.int .i64 ve) rfl
    have m10 := X6.c 10 (.slice ad T.length cap) rfl
    have d0 := D6.x2.c 0 _ rfl
    have z0 := D6.x2.z 0
    have d1 := D6.x2.c 1 _ rfl
    have z1 := D6.x2.z 1
    have d2 := D6.x2.c 2 _ rfl
    have z2 := D6.x2.z 2
    have d3 := D6.x2.c 3 _ rfl
    have z3 := D6.x2.z 3
    have d4 := D6.x2.c 4 _ rfl
    have z4 := D6.x2.z 4
    have d5 := D6.x2.c 5 _ rfl
    have z5 := D6.x2.z 5
    have d6 := D6.x2.c 6 _ rfl
    have z6 := D6.x2.z 6
    have d7 := D6.x2.c 7 _ rfl
    have z7 := D6.x2.z 7
    have d8 := D6.x2.c 8 _ rfl
    have z8 := D6.x2.z 8
    have d9 := D6.x2.c 9 _ rfl
    have z9 := D6.x2.z 9
    have d10 := D6.x2.c 10 _ rfl
    have z10 := D6.x2.z 10
    have Y : Ws _ w.heap.size [.int .i64 vp, .int .i64 vk, .int .i64 sv, .int .i64 vt, .int .i64 vs, .int .i64 vq, .int .i64 vx, .int .i64 vy, .int .i64 vz, .int .i64 ve, .slice ad T.length cap] := (((((((((((D6.x2.set 0 (by simp [zW]) (.int .i64 vp)).set 1 (by simp [zW]) (.int .i64 vk)).set 2 (by simp [zW]) (.int .i64 sv)).set 3 (by simp [zW]) (.int .i64 vt)).set 4 (by simp [zW]) (.int .i64 vs)).set 5 (by simp [zW]) (.int .i64 vq)).set 6 (by simp [zW]) (.int .i64 vx)).set 7 (by simp [zW]) (.int .i64 vy)).set 8 (by simp [zW]) (.int .i64 vz)).set 9 (by simp [zW]) (.int .i64 ve)).set 10 (by simp [zW]) (.slice ad T.length cap))
    have rY := (((((((((((D6.r.set w.heap.size 0 (.int .i64 vp) D6.h2 D6.hB).set w.heap.size 1 (.int .i64 vk) D6.h2 D6.hB).set w.heap.size 2 (.int .i64 sv) D6.h2 D6.hB).set w.heap.size 3 (.int .i64 vt) D6.h2 D6.hB).set w.heap.size 4 (.int .i64 vs) D6.h2 D6.hB).set w.heap.size 5 (.int .i64 vq) D6.h2 D6.hB).set w.heap.size 6 (.int .i64 vx) D6.h2 D6.hB).set w.heap.size 7 (.int .i64 vy) D6.h2 D6.hB).set w.heap.size 8 (.int .i64 vz) D6.h2 D6.hB).set w.heap.size 9 (.int .i64 ve) D6.h2 D6.hB).set w.heap.size 10 (.slice ad T.length cap) D6.h2 D6.hB)
    have oY := (((((((((((D6.o.set w.heap.size 0 (.int .i64 vp) (Nat.le_refl _)).set w.heap.size 1 (.int .i64 vk) (Nat.le_refl _)).set w.heap.size 2 (.int .i64 sv) (Nat.le_refl _)).set w.heap.size 3 (.int .i64 vt) (Nat.le_refl _)).set w.heap.size 4 (.int .i64 vs) (Nat.le_refl _)).set w.heap.size 5 (.int .i64 vq) (Nat.le_refl _)).set w.heap.size 6 (.int .i64 vx) (Nat.le_refl _)).set w.heap.size 7 (.int .i64 vy) (Nat.le_refl _)).set w.heap.size 8 (.int .i64 vz) (Nat.le_refl _)).set w.heap.size 9 (.int .i64 ve) (Nat.le_refl _)).set w.heap.size 10 (.slice ad T.length cap) (Nat.le_refl _))
    have owY := (own_setNe (b := w.heap.size) (k := 10) (.slice ad T.length cap) (own_setNe (b := w.heap.size) (k := 9) (.int .i64 ve) (own_setNe (b := w.heap.size) (k := 8) (.int .i64 vz) (own_setNe (b := w.heap.size) (k := 7) (.int .i64 vy) (own_setNe (b := w.heap.size) (k := 6) (.int .i64 vx) (own_setNe (b := w.heap.size) (k := 5) (.int .i64 vq) (own_setNe (b := w.heap.size) (k := 4) (.int .i64 vs) (own_setNe (b := w.heap.size) (k := 3) (.int .i64 vt) (own_setNe (b := w.heap.size) (k := 2) (.int .i64 sv) (own_setNe (b := w.heap.size) (k := 1) (.int .i64 vk) (own_setNe (b := w.heap.size) (k := 0) (.int .i64 vp) R6.o R6.n) R6.n) R6.n) R6.n) R6.n) R6.n) R6.n) R6.n) R6.n) R6.n) R6.n)
    go_wp2
    clear d0 d1 d2 d3 d4 d5 d6 d7 d8 d9 d10
    generalize (((((((((((u6.setCell ⟨w.heap.size, 0, none⟩ (.int .i64 vp)).setCell ⟨w.heap.size, 1, none⟩ (.int .i64 vk)).setCell ⟨w.heap.size, 2, none⟩ (.int .i64 sv)).setCell ⟨w.heap.size, 3, none⟩ (.int .i64 vt)).setCell ⟨w.heap.size, 4, none⟩ (.int .i64 vs)).setCell ⟨w.heap.size, 5, none⟩ (.int .i64 vq)).setCell ⟨w.heap.size, 6, none⟩ (.int .i64 vx)).setCell ⟨w.heap.size, 7, none⟩ (.int .i64 vy)).setCell ⟨w.heap.size, 8, none⟩ (.int .i64 vz)).setCell ⟨w.heap.size, 9, none⟩ (.int .i64 ve)).setCell ⟨w.heap.size, 10, none⟩ (.slice ad T.length cap)) = w9 at *
    have d0 := Y.c 0 (.int .i64 vp) rfl
    have d1 := Y.c 1 (.int .i64 vk) rfl
    have d2 := Y.c 2 (.int .i64 sv) rfl
    have d3 := Y.c 3 (.int .i64 vt) rfl
    have d4 := Y.c 4 (.int .i64 vs) rfl
    have d5 := Y.c 5 (.int .i64 vq) rfl
    have d6 := Y.c 6 (.int .i64 vx) rfl
    have d7 := Y.c 7 (.int .i64 vy) rfl
    have d8 := Y.c 8 (.int .i64 vz) rfl
    have d9 := Y.c 9 (.int .i64 ve) rfl
    have d10 := Y.c 10 (.slice ad T.length cap) rfl
    exact bodyPost_ret (v := .agg #[.int .i64 vp, .int .i64 vk, .int .i64 sv, .int .i64 vt, .int .i64 vs, .int .i64 vq, .int .i64 vx, .int .i64 vy, .int .i64 vz, .int .i64 ve, .slice ad T.length cap]) (by simp [results, Tryz.results53, go_sem, d0, d1, d2, d3, d4, d5, d6, d7, d8, d9, d10]) rfl ⟨vp, vk, sv, vt, vs, vq, vx, vy, vz, ve, ad, cap, T, _, rfl, owY, Nat.le_succ_of_le R6.l, R6.v, (by omega), rY, oY⟩
  by_cases e5 : kk = 5
  · subst e5
    go_wp2_with fail
    have o4 : Off rb w2 (w2.alloc (.cells #[.int .i64 (-1), .int .i64 1000000] 3)) := (Off.refl rb w2).alloc _
    have D4 := D3.alloc (.cells #[.int .i64 (-1), .int .i64 1000000] 3)
    have X4 := X3.off o4 h3r
    have R4 := R3.step o4 D3.hr
    have hlt2 : w2.heap.size < (w2.alloc (.cells #[.int .i64 (-1), .int .i64 1000000] 3)).heap.size := lt_of_block (heap_alloc_new w2 _)
    have htw := two w2 (-1) 1000000
    have hsr : w2.heap.size ≠ rb := by have := D3.r.lt; omega
    generalize w2.alloc (.cells #[.int .i64 (-1), .int .i64 1000000] 3) = u4 at *
    generalize w2.heap.size = sl at *
    refine (pick_any B rb (p1 + 1) 2 _ D4.r (by omega)).mono ?_
    rintro r w5 ⟨rfl, hk5, r5, o5'⟩
    have o5 := o5'.off
    have D5 := D4.step r5 o5
    have X5 := X4.off o5 h3r
    have R5 := R4.step o5 D4.hr
    generalize G.pk (p1 + 1) 2 = k5 at *
    obtain ⟨m5, rfl⟩ : ∃ m5 : Nat, k5 = m5 := ⟨k5.toNat, by omega⟩
    have hm5 : m5 < 2 := by omega
    obtain ⟨sv, hsv⟩ := htw m5 hm5
    replace hsv := (o5.cell (p := ⟨sl, m5, none⟩) hlt2 hsr).trans hsv
    have i0 : (0 : Int) ≤ (m5 : Int) := by omega
    have i1 : (m5 : Int) < 2 := by omega
    clear D3 X3 R3 D4 X4 R4 o4 r5 o5 o5' htw hk5
    have d := X5.c 4 _ rfl
    have zz := X5.z 4
    have D6 := D5.set b3 4 (.int .i64 sv) h3r h3u h23
    have X6 := X5.set 4 (by simp) (.int .i64 sv)
    have R6 := R5.far (b := b3) (k := 4) (.int .i64 sv) hn3
    go_upto_region 15 with fail
    clear d zz D5 X5 R5 hsv
    generalize w5.setCell ⟨b3, 4, none⟩ (.int .i64 sv) = u6 at *
    have m0 := X6.c 0 (.int .i64 vp) rfl
    have m1 := X6.c 1 (.int .i64 vk) rfl
    have m2 := X6.c 2 (.int .i64 vf) rfl
    have m3 := X6.c 3 (.int .i64 vt) rfl
    have m4 := X6.c 4 (.int .i64 sv) rfl
    have m5 := X6.c 5 (.int .i64 vq) rfl
    have m6 := X6.c 6 (.int .i64 vx) rfl
    have m7 := X6.c 7 (.int .i64 vy) rfl
    have m8 := X6.c 8 (.int .i64 vz) rfl
    have m9 := X6.c 9 (.int .i64 ve) rfl
    have m10 := X6.c 10 (.slice ad T.length cap) rfl
    have d0 := D6.x2.c 0 _ rfl
    have z0 := D6.x2.z 0
    have d1 := D6.x2.c 1 _ rfl
    have z1 := D6.x2.z 1
    have d2 := D6.x2.c 2 _ rfl
    have z2 := D6.x2.z 2
    have d3 := D6.x2.c 3 _ rfl
    have z3 := D6.x2.z 3
    have d4 := D6.x2.c 4 _ rfl
    have z4 := D6.x2.z 4
    have d5 := D6.x2.c 5 _ rfl
    have z5 := D6.x2.z 5
    have d6 := D6.x2.c 6 _ rfl
    have z6 := D6.x2.z 6
    have d7 := D6.x2.c 7 _ rfl
    have z7 := D6.x2.z 7
    have d8 := D6.x2.c 8 _ rfl
    have z8 := D6.x2.z 8
    have d9 := D6.x2.c 9 _ rfl
    have z9 := D6.x2.z 9
    have d10 := D6.x2.c 10 _ rfl
    have z10 := D6.x2.z 10
    have Y : Ws _ w.heap.size [.int .i64 vp, .int .i64 vk, .int .i64 vf, .int .i64 vt, .int .i64 sv, .int .i64 vq, .int .i64 vx, .int .i64 vy, .int .i64 vz, .int .i64 ve, .slice ad T.length cap] := (((((((((((D6.x2.set 0 (by simp [zW]) (.int .i64 vp)).set 1 (by simp [zW]) (.int .i64 vk)).set 2 (by simp [zW]) (.int .i64 vf)).set 3 (by simp [zW]) (.int .i64 vt)).set 4 (by simp [zW]) (.int .i64 sv)).set 5 (by simp [zW]) (.int .i64 vq)).set 6 (by simp [zW]) (.int .i64 vx)).set 7 (by simp [zW]) (.int .i64 vy)).set 8 (by simp [zW]) (.int .i64 vz)).set 9 (by simp [zW]) (.int .i64 ve)).set 10 (by simp [zW]) (.slice ad T.length cap))
    have rY := (((((((((((D6.r.set w.heap.size 0 (.int .i64 vp) D6.h2 D6.hB).set w.heap.size 1 (.int .i64 vk) D6.h2 D6.hB).set w.heap.size 2 (.int .i64 vf) D6.h2 D6.hB).set w.heap.size 3 (.int .i64 vt) D6.h2 D6.hB).set w.heap.size 4 (.int .i64 sv) D6.h2 D6.hB).set w.heap.size 5 (.int .i64 vq) D6.h2 D6.hB).set w.heap.size 6 (.int .i64 vx) D6.h2 D6.hB).set w.heap.size 7 (.int .i64 vy) D6.h2 D6.hB).set w.heap.size 8 (.int .i64 vz) D6.h2 D6.hB).set w.heap.size 9 (.int .i64 ve) D6.h2 D6.hB).set w.heap.size 10 (.slice ad T.length cap) D6.h2 D6.hB)
    have oY := (((((((((((D6.o.set w.heap.size 0 (.int .i64 vp) (Nat.le_refl _)).set w.heap.size 1 (.int .i64 vk) (Nat.le_refl _)).set w.heap.size 2 (.int .i64 vf) (Nat.le_refl _)).set w.heap.size 3 (.int .i64 vt) (Nat.le_refl _)).set w.heap.size 4 (.int .i64 sv) (Nat.le_refl _)).set w.heap.size 5 (.int .i64 vq) (Nat.le_refl _)).set w.heap.size 6 (.int .i64 vx) (Nat.le_refl _)).set w.heap.size 7 (.int .i64 vy) (Nat.le_refl _)).set w.heap.size 8 (.int .i64 vz) (Nat.le_refl _)).set w.heap.size 9 (.int .i64 ve) (Nat.le_refl _)).set w.heap.size 10 (.slice ad T.length cap) (Nat.le_refl _))
    have owY := (own_setNe (b := w.heap.size) (k := 10) (.slice ad T.length cap) (own_setNe (b := w.heap.size) (k := 9) (.int .i64 ve) (own_setNe (b := w.heap.size) (k := 8) (.int .i64 vz) (own_setNe (b := w.heap.size) (k := 7) (.int .i64 vy) (own_setNe (b := w.heap.size) (k := 6) (.int .i64 vx) (own_setNe (b := w.heap.size) (k := 5) (.int .i64 vq) (own_setNe (b := w.heap.size) (k := 4) (.int .i64 sv) (own_setNe (b := w.heap.size) (k := 3) (.int .i64 vt) (own_setNe (b := w.heap.size) (k := 2) (.int .i64 vf) (own_setNe (b := w.heap.size) (k := 1) (.int .i64 vk) (own_setNe (b := w.heap.size) (k := 0) (.int .i64 vp) R6.o R6.n) R6.n) R6.n) R6.n) R6.n) R6.n) R6.n) R6.n) R6.n) R6.n) R6.n)
    go_wp2
    clear d0 d1 d2 d3 d4 d5 d6 d7 d8 d9 d10
    generalize (((((((((((u6.setCell ⟨w.heap.size, 0, none⟩ (.int .i64 vp)).setCell ⟨w.heap.size, 1, none⟩ (.int .i64 vk)).setCell ⟨w.heap.size, 2, none⟩ (.int .i64 vf)).setCell ⟨w.heap.size, 3, none⟩ (.int .i64 vt)).setCell ⟨w.heap.size, 4, none⟩ (.int .i64 sv)).setCell ⟨w.heap.size, 5, none⟩ (.int .i64 vq)).setCell ⟨w.heap.size, 6, none⟩ (.int .i64 vx)).setCell ⟨w.heap.size, 7, none⟩ (.int .i64 vy)).setCell ⟨w.heap.size, 8, none⟩ (.int .i64 vz)).setCell ⟨w.heap.size, 9, none⟩ (.int .i64 ve)).setCell ⟨w.heap.size, 10, none⟩ (.slice ad T.length cap)) = w9 at *
    have d0 := Y.c 0 (.int .i64 vp) rfl
    have d1 := Y.c 1 (.int .i64 vk) rfl
    have d2 := Y.c 2 (.int .i64 vf) rfl
    have d3 := Y.c 3 (.int .i64 vt) rfl
    have d4 := Y.c 4 (.int .i64 sv) rfl
    have d5 := Y.c 5 (.int .i64 vq) rfl
    have d6 := Y.c 6 (.int .i64 vx) rfl
    have d7 := Y.c 7 (.int .i64 vy) rfl
    have d8 := Y.c 8 (.int .i64 vz) rfl
    have d9 := Y.c 9 (.int .i64 ve) rfl
    have d10 := Y.c 10 (.slice ad T.length cap) rfl
    exact bodyPost_ret (v := .agg #[.int .i64 vp, .int .i64 vk, .int .i64 vf, .int .i64 vt, .int .i64 sv, .int .i64 vq, .int .i64 vx, .int .i64 vy, .int .i64 vz, .int .i64 ve, .slice ad T.length cap]) (by simp [results, Tryz.results53, go_sem, d0, d1, d2, d3, d4, d5, d6, d7, d8, d9, d10]) rfl ⟨vp, vk, vf, vt, sv, vq, vx, vy, vz, ve, ad, cap, T, _, rfl, owY, Nat.le_succ_of_le R6.l, R6.v, (by omega), rY, oY⟩
  have f0 : (kk == 0) = false := by rw [beq_eq_false_iff_ne]; exact e0
  have f1 : (kk == 1) = false := by rw [beq_eq_false_iff_ne]; exact e1
  have f2 : (kk == 2) = false := by rw [beq_eq_false_iff_ne]; exact e2
  have f3 : (kk == 3) = false := by rw [beq_eq_false_iff_ne]; exact e3
  have f4 : (kk == 4) = false := by rw [beq_eq_false_iff_ne]; exact e4
  have f5 : (kk == 5) = false := by rw [beq_eq_false_iff_ne]; exact e5
  go_upto_region 15 with fail
  have m0 := X3.c 0 (.int .i64 vp) rfl
  have m1 := X3.c 1 (.int .i64 vk) rfl
  have m2 := X3.c 2 (.int .i64 vf) rfl
  have m3 := X3.c 3 (.int .i64 vt) rfl
  have m4 := X3.c 4 (.int .i64 vs) rfl
  have m5 := X3.c 5 (.int .i64 vq) rfl
  have m6 := X3.c 6 (.int .i64 vx) rfl
  have m7 := X3.c 7 (.int .i64 vy) rfl
  have m8 := X3.c 8 (.int .i64 vz) rfl
  have m9 := X3.c 9 (.int .i64 ve) rfl
  have m10 := X3.c 10 (.slice ad T.length cap) rfl
  have d0 := D3.x2.c 0 _ rfl
  have z0 := D3.x2.z 0
  have d1 := D3.x2.c 1 _ rfl
  have z1 := D3.x2.z 1
  have d2 := D3.x2.c 2 _ rfl
  have z2 := D3.x2.z 2
  have d3 := D3.x2.c 3 _ rfl
  have z3 := D3.x2.z 3
  have d4 := D3.x2.c 4 _ rfl
  have z4 := D3.x2.z 4
  have d5 := D3.x2.c 5 _ rfl
  have z5 := D3.x2.z 5
  have d6 := D3.x2.c 6 _ rfl
  have z6 := D3.x2.z 6
  have d7 := D3.x2.c 7 _ rfl
  have z7 := D3.x2.z 7
  have d8 := D3.x2.c 8 _ rfl
  have z8 := D3.x2.z 8
  have d9 := D3.x2.c 9 _ rfl
  have z9 := D3.x2.z 9
  have d10 := D3.x2.c 10 _ rfl
  have z10 := D3.x2.z 10
  have Y : Ws _ w.heap.size [.int .i64 vp, .int .i64 vk, .int .i64 vf, .int .i64 vt, .int .i64 vs, .int .i64 vq, .int .i64 vx, .int .i64 vy, .int .i64 vz, .int .i64 ve, .slice ad T.length cap] := (((((((((((D3.x2.set 0 (by simp [zW]) (.int .i64 vp)).set 1 (by simp [zW]) (.int .i64 vk)).set 2 (by simp [zW]) (.int .i64 vf)).set 3 (by simp [zW]) (.int .i64 vt)).set 4 (by simp [zW]) (.int .i64 vs)).set 5 (by simp [zW]) (.int .i64 vq)).set 6 (by simp [zW]) (.int .i64 vx)).set 7 (by simp [zW]) (.int .i64 vy)).set 8 (by simp [zW]) (.int .i64 vz)).set 9 (by simp [zW]) (.int .i64 ve)).set 10 (by simp [zW]) (.slice ad T.length cap))
  have rY := (((((((((((D3.r.set w.heap.size 0 (.int .i64 vp) D3.h2 D3.hB).set w.heap.size 1 (.int .i64 vk) D3.h2 D3.hB).set w.heap.size 2 (.int .i64 vf) D3.h2 D3.hB).set w.heap.size 3 (.int .i64 vt) D3.h2 D3.hB).set w.heap.size 4 (.int .i64 vs) D3.h2 D3.hB).set w.heap.size 5 (.int .i64 vq) D3.h2 D3.hB).set w.heap.size 6 (.int .i64 vx) D3.h2 D3.hB).set w.heap.size 7 (.int .i64 vy) D3.h2 D3.hB).set w.heap.size 8 (.int .i64 vz) D3.h2 D3.hB).set w.heap.size 9 (.int .i64 ve) D3.h2 D3.hB).set w.heap.size 10 (.slice ad T.length cap) D3.h2 D3.hB)
  have oY := (((((((((((D3.o.set w.heap.size 0 (.int .i64 vp) (Nat.le_refl _)).set w.heap.size 1 (.int .i64 vk) (Nat.le_refl _)).set w.heap.size 2 (.int .i64 vf) (Nat.le_refl _)).set w.heap.size 3 (.int .i64 vt) (Nat.le_refl _)).set w.heap.size 4 (.int .i64 vs) (Nat.le_refl _)).set w.heap.size 5 (.int .i64 vq) (Nat.le_refl _)).set w.heap.size 6 (.int .i64 vx) (Nat.le_refl _)).set w.heap.size 7 (.int .i64 vy) (Nat.le_refl _)).set w.heap.size 8 (.int .i64 vz) (Nat.le_refl _)).set w.heap.size 9 (.int .i64 ve) (Nat.le_refl _)).set w.heap.size 10 (.slice ad T.length cap) (Nat.le_refl _))
  have owY := (own_setNe (b := w.heap.size) (k := 10) (.slice ad T.length cap) (own_setNe (b := w.heap.size) (k := 9) (.int .i64 ve) (own_setNe (b := w.heap.size) (k := 8) (.int .i64 vz) (own_setNe (b := w.heap.size) (k := 7) (.int .i64 vy) (own_setNe (b := w.heap.size) (k := 6) (.int .i64 vx) (own_setNe (b := w.heap.size) (k := 5) (.int .i64 vq) (own_setNe (b := w.heap.size) (k := 4) (.int .i64 vs) (own_setNe (b := w.heap.size) (k := 3) (.int .i64 vt) (own_setNe (b := w.heap.size) (k := 2) (.int .i64 vf) (own_setNe (b := w.heap.size) (k := 1) (.int .i64 vk) (own_setNe (b := w.heap.size) (k := 0) (.int .i64 vp) R3.o R3.n) R3.n) R3.n) R3.n) R3.n) R3.n) R3.n) R3.n) R3.n) R3.n) R3.n)
  go_wp2
  clear d0 d1 d2 d3 d4 d5 d6 d7 d8 d9 d10
  generalize (((((((((((w2.setCell ⟨w.heap.size, 0, none⟩ (.int .i64 vp)).setCell ⟨w.heap.size, 1, none⟩ (.int .i64 vk)).setCell ⟨w.heap.size, 2, none⟩ (.int .i64 vf)).setCell ⟨w.heap.size, 3, none⟩ (.int .i64 vt)).setCell ⟨w.heap.size, 4, none⟩ (.int .i64 vs)).setCell ⟨w.heap.size, 5, none⟩ (.int .i64 vq)).setCell ⟨w.heap.size, 6, none⟩ (.int .i64 vx)).setCell ⟨w.heap.size, 7, none⟩ (.int .i64 vy)).setCell ⟨w.heap.size, 8, none⟩ (.int .i64 vz)).setCell ⟨w.heap.size, 9, none⟩ (.int .i64 ve)).setCell ⟨w.heap.size, 10, none⟩ (.slice ad T.length cap)) = w9 at *
  have d0 := Y.c 0 (.int .i64 vp) rfl
  have d1 := Y.c 1 (.int .i64 vk) rfl
  have d2 := Y.c 2 (.int .i64 vf) rfl
  have d3 := Y.c 3 (.int .i64 vt) rfl
  have d4 := Y.c 4 (.int .i64 vs) rfl
  have d5 := Y.c 5 (.int .i64 vq) rfl
  have d6 := Y.c 6 (.int .i64 vx) rfl
  have d7 := Y.c 7 (.int .i64 vy) rfl
  have d8 := Y.c 8 (.int .i64 vz) rfl
  have d9 := Y.c 9 (.int .i64 ve) rfl
  have d10 := Y.c 10 (.slice ad T.length cap) rfl
  exact bodyPost_ret (v := .agg #[.int .i64 vp, .int .i64 vk, .int .i64 vf, .int .i64 vt, .int .i64 vs, .int .i64 vq, .int .i64 vx, .int .i64 vy, .int .i64 vz, .int .i64 ve, .slice ad T.length cap]) (by simp [results, Tryz.results53, go_sem, d0, d1, d2, d3, d4, d5, d6, d7, d8, d9, d10]) rfl ⟨vp, vk, vf, vt, vs, vq, vx, vy, vz, ve, ad, cap, T, _, rfl, owY, Nat.le_succ_of_le R3.l, R3.v, (by omega), rY, oY⟩
end Go.Proofs.YtibnojbhoepcdaaGreatDoor
/- A word drawn out of a code. -/
namespace Go.Proofs.YtibnojbhoepcdaaGreatDoor
open Go.ChangeShapes Go.WideShapes Go.ChangeAt Go.RowKit
attribute [local go_sem ↓] Go.wp_at_zero Go.wp_at_succ
/-- a word answered -/
def WdRet (w : World) (r : Ending) (w' : World) : Prop :=
  ∃ (W : Wd) (ad : Option Addr) (cap : Nat), r = .returned (.agg #[.int .i64 W.p, .int .i64 W.k, .int .i64 W.f, .int .i64 W.t, .int .i64 W.s, .int .i64 W.q, .int .i64 W.x, .int .i64 W.y, .int .i64 W.z, .int .i64 W.e, .slice ad W.T.length cap]) ∧ w'.ownsRow w.heap.size 53 4 (.slice ad W.T.length cap) W.T.length (fl W.T) ∧ W.T.length ≤ 7 ∧ Below w.heap.size w w'
set_option maxRecDepth 20000 in
set_option maxHeartbeats 8000000 in
theorem drawWW_any (a : Option Addr) (len cap : Nat) (w : World) (h : Bytes w.heap.size w a len) (hl : len ≤ cap) :
    Calls Tryz.prog 21 #[.slice a len cap] w (WdRet w) := by
  go_enter Tryz.func21, Tryz.ntmps21
  go_wp2_with fail
  have b0 := balloc (.cells #[.int .i64 0, .int .i64 0, .int .i64 0, .int .i64 0, .int .i64 0, .int .i64 0, .int .i64 0, .int .i64 0, .int .i64 0, .int .i64 0, .slice none 0 0] 35) (Below.refl w.heap.size w)
  have X0 : Ws (w.alloc (.cells #[.int .i64 0, .int .i64 0, .int .i64 0, .int .i64 0, .int .i64 0, .int .i64 0, .int .i64 0, .int .i64 0, .int .i64 0, .int .i64 0, .slice none 0 0] 35)) w.heap.size zW := Ws.new (heap_alloc_new w (.cells #[.int .i64 0, .int .i64 0, .int .i64 0, .int .i64 0, .int .i64 0, .int .i64 0, .int .i64 0, .int .i64 0, .int .i64 0, .int .i64 0, .slice none 0 0] 35))
  have h0 := h.below b0 (Nat.le_refl _)
  generalize w.alloc (.cells #[.int .i64 0, .int .i64 0, .int .i64 0, .int .i64 0, .int .i64 0, .int .i64 0, .int .i64 0, .int .i64 0, .int .i64 0, .int .i64 0, .slice none 0 0] 35) = u0 at *
  refine (open_any w.heap.size a len cap _ b0.size h0 hl).mono ?_
  rintro r w1 ⟨rfl, ⟨G, r1⟩, b1, z1⟩
  have X1 := X0.below b1
  go_wp2_with fail
  refine (anyWord_any w.heap.size u0.heap.size 0 _ r1 (by omega)).mono ?_
  rintro r w2 ⟨vp, vk, vf, vt, vs, vq, vx, vy, vz, ve, ad, cp, T, pp, rfl, hown, hT, hnil, -, r2, o2⟩
  have hne : w.heap.size ≠ u0.heap.size := by have := X0.lt; omega
  have X2 := X1.off o2 hne
  have B2 : Below w.heap.size w w2 := (btrans b0 b1).trans (o2.below b0.size (Nat.le_trans b0.size b1.size))
  have hlt : w.heap.size < w1.heap.size := X1.lt
  clear X0 X1 b0 b1 r1 r2 o2 z1
  have d0 := X2.c 0 _ rfl
  have z0 := X2.z 0
  have d1 := X2.c 1 _ rfl
  have z1 := X2.z 1
  have d2 := X2.c 2 _ rfl
  have z2 := X2.z 2
  have d3 := X2.c 3 _ rfl
  have z3 := X2.z 3
  have d4 := X2.c 4 _ rfl
  have z4 := X2.z 4
  have d5 := X2.c 5 _ rfl
  have z5 := X2.z 5
  have d6 := X2.c 6 _ rfl
  have z6 := X2.z 6
  have d7 := X2.c 7 _ rfl
  have z7 := X2.z 7
  have d8 := X2.c 8 _ rfl
  have z8 := X2.z 8
  have d9 := X2.c 9 _ rfl
  have z9 := X2.z 9
  have d10 := X2.c 10 _ rfl
  have z10 := X2.z 10
  have Y : Ws _ w.heap.size [.int .i64 vp, .int .i64 vk, .int .i64 vf, .int .i64 vt, .int .i64 vs, .int .i64 vq, .int .i64 vx, .int .i64 vy, .int .i64 vz, .int .i64 ve, .slice ad T.length cp] := (((((((((((X2.set 0 (by simp [zW]) (.int .i64 vp)).set 1 (by simp [zW]) (.int .i64 vk)).set 2 (by simp [zW]) (.int .i64 vf)).set 3 (by simp [zW]) (.int .i64 vt)).set 4 (by simp [zW]) (.int .i64 vs)).set 5 (by simp [zW]) (.int .i64 vq)).set 6 (by simp [zW]) (.int .i64 vx)).set 7 (by simp [zW]) (.int .i64 vy)).set 8 (by simp [zW]) (.int .i64 vz)).set 9 (by simp [zW]) (.int .i64 ve)).set 10 (by simp [zW]) (.slice ad T.length cp))
  have BY := (((((((((((B2.setCell (p := ⟨w.heap.size, 0, none⟩) (Nat.le_refl _) (.int .i64 vp)).setCell (p := ⟨w.heap.size, 1, none⟩) (Nat.le_refl _) (.int .i64 vk)).setCell (p := ⟨w.heap.size, 2, none⟩) (Nat.le_refl _) (.int .i64 vf)).setCell (p := ⟨w.heap.size, 3, none⟩) (Nat.le_refl _) (.int .i64 vt)).setCell (p := ⟨w.heap.size, 4, none⟩) (Nat.le_refl _) (.int .i64 vs)).setCell (p := ⟨w.heap.size, 5, none⟩) (Nat.le_refl _) (.int .i64 vq)).setCell (p := ⟨w.heap.size, 6, none⟩) (Nat.le_refl _) (.int .i64 vx)).setCell (p := ⟨w.heap.size, 7, none⟩) (Nat.le_refl _) (.int .i64 vy)).setCell (p := ⟨w.heap.size, 8, none⟩) (Nat.le_refl _) (.int .i64 vz)).setCell (p := ⟨w.heap.size, 9, none⟩) (Nat.le_refl _) (.int .i64 ve)).setCell (p := ⟨w.heap.size, 10, none⟩) (Nat.le_refl _) (.slice ad T.length cp))
  have oY := own_mono (Nat.le_of_lt hlt) (own_set (b := w.heap.size) (k := 10) (.slice ad T.length cp) (own_set (b := w.heap.size) (k := 9) (.int .i64 ve) (own_set (b := w.heap.size) (k := 8) (.int .i64 vz) (own_set (b := w.heap.size) (k := 7) (.int .i64 vy) (own_set (b := w.heap.size) (k := 6) (.int .i64 vx) (own_set (b := w.heap.size) (k := 5) (.int .i64 vq) (own_set (b := w.heap.size) (k := 4) (.int .i64 vs) (own_set (b := w.heap.size) (k := 3) (.int .i64 vt) (own_set (b := w.heap.size) (k := 2) (.int .i64 vf) (own_set (b := w.heap.size) (k := 1) (.int .i64 vk) (own_set (b := w.heap.size) (k := 0) (.int .i64 vp) hown hlt) hlt) hlt) hlt) hlt) hlt) hlt) hlt) hlt) hlt) hlt)
  go_wp2
  clear d0 d1 d2 d3 d4 d5 d6 d7 d8 d9 d10
  generalize (((((((((((w2.setCell ⟨w.heap.size, 0, none⟩ (.int .i64 vp)).setCell ⟨w.heap.size, 1, none⟩ (.int .i64 vk)).setCell ⟨w.heap.size, 2, none⟩ (.int .i64 vf)).setCell ⟨w.heap.size, 3, none⟩ (.int .i64 vt)).setCell ⟨w.heap.size, 4, none⟩ (.int .i64 vs)).setCell ⟨w.heap.size, 5, none⟩ (.int .i64 vq)).setCell ⟨w.heap.size, 6, none⟩ (.int .i64 vx)).setCell ⟨w.heap.size, 7, none⟩ (.int .i64 vy)).setCell ⟨w.heap.size, 8, none⟩ (.int .i64 vz)).setCell ⟨w.heap.size, 9, none⟩ (.int .i64 ve)).setCell ⟨w.heap.size, 10, none⟩ (.slice ad T.length cp)) = w9 at *
  have d0 := Y.c 0 (.int .i64 vp) rfl
  have d1 := Y.c 1 (.int .i64 vk) rfl
  have d2 := Y.c 2 (.int .i64 vf) rfl
  have d3 := Y.c 3 (.int .i64 vt) rfl
  have d4 := Y.c 4 (.int .i64 vs) rfl
  have d5 := Y.c 5 (.int .i64 vq) rfl
  have d6 := Y.c 6 (.int .i64 vx) rfl
  have d7 := Y.c 7 (.int .i64 vy) rfl
  have d8 := Y.c 8 (.int .i64 vz) rfl
  have d9 := Y.c 9 (.int .i64 ve) rfl
  have d10 := Y.c 10 (.slice ad T.length cp) rfl
  exact bodyPost_ret (v := .agg #[.int .i64 vp, .int .i64 vk, .int .i64 vf, .int .i64 vt, .int .i64 vs, .int .i64 vq, .int .i64 vx, .int .i64 vy, .int .i64 vz, .int .i64 ve, .slice ad T.length cp]) (by simp [results, Tryz.results21, go_sem, d0, d1, d2, d3, d4, d5, d6, d7, d8, d9, d10]) rfl ⟨⟨vp, vk, vf, vt, vs, vq, vx, vy, vz, ve, T⟩, ad, cp, rfl, oY, hT, BY⟩
end Go.Proofs.YtibnojbhoepcdaaGreatDoor
