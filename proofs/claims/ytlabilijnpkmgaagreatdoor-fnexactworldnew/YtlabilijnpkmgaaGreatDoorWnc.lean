/- Exact WorldNew's walk. -/
import Derived.Test.YtlabilijnpkmgaaGreatDoorWna
import Derived.Test.YtlabilijnpkmgaaGreatDoorWnb
namespace Go.Proofs.YtlabilijnpkmgaaGreatDoor
open Go.ChangeShapes Go.WideShapes Go.ChangeAt Go.RowKit
attribute [local go_sem ↓] Go.wp_at_zero Go.wp_at_succ
theorem Ws.mw {S : Nat → Prop} {w w' : World} {b : Nat} {xs : List Value} (h : Ws w b xs) (m : Mw S w w') (q : ¬ S b) : Ws w' b xs :=
  ⟨Nat.lt_of_lt_of_le h.lt m.size, fun i v hv => m.cell (h.c i v hv) q, fun o => (World.frozen?_of_block (a := ⟨b, o, none⟩) (m.block b h.lt q)).trans (h.z o)⟩
theorem heldWorld_any (base nb sb : Nat) (tb : Nat → Nat) (bi : Option Addr) (bj : Nat) (w : World) (h : HW w base nb sb bi bj tb) :
    Calls Tryz.prog 8 #[.agg #[.slice (some ⟨nb, 0, none⟩) 8 8, .slice none 0 0, .slice (some ⟨sb, 0, none⟩) 8 8, .slice bi 8 bj], .int .i64 1] w fun r w' => r = .returned (.int .i64 201) ∧ Below w.heap.size w w' := by
  go_enter Tryz.func8, Tryz.ntmps8
  go_upto_region 1 with fail
  have b0 := balloc (.cells #[.slice (some ⟨nb, 0, none⟩) 8 8, .slice none 0 0, .slice (some ⟨sb, 0, none⟩) 8 8, .slice bi 8 bj] 27) (Below.refl w.heap.size w)
  have X := Ws.box (w := w) #[.slice (some ⟨nb, 0, none⟩) 8 8, .slice none 0 0, .slice (some ⟨sb, 0, none⟩) 8 8, .slice bi 8 bj] 27
  have hu := h.below b0
  generalize w.alloc (.cells #[.slice (some ⟨nb, 0, none⟩) 8 8, .slice none 0 0, .slice (some ⟨sb, 0, none⟩) 8 8, .slice bi 8 bj] 27) = u at *
  obtain ⟨xb, hxb⟩ : ∃ x, Hid (w.heap.size = x) := ⟨_, rfl⟩
  rw [hxb.out] at X ⊢
  have c0 := X.c 0 _ rfl
  have c1 := X.c 1 _ rfl
  have c2 := X.c 2 _ rfl
  have c3 := X.c 3 _ rfl
  have hn := heldNodeS_any nb 8 tb u hu.n
  have hi := heldI_own base 8 (.slice (some ⟨sb, 0, none⟩) 8 8) 161 u hu.d (by omega) (by omega)
  have hf := heldF_own base 8 (.slice bi 8 bj) 169 u hu.b (by omega) (by omega)
  have hn' : Hid _ := hn
  have hi' : Hid (Calls Tryz.prog 26 #[.slice (some ⟨sb, 0, none⟩) 8 8, .int .i64 161] u _) := hi
  have hf' : Hid (Calls Tryz.prog 27 #[.slice bi 8 bj, .int .i64 169] u _) := hf
  clear hn hi hf hu h X
  go_wp2_with fail
  refine Calls.mono hn'.out ?_
  rintro r v ⟨rfl, hv⟩
  obtain rfl := hv.symm
  clear hv hn'
  go_wp2_with fail
  refine (heldFlightS_nil 161 _).mono ?_
  rintro r v ⟨rfl, hv⟩
  obtain rfl := hv.symm
  clear hv
  go_wp2_with fail
  refine Calls.mono hi'.out ?_
  rintro r v ⟨rfl, hv⟩
  obtain rfl := hv.symm
  clear hv hi'
  go_wp2_with fail
  refine Calls.mono hf'.out ?_
  rintro r v ⟨rfl, hv⟩
  obtain rfl := hv.symm
  clear hv hf'
  go_wp2
  go_ret
  exact ⟨rfl, b0⟩
theorem sides_isl {w : World} {base : Nat} {v : Value} (h : w.ownsRow base 3 1 v 8 (rv (fun _ => .int .i64 0) (8 * 1))) : ∃ a c, v = .slice a 8 c ∧ ISl w a 8 (fun _ => 0) := by
  obtain ⟨a, c, h1, _, h2⟩ := own_ints (f := fun _ => 0) (show w.ownsRow base 3 1 v 8 (iv (fun _ => 0) 8) from h)
  exact ⟨a, c, h1, h2⟩
theorem born_fsl {w : World} {base : Nat} {v : Value} (h : w.ownsRow base 45 4 v (bF 8).length (fl (bF 8))) : ∃ a c, v = .slice a 8 c ∧ FSl w a 8 (fun k => (bF 8).getD k Fc.zero) := by
  rw [bF_len] at h
  obtain ⟨a, c, h1, _, _, h2⟩ := own_facts h
  exact ⟨a, c, h1, h2⟩
/-- what a world new is to those who compare it -/
theorem NwI.eqs {w : World} {base sc nb sb rb : Nat} {tb : Nat → Nat} {bi : Option Addr} {bj : Nat} (h : NwI w base sc nb sb rb tb (.slice bi 8 bj) 8) : NRd w nb tb ∧ ISl w (some ⟨sb, 0, none⟩) 8 (fun _ => 0) ∧ FSl w bi 8 (fun k => (bF 8).getD k Fc.zero) := by
  refine ⟨h.rd, ?_, ?_⟩
  · obtain ⟨a, c, e, q⟩ := sides_isl (show w.ownsRow base 3 1 (.slice (some ⟨sb, 0, none⟩) 8 8) 8 (rv (fun _ => .int .i64 0) (8 * 1)) from h.d)
    injection e with e
    exact e ▸ q
  · obtain ⟨a, c, e, q⟩ := born_fsl h.b
    injection e with e
    exact e ▸ q
set_option maxRecDepth 20000 in
set_option maxHeartbeats 4000000 in
theorem exWorldNew_walk (W : World) : Calls Tryz.prog 3 #[] W fun e W' => e = .returned (.bool true) ∧ Below W.heap.size W W' := by
  go_enter Tryz.func3, Tryz.ntmps3
  go_wp2_with fail
  refine (wnewS_any _).mono ?_
  rintro r w1 ⟨⟨wb, tb0, na, nc, sa, sc, ba, bc, rfl, hS⟩, k1⟩
  obtain ⟨g0, gc0, hv0, rd0⟩ := hS.rd
  obtain ⟨sa0, sc0, hv1, is0⟩ := sides_isl hS.d
  obtain ⟨ba0, bc0, hv2, fs0⟩ := born_fsl hS.b
  rw [hv0, hv1, hv2]
  clear hv0 hv1 hv2 hS
  go_upto_region 2 with fail
  have WA : Ws (w1.alloc (.cells #[.slice (some ⟨g0, 0, none⟩) 8 gc0, .slice none 0 0, .slice sa0 8 sc0, .slice ba0 8 bc0] 27)) w1.heap.size [.slice (some ⟨g0, 0, none⟩) 8 gc0, .slice none 0 0, .slice sa0 8 sc0, .slice ba0 8 bc0] := Ws.box (w := w1) #[.slice (some ⟨g0, 0, none⟩) 8 gc0, .slice none 0 0, .slice sa0 8 sc0, .slice ba0 8 bc0] 27
  have bA : Below w1.heap.size w1 (w1.alloc (.cells #[.slice (some ⟨g0, 0, none⟩) 8 gc0, .slice none 0 0, .slice sa0 8 sc0, .slice ba0 8 bc0] 27)) := balloc (.cells #[.slice (some ⟨g0, 0, none⟩) 8 gc0, .slice none 0 0, .slice sa0 8 sc0, .slice ba0 8 bc0] 27) (Below.refl w1.heap.size w1)
  generalize (w1.alloc (.cells #[.slice (some ⟨g0, 0, none⟩) 8 gc0, .slice none 0 0, .slice sa0 8 sc0, .slice ba0 8 bc0] 27)) = u1 at *
  obtain ⟨xA, hxA⟩ : ∃ x, Hid (w1.heap.size = x) := ⟨_, rfl⟩
  rw [hxA.out] at WA ⊢
  go_wp2_with fail
  refine (wnewI_any _).mono ?_
  rintro r w2 ⟨⟨sx, nb, sb, rb, tb, bi, bj, rfl, hN⟩, k2⟩
  go_upto_region 3 with fail
  have WB : Ws (w2.alloc (.cells #[.slice (some ⟨nb, 0, none⟩) 8 8, .slice none 0 0, .slice (some ⟨sb, 0, none⟩) 8 8, .slice bi 8 bj] 27)) w2.heap.size [.slice (some ⟨nb, 0, none⟩) 8 8, .slice none 0 0, .slice (some ⟨sb, 0, none⟩) 8 8, .slice bi 8 bj] := Ws.box (w := w2) #[.slice (some ⟨nb, 0, none⟩) 8 8, .slice none 0 0, .slice (some ⟨sb, 0, none⟩) 8 8, .slice bi 8 bj] 27
  have bB : Below w2.heap.size w2 (w2.alloc (.cells #[.slice (some ⟨nb, 0, none⟩) 8 8, .slice none 0 0, .slice (some ⟨sb, 0, none⟩) 8 8, .slice bi 8 bj] 27)) := balloc (.cells #[.slice (some ⟨nb, 0, none⟩) 8 8, .slice none 0 0, .slice (some ⟨sb, 0, none⟩) 8 8, .slice bi 8 bj] 27) (Below.refl w2.heap.size w2)
  generalize (w2.alloc (.cells #[.slice (some ⟨nb, 0, none⟩) 8 8, .slice none 0 0, .slice (some ⟨sb, 0, none⟩) 8 8, .slice bi 8 bj] 27)) = u2 at *
  obtain ⟨xB, hxB⟩ : ∃ x, Hid (w2.heap.size = x) := ⟨_, rfl⟩
  rw [hxB.out] at WB ⊢
  have kAB : Below u1.heap.size u1 u2 := btrans k2 bB
  have hSB : (fun b => u1.heap.size + 1 ≤ b ∧ b < xB) nb ∧ (fun b => u1.heap.size + 1 ≤ b ∧ b < xB) sb ∧ (∀ i, i < 8 → (fun b => u1.heap.size + 1 ≤ b ∧ b < xB) (tb i)) ∧ ∀ x, (Value.slice bi 8 bj).ownBlock = some x → (fun b => u1.heap.size + 1 ≤ b ∧ b < xB) x := by
    rw [← hxB.out]
    exact ⟨hN.n.lt nb rfl, hN.d.lt sb rfl, fun i hi => ⟨(hN.t i hi).2.1, (hN.t i hi).1.lt⟩, fun x e => hN.b.lt x e⟩
  have hSB' : Hid _ := hSB
  clear hSB
  have hN2 := hN.below bB
  have hbI : w1.heap.size ≤ u1.heap.size := bA.size
  obtain ⟨e1, e2, e3⟩ := hN2.eqs
  have K12 : Below w1.heap.size w1 u2 := bA.trans (kAB.mono hbI)
  have rd0' : Hid _ := rd0
  have is0' : Hid _ := is0
  have fs0' : Hid _ := fs0
  have hN2' : Hid _ := hN2
  have hq := eqWorld_any nb g0 8 gc0 tb tb0 (some ⟨sb, 0, none⟩) sa0 bi ba0 8 sc0 bj bc0 (fun k => (bF 8).getD k Fc.zero) u2 e1 (rd0.below K12) e2 (is0.below K12) e3 (fs0.below K12)
  have hq' : Hid _ := hq
  have lA := WA.lt
  have lB := WB.lt
  have a0 := keep_below kAB (WA.c 0 _ rfl)
  have a1 := keep_below kAB (WA.c 1 _ rfl)
  have a2 := keep_below kAB (WA.c 2 _ rfl)
  have a3 := keep_below kAB (WA.c 3 _ rfl)
  have b0 := WB.c 0 _ rfl
  have b1 := WB.c 1 _ rfl
  have b2 := WB.c 2 _ rfl
  have b3 := WB.c 3 _ rfl
  clear rd0 is0 fs0 hN2 hq e1 e2 e3 hN k2
  go_wp2_with fail
  refine Calls.mono hq'.out ?_
  rintro r u3 ⟨rfl, k3⟩
  have hN3 := hN2'.out.below k3
  have hm := markWorld_any _ sx nb sb rb tb bi bj u3 hN3 (fun b => u1.heap.size + 1 ≤ b ∧ b < xB) hSB'.out
  have hm' : Hid _ := hm
  clear a0 a1 a2 a3
  clear b0 b1 b2 b3
  have b0 := keep_below k3 (WB.c 0 _ rfl)
  have b1 := keep_below k3 (WB.c 1 _ rfl)
  have b2 := keep_below k3 (WB.c 2 _ rfl)
  have b3 := keep_below k3 (WB.c 3 _ rfl)
  clear hm hN3 hq'
  go_wp2_with fail
  refine Calls.mono hm'.out ?_
  rintro r u4 ⟨rfl, hH, m4⟩
  have hh := heldWorld_any _ nb sb tb bi bj u4 hH
  have hh' : Hid _ := hh
  have hxa := hxA.out
  have hxb := hxB.out
  have m34 : Mw (fun b => u1.heap.size + 1 ≤ b ∧ b < xB) u2 u4 := (Mw.of_below k3).trans m4
  have W4A : Ws u4 xA [.slice (some ⟨g0, 0, none⟩) 8 gc0, .slice none 0 0, .slice sa0 8 sc0, .slice ba0 8 bc0] := (WA.below kAB).mw m34 (fun q => by have := q.1; omega)
  have W4B : Ws u4 xB [.slice (some ⟨nb, 0, none⟩) 8 8, .slice none 0 0, .slice (some ⟨sb, 0, none⟩) 8 8, .slice bi 8 bj] := WB.mw m34 (fun q => by have := q.2; omega)
  have K4 : Below u1.heap.size u1 u4 := kAB.trans ⟨m34.os, m34.tape, m34.output, m34.size, fun i hi => m34.block i (Nat.lt_of_lt_of_le hi kAB.size) (fun q => by have := q.1; omega)⟩
  clear b0 b1 b2 b3
  have d0 := W4B.c 0 _ rfl
  have d1 := W4B.c 1 _ rfl
  have d2 := W4B.c 2 _ rfl
  have d3 := W4B.c 3 _ rfl
  clear hm' m34 m4 k3 WA WB kAB K12
  go_wp2_with fail
  refine Calls.mono hh'.out ?_
  rintro r u5 ⟨rfl, k5⟩
  have H5 := hH.below k5
  have W5A := W4A.below k5
  have W5B := W4B.below k5
  have K5 := K4.trans (k5.mono K4.size)
  clear hh' d0 d1 d2 d3 hH W4A W4B K4 k5
  go_wp2_with fail
  refine (wnewI_any _).mono ?_
  rintro r u6 ⟨⟨sy, nh, sh, rh, th, bh, bg, rfl, hN6⟩, k6⟩
  go_upto_region 14 with fail
  have WC : Ws (u6.alloc (.cells #[.slice (some ⟨nh, 0, none⟩) 8 8, .slice none 0 0, .slice (some ⟨sh, 0, none⟩) 8 8, .slice bh 8 bg] 27)) u6.heap.size [.slice (some ⟨nh, 0, none⟩) 8 8, .slice none 0 0, .slice (some ⟨sh, 0, none⟩) 8 8, .slice bh 8 bg] := Ws.box (w := u6) #[.slice (some ⟨nh, 0, none⟩) 8 8, .slice none 0 0, .slice (some ⟨sh, 0, none⟩) 8 8, .slice bh 8 bg] 27
  have bC : Below u6.heap.size u6 (u6.alloc (.cells #[.slice (some ⟨nh, 0, none⟩) 8 8, .slice none 0 0, .slice (some ⟨sh, 0, none⟩) 8 8, .slice bh 8 bg] 27)) := balloc (.cells #[.slice (some ⟨nh, 0, none⟩) 8 8, .slice none 0 0, .slice (some ⟨sh, 0, none⟩) 8 8, .slice bh 8 bg] 27) (Below.refl u6.heap.size u6)
  generalize (u6.alloc (.cells #[.slice (some ⟨nh, 0, none⟩) 8 8, .slice none 0 0, .slice (some ⟨sh, 0, none⟩) 8 8, .slice bh 8 bg] 27)) = u7 at *
  obtain ⟨xC, hxC⟩ : ∃ x, Hid (u6.heap.size = x) := ⟨_, rfl⟩
  rw [hxC.out] at WC ⊢
  have k57 : Below u5.heap.size u5 u7 := btrans k6 bC
  have H7 := H5.below k57
  have W7A := W5A.below k57
  have W7B := W5B.below k57
  have K7 := K5.trans (k57.mono K5.size)
  have hN7 := hN6.below bC
  obtain ⟨e1, e2, e3⟩ := hN7.eqs
  have K17 : Below w1.heap.size w1 u7 := bA.trans (K7.mono hbI)
  have hq7 := eqWorld_any nh g0 8 gc0 th tb0 (some ⟨sh, 0, none⟩) sa0 bh ba0 8 sc0 bg bc0 (fun k => (bF 8).getD k Fc.zero) u7 e1 (NRd.below rd0'.out K17) e2 (ISl.below is0'.out K17) e3 (FSl.below fs0'.out K17)
  have hq7' : Hid _ := hq7
  have d0 := W7A.c 0 _ rfl
  have d1 := W7A.c 1 _ rfl
  have d2 := W7A.c 2 _ rfl
  have d3 := W7A.c 3 _ rfl
  have f0 := WC.c 0 _ rfl
  have f1 := WC.c 1 _ rfl
  have f2 := WC.c 2 _ rfl
  have f3 := WC.c 3 _ rfl
  clear hq7 e1 e2 e3 hN7 hN6 k6 k57 H5 W5A W5B K5 WC bC W7A
  go_wp2_with fail
  refine Calls.mono hq7'.out ?_
  rintro r u8 ⟨rfl, k8⟩
  have H8 := H7.below k8
  have W8B := W7B.below k8
  have K8 := K7.trans (k8.mono K7.size)
  have hh8 := heldWorld_any _ nb sb tb bi bj u8 H8
  have hh8' : Hid _ := hh8
  clear d0 d1 d2 d3 f0 f1 f2 f3 hq7' H7 H8 W7B K7 hh8
  have d0 := W8B.c 0 _ rfl
  have d1 := W8B.c 1 _ rfl
  have d2 := W8B.c 2 _ rfl
  have d3 := W8B.c 3 _ rfl
  clear W8B
  go_wp2_with fail
  refine Calls.mono hh8'.out ?_
  rintro r u9 ⟨rfl, k9⟩
  clear d0 d1 d2 d3 hh8'
  have K9 := K8.trans (k9.mono K8.size)
  have KF : Below W.heap.size W u9 := btrans k1 (bA.trans (K9.mono hbI))
  go_wp2
  go_ret
  exact ⟨rfl, KF⟩
end Go.Proofs.YtlabilijnpkmgaaGreatDoor
