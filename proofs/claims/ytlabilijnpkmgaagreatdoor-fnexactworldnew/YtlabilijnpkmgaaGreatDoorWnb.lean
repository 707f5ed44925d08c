/- Marks in a new world. -/
import Derived.Test.YtlabilijnpkmgaaGreatDoorWn9
import Derived.Test.YtlabilijnpkmgaaGreatDoorMk1
namespace Go.Proofs.YtlabilijnpkmgaaGreatDoor
open Go.ChangeShapes Go.WideShapes Go.ChangeAt Go.RowKit
attribute [local go_sem ↓] Go.wp_at_zero Go.wp_at_succ
theorem markFlightS_nil (k : Int) (w : World) : Calls Tryz.prog 21 #[.slice none 0 0, .int .i64 k] w fun r w' => r = .returned (.int .i64 k) ∧ w' = w := by
  go_enter Tryz.func21, Tryz.ntmps21
  go_wp2
  refine wp_loop_rounds 1 ?_
  rw [rounds_succ]
  go_wp2
  go_ret
  exact ⟨rfl, rfl⟩
theorem heldFlightS_nil (k : Int) (w : World) : Calls Tryz.prog 25 #[.slice none 0 0, .int .i64 k] w fun r w' => r = .returned (.int .i64 k) ∧ w' = w := by
  go_enter Tryz.func25, Tryz.ntmps25
  go_wp2
  refine wp_loop_rounds 1 ?_
  rw [rounds_succ]
  go_wp2
  go_ret
  exact ⟨rfl, rfl⟩
theorem Mkd.block {w w' : World} {g i : Nat} {tb : Nat → Nat} (h : Mkd w g tb i) (e : w'.heap[g]? = w.heap[g]?) (e' : w'.heap[tb i]? = w.heap[tb i]?) : Mkd w' g tb i := ⟨h.1.block e, h.2.block e'⟩
/-- a world with its marks -/
structure HW (w : World) (base nb sb : Nat) (ba : Option Addr) (bc : Nat) (tb : Nat → Nat) : Prop where
  n : ∀ i, i < 8 → Mkd w nb tb i
  d : w.ownsRow base 3 1 (.slice (some ⟨sb, 0, none⟩) 8 8) 8 (rv (mkI 161) (8 * 1))
  b : w.ownsRow base 45 4 (.slice ba 8 bc) 8 (rv (mkF 169) (8 * 4))
theorem HW.below {w w' : World} {base nb sb : Nat} {ba : Option Addr} {bc : Nat} {tb : Nat → Nat} (h : HW w base nb sb ba bc tb) (k : Below w.heap.size w w') : HW w' base nb sb ba bc tb :=
  ⟨fun i hi => (h.n i hi).block (k.block nb (h.n i hi).1.lt) (k.block (tb i) (h.n i hi).2.lt), own_below h.d k, own_below h.b k⟩
theorem NwI.wo {w : World} {base sc nb sb rb : Nat} {tb : Nat → Nat} {vb : Value} (h : NwI w base sc nb sb rb tb vb 8) : ∀ i, i < 8 → Wo w nb (i * 21) (okN (i : Int) (gtB i) (.slice (some ⟨tb i, 0, none⟩) 1 1)).toList ∧ Row1 w (tb i) (i : Int) 0 1 (gtB i) := fun i hi => by
  obtain ⟨h1, h2⟩ := h.rd
  obtain ⟨r1, r2⟩ := h2 i hi
  exact ⟨⟨h1, fun j v hj => r1 j v hj, fun j => h.n.frozenAt (i * 21 + j)⟩, r2⟩
set_option maxRecDepth 20000 in
set_option maxHeartbeats 4000000 in
theorem markWorld_any (base sc nb sb rb : Nat) (tb : Nat → Nat) (ba : Option Addr) (bc : Nat) (w : World) (h : NwI w base sc nb sb rb tb (.slice ba 8 bc) 8) (S : Nat → Prop) (hS : S nb ∧ S sb ∧ (∀ i, i < 8 → S (tb i)) ∧ ∀ x, (Value.slice ba 8 bc).ownBlock = some x → S x) :
    Calls Tryz.prog 7 #[.agg #[.slice (some ⟨nb, 0, none⟩) 8 8, .slice none 0 0, .slice (some ⟨sb, 0, none⟩) 8 8, .slice ba 8 bc], .int .i64 1] w fun r w' => r = .returned (.int .i64 201) ∧ HW w' base nb sb ba bc tb ∧ Mw S w w' := by
  go_enter Tryz.func7, Tryz.ntmps7
  go_upto_region 1 with fail
  have b0 := balloc (.cells #[.slice (some ⟨nb, 0, none⟩) 8 8, .slice none 0 0, .slice (some ⟨sb, 0, none⟩) 8 8, .slice ba 8 bc] 27) (Below.refl w.heap.size w)
  have X := Ws.box (w := w) #[.slice (some ⟨nb, 0, none⟩) 8 8, .slice none 0 0, .slice (some ⟨sb, 0, none⟩) 8 8, .slice ba 8 bc] 27
  have hN := h.below b0
  have q1 := (h.n.lt nb rfl).2
  have q2 := (h.d.lt sb rfl).2
  have q3 : ∀ x, (Value.slice ba 8 bc).ownBlock = some x → x < w.heap.size := fun x e => (h.b.lt x e).2
  have q4 : ∀ i, i < 8 → tb i < w.heap.size := fun i hi => (h.t i hi).1.lt
  generalize w.alloc (.cells #[.slice (some ⟨nb, 0, none⟩) 8 8, .slice none 0 0, .slice (some ⟨sb, 0, none⟩) 8 8, .slice ba 8 bc] 27) = u at *
  obtain ⟨xb, hxb⟩ : ∃ x, Hid (w.heap.size = x) := ⟨_, rfl⟩
  rw [hxb.out] at X q1 q2 ⊢
  have hdd : u.ownsRow base 3 1 (.slice (some ⟨sb, 0, none⟩) 8 8) 8 (rv (fun _ => .int .i64 0) (8 * 1)) := hN.d
  have hbb := hN.b
  rw [bF_len] at hbb
  obtain ⟨fx, hfx⟩ : ∃ fx : Nat → Value, fl (bF 8) = rv fx (8 * 4) := ⟨fun i => (fl (bF 8)).getD i (.int .i64 0), rv_ext hbb.1 (fun j hj => by rw [List.getD_eq_getElem?_getD, List.getElem?_eq_getElem (by rw [hbb.1]; exact hj)]; rfl)⟩
  rw [hfx] at hbb
  have c0 := X.c 0 _ rfl
  have gne : ∀ i, i < 8 → tb i ≠ nb := fun i hi => (hN.t i hi).2.2.2.1
  have hmn := markNodeS_any nb 8 tb u hN.wo gne (fun i j hij hj => hN.e i j hij hj)
  have hX : ∀ v, Mw (fun b => b ≠ xb) u v → v.cell? ⟨xb, 1, none⟩ = some (.slice none 0 0) ∧ v.cell? ⟨xb, 2, none⟩ = some (.slice (some ⟨sb, 0, none⟩) 8 8) ∧ v.cell? ⟨xb, 3, none⟩ = some (.slice ba 8 bc) := fun v m =>
    ⟨m.cell (X.c 1 _ rfl) (fun q => q rfl), m.cell (X.c 2 _ rfl) (fun q => q rfl), m.cell (X.c 3 _ rfl) (fun q => q rfl)⟩
  have hX' : Hid _ := hX
  have hmn' : Hid _ := hmn
  have hN' : Hid _ := hN
  have h' : Hid _ := h
  have hdd' : Hid _ := hdd
  have hbb' : Hid _ := hbb
  clear hX hmn hN h hdd hbb hfx X
  go_wp2_with fail
  refine Calls.mono hmn'.out ?_
  rintro r u1 ⟨rfl, hM, m1⟩
  have nS : ∀ x, (x = nb ∨ ∃ i, i < 8 ∧ x = tb i) → base ≤ x ∧ x ≠ xb := fun x q => by
    rcases q with rfl | ⟨i, hi, rfl⟩
    · exact ⟨(h'.out.n.lt x rfl).1, by omega⟩
    · exact ⟨(h'.out.t i hi).2.1, by have := q4 i hi; have := hxb.out; omega⟩
  have hd1 := own_mw hdd'.out m1 (fun x e q => by
    cases e
    rcases q with q | ⟨i, hi, q⟩
    · exact own_apart hdd'.out hN'.out.n (by decide) sb rfl (by have q' : sb = nb := q; rw [q']; rfl)
    · exact (hN'.out.t i hi).2.2.2.2.1 q.symm)
  have hb1 := own_mw hbb'.out m1 (fun x e q => by
    rcases q with q | ⟨i, hi, q⟩
    · exact own_apart hbb'.out hN'.out.n (by decide) x e (by rw [q]; rfl)
    · exact (hN'.out.t i hi).2.2.2.2.2 (q ▸ e))
  obtain ⟨c1, c2, _⟩ := hX'.out u1 (m1.mono (fun x q => (nS x q).2))
  clear c0
  have hmi := markI_own base 8 (.slice (some ⟨sb, 0, none⟩) 8 8) (fun _ => .int .i64 0) 161 u1 hd1 (by omega) (by omega)
  have hmi' : Calls Tryz.prog 22 #[.slice (some ⟨sb, 0, none⟩) 8 8, .int .i64 161] u1 _ := hmi
  have hmi'' : Hid _ := hmi'
  have hd1' : Hid _ := hd1
  have hb1' : Hid _ := hb1
  have hM' : Hid _ := hM
  clear hmi hmi' hmn' hd1 hb1 hM
  go_wp2_with fail
  refine (markFlightS_nil 161 _).mono ?_
  rintro r v0 ⟨rfl, hv⟩
  obtain rfl := hv.symm
  clear hv
  go_wp2_with fail
  refine Calls.mono hmi''.out ?_
  rintro r u2 ⟨rfl, hI2, g2⟩
  have m2 : Mw (fun b => b = sb) u1 u2 := Mw.grown g2 (fun x e => by cases e; rfl)
  have hb2 := own_mw hb1'.out m2 (fun x e q => own_apart hb1'.out hd1'.out (by decide) x e (by rw [q]; rfl))
  obtain ⟨_, _, c3⟩ := hX'.out u2 ((m1.mono (fun x q => (nS x q).2)).trans (m2.mono (fun x q => by omega)))
  clear c1 c2
  have hmf := markF_own base 8 (.slice ba 8 bc) fx 169 u2 hb2 (by omega) (by omega)
  have hmf' : Calls Tryz.prog 23 #[.slice ba 8 bc, .int .i64 169] u2 _ := hmf
  have hmf'' : Hid _ := hmf'
  have hb2' : Hid _ := hb2
  have hI2' : Hid _ := hI2
  clear hmf hmf' hmi'' hb2 hI2
  go_wp2_with fail
  refine Calls.mono hmf''.out ?_
  rintro r u3 ⟨rfl, hF3, g3⟩
  have m3 : Mw (fun b => (Value.slice ba 8 bc).ownBlock = some b) u2 u3 := Mw.grown g3 (fun x e => e)
  have hI3 := own_mw hI2'.out m3 (fun x e q => own_apart hI2'.out hb2'.out (by decide) x e q)
  have hM3 : ∀ i, i < 8 → Mkd u3 nb tb i := fun i hi => by
    have nb2 : nb ≠ sb := fun e => own_apart hN'.out.n hdd'.out (by decide) nb rfl (by rw [e]; rfl)
    have nb3 : (Value.slice ba 8 bc).ownBlock ≠ some nb := fun e => own_apart hbb'.out hN'.out.n (by decide) nb e rfl
    obtain ⟨_, _, _, _, t2, t3⟩ := hN'.out.t i hi
    have l1 := (hM'.out i hi).1.lt
    have l2 := (hM'.out i hi).2.lt
    have hm2 := (hM'.out i hi).block (m2.block nb l1 nb2) (m2.block (tb i) l2 t2)
    exact hm2.block (m3.block nb hm2.1.lt nb3) (m3.block (tb i) hm2.2.lt t3)
  have mA : Mw S w u3 := ((Mw.of_below b0).trans (m1.mono (fun x q => by
    rcases q with rfl | ⟨i, hi, rfl⟩
    · exact hS.1
    · exact hS.2.2.1 i hi))).trans ((m2.mono (fun x q => by rw [q]; exact hS.2.1)).trans (m3.mono (fun x q => hS.2.2.2 x q)))
  clear m1 m2 m3 g2 g3 hmf'' hb2' hI2' hM' hb1' hd1' hX' hN' h' hdd' hbb' c3 nS
  go_wp2
  go_ret
  exact ⟨rfl, ⟨hM3, hI3, hF3⟩, mA⟩
end Go.Proofs.YtlabilijnpkmgaaGreatDoor
