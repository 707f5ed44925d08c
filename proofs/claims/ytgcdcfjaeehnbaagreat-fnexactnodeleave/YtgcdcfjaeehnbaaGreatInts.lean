/- Walks of great regions, one short line a step: what has come up is a number's bits. -/
import Derived.Test.YtgcdcfjaeehnbaaGreatFact
import Derived.Deep.QuietTactic
import Derived.Below
import Derived.Deep.MidRow
import Derived.Deep.OwnRows
import Derived.Laws.MakeOwn
namespace Go.Proofs.YtgcdcfjaeehnbaaGreat
def bits (n m : Nat) : Array Bool := Array.ofFn (n := n) fun i => m.testBit i.val
theorem bits_get {n m i : Nat} (h : i < n) : (bits n m)[i]? = some (m.testBit i) := by
 unfold bits
 rw [Array.getElem?_ofFn]
 simp [h]
theorem bits_none {n m i : Nat} (h : ¬ i < n) : (bits n m)[i]? = none := by
 unfold bits
 rw [Array.getElem?_ofFn]
 simp [h]
theorem bits_zero (n : Nat) : Array.replicate n false = bits n 0 := by
 apply Array.ext_getElem?
 intro i
 by_cases h : i < n
 ·rw [bits_get h]; simp [h]
 ·rw [bits_none h]; simp [h]
theorem bits_set {n m i : Nat} (hi : i < n) : (bits n m).setIfInBounds i true = bits n (m ||| (1 <<< i)) := by
 apply Array.ext_getElem?
 intro j
 have hs : (bits n m).size = n := by simp [bits]
 by_cases h : j < n
 ·rw [bits_get h]
  by_cases e : i = j
  ·subst e
   rw [Array.getElem?_setIfInBounds_self_of_lt (by rw [hs]; exact hi)]
   simp [Nat.testBit_or, Nat.shiftLeft_eq, Nat.testBit_two_pow_self]
  ·rw [Array.getElem?_setIfInBounds_ne e, bits_get h]
   simp [Nat.testBit_or, Nat.shiftLeft_eq, e]
 ·rw [bits_none h, Array.getElem?_eq_none (by simp [hs]; omega)]
def readyM (md : Region.Mode) (ops : Array Oper) (n m i : Nat) : Bool :=
 Nat.blt i n && !m.testBit i && ((ops[i]?).map (·.after.all fun e => !Region.binds md e || (Nat.blt e.on n && m.testBit e.on))).getD false
structure FreeN (md : Region.Mode) (ops : Array Oper) (n : Nat) : Prop where
 fa : FreeAll md ops
 sz : ops.size = n
section
variable {P : Program} {ops : Array Oper} {Q : Exit → Act → World → Prop} {md : Region.Mode} {S : World → Prop} {n m i fuel : Nat} {a : Act} {w : World} {oi : Oper}
theorem ready_of_m (h : readyM md ops n m i = true) : readyAt md ops (bits n m) i = true := by
 unfold readyM at h
 rw [Bool.and_eq_true, Bool.and_eq_true] at h
 obtain ⟨⟨h1, h2⟩, h3⟩ := h
 have hi : i < n := by simpa [Nat.blt_eq] using h1
 unfold readyAt
 rw [Array.getD_eq_getD_getElem?, bits_get hi, Option.getD_some, h2, Bool.true_and]
 cases e : ops[i]? with
 | none => rw [e] at h3; exact h3
 | some o =>
  rw [e] at h3
  simp only [Option.map_some, Option.getD_some] at h3 ⊢
  rw [Array.all_eq_true_iff_forall_mem] at h3 ⊢
  intro x hx
  have := h3 x hx
  rw [Bool.or_eq_true] at this ⊢
  rcases this with q | q
  ·exact .inl q
  ·rw [Bool.and_eq_true] at q
   have hon : x.on < n := by simpa [Nat.blt_eq] using q.1
   refine .inr ?_
   rw [Array.getD_eq_getD_getElem?, bits_get hon, Option.getD_some]
   exact q.2
theorem lt_of_m (h : readyM md ops n m i = true) : i < n := by
 unfold readyM at h
 rw [Bool.and_eq_true, Bool.and_eq_true] at h
 simpa [Nat.blt_eq] using h.1.1
theorem mstep {v : Value} (hF : FreeN md ops n) (hi : ops[i]? = some oi) (m' : Nat) (hy : YieldsIf P ops S oi v a)
  (h : wpAnyH P md ops Q S fuel (bits n m') (a.put oi.dst v) w) (hr : readyM md ops n m i = true) (hm : m ||| (1 <<< i) = m')
  (hQ : ∀ c a w, Q (.panic c) (a.put oi.dst v) w → Q (.panic c) a w) (hS : S w) : wpAnyH P md ops Q S (fuel + 1) (bits n m) a w :=
 wpAnyH_quick hF.fa (bits n m') hi (ready_of_m hr) ((bits_set (lt_of_m hr)).trans (by rw [hm])) hQ hy hS h
theorem stY {v : Value} (hF : FreeN md ops n) (hi : ops[i]? = some oi) (m' : Nat) (h : wpAnyH P md ops Q S fuel (bits n m') (a.put oi.dst v) w)
  (hy : ∀ w, S w → (execOp a.eval oi).run P w = .ok (.value v) w := by (intro w hSw; (try dsimp only at hSw); go_simp; try with_reducible rfl))
  (hr : readyM md ops n m i = true := by kernel_rfl) (hm : m ||| (1 <<< i) = m' := by kernel_rfl)
  (hQ : ∀ c a w, Q (.panic c) (a.put oi.dst v) w → Q (.panic c) a w := by exact fun _ _ _ h => h) (hw : Region.wanted oi (yielded ops a.tmps) = true := by kernel_rfl) (hS : S w := by assumption) :
  wpAnyH P md ops Q S (fuel + 1) (bits n m) a w := mstep hF hi m' (Or.inl ⟨hw, hy⟩) h hr hm hQ hS
theorem stC (hF : FreeN md ops n) (hi : ops[i]? = some oi) (m' : Nat)
  (h : ∀ K' : Act → World → Prop, Shut (∀ a w, S w → (S w → wpAnyH P md ops Q S fuel (bits n m') a w) → K' a w) → Oper.wp P oi a w K' Q)
  (hr : Region.ready md ops (bits n m) = [i] := by kernel_rfl) (hm : m ||| (1 <<< i) = m' := by kernel_rfl) (hw : Region.wanted oi (yielded ops a.tmps) = true := by kernel_rfl) :
  wpAnyH P md ops Q S (fuel + 1) (bits n m) a w :=
 wpAnyH_ready hr (by simp) (AllReadyH.cons hi (fun K hK => by
  rw [if_pos hw]
  have hlt : i < n := by rw [← hF.sz]; exact (Array.getElem?_eq_some_iff.1 hi).1
  rw [bits_set hlt, hm] at hK
  exact h K hK) AllReadyH.nil)
theorem wp_region_m {id : Nat} (ops : Array Oper) (n : Nat) (hF : FreeN .any ops n) (hS : S w.drew) (h : S w.drew → wpAnyH P .any ops Q S n (bits n 0) a w.drew) (hm : P.follows .mixedOrders = true := by kernel_rfl) : (Code.region id ops true).wp P Q a w :=
 wp_region_held_drew hm hS (fun hh => by rw [hF.sz, bits_zero]; exact h hh)
def wpFrom (P : Program) (ops : Array Oper) (Q : Exit → Act → World → Prop) (k : Nat) (a : Act) (w : World) : Prop := wpList P ops Q (ops.toList.drop k) a w
theorem drop_at {k : Nat} (hi : ops[k]? = some oi) : ops.toList.drop k = oi :: ops.toList.drop (k + 1) := by
 rw [← Array.getElem?_toList] at hi
 obtain ⟨h1, h2⟩ := List.getElem?_eq_some_iff.1 hi
 rw [← h2]
 exact List.drop_eq_getElem_cons h1
theorem wp_region_p {id : Nat} (ops : Array Oper) (h : wpFrom P ops Q 0 a w) : (Code.region id ops false).wp P Q a w := by
 unfold wpFrom at h
 exact wp_region_list (by simpa using h)
theorem lsE {k : Nat} (h : Q .normal a w) (hk : ops.toList.drop k = [] := by kernel_rfl) : wpFrom P ops Q k a w := by
 unfold wpFrom
 rw [hk]
 exact h
end
theorem putQ : (∀ (t : Array Value) (d) (i : Nat) (v : Value), (Act.mk t d).put (some i) v = Act.mk (t.setIfInBounds i v) d) ∧ (∀ (a : Act) (v : Value), a.put none v = a) ∧ (∀ (l : List Value) (i : Nat) (x : Value), l.toArray.setIfInBounds i x = (l.set i x).toArray) ∧ (∀ (x y : Value) (l : List Value), (x :: l).set 0 y = y :: l) ∧ (∀ (x y : Value) (n : Nat) (l : List Value), (x :: l).set (n + 1) y = x :: l.set n y) := ⟨fun _ _ _ _ => rfl, fun _ _ => rfl, fun _ _ _ => by simp, fun _ _ _ => rfl, fun _ _ _ _ => rfl⟩
end Go.Proofs.YtgcdcfjaeehnbaaGreat
namespace Go.Proofs.YtgcdcfjaeehnbaaGreat
open Go.RowKit
structure Stp where
 d : Option Nat
 o : Op
 t : TypeId
 g : Option (Nat × Bool)
 c : Nat
def Stp.op (s : Stp) : Oper := { dst := s.d, op := s.o, type := s.t, pos := "", after := #[], guard := none }
def wantG (g : Option (Nat × Bool)) (tmps : Array Value) : Bool := match g with
 | none => true
 | some (t, b) => (match tmps[t]? with | some (.bool x) => some x | _ => none) == some b
def guardOf (ops : Array Oper) (g : Option (Nat × Bool)) : Option (Option (Nat × Bool)) := match g with
 | none => some none
 | some (j, b) => match (ops[j]?).bind (·.dst) with
  | none => none
  | some t => some (some (t, b))
def stpOf (ops : Array Oper) (i c : Nat) : Option Stp := match ops[i]? with
 | none => none
 | some o => match guardOf ops o.guard with
  | none => none
  | some g => some ⟨o.dst, o.op, o.type, g, c⟩
def stpsOf (ops : Array Oper) : List (Nat × Nat) → Option (List Stp)
 | [] => some []
 | (i, c) :: r => match stpOf ops i c with
  | none => none
  | some s => match stpsOf ops r with
   | none => none
   | some l => some (s :: l)
def schedB (md : Region.Mode) (ops : Array Oper) (n : Nat) : Nat → List (Nat × Nat) → Bool
 | m, [] => (Region.ready md ops (bits n m)).isEmpty
 | m, (i, c) :: r => (if c == 1 then Region.ready md ops (bits n m) == [i] else readyM md ops n m i) && readyM md ops n m i && schedB md ops n (m ||| (1 <<< i)) r
def wpQ (P : Program) (Q : Exit → Act → World → Prop) : World → List Stp → Act → World → Prop
 | _, [], a, w => Q .normal a w
 | w0, s :: r, a, w =>
  (wantG s.g a.tmps = false ∧ wpQ P Q w0 r (a.put s.d undef) w) ∨
  (wantG s.g a.tmps = true ∧ s.c ≠ 1 ∧ ∃ v, (∀ w', Below w0.heap.size w0 w' → (execOp a.eval s.op).run P w' = .ok (.value v) w') ∧ wpQ P Q w0 r (a.put s.d v) w) ∨
  (wantG s.g a.tmps = true ∧ s.c = 1 ∧ ∀ K : Act → World → Prop, Shut (∀ a' w', Below w0.heap.size w0 w' → (wpQ P Q w0 r a' w' ∨ wpQ P Q w' r a' w') → K a' w') → Oper.wp P s.op a w K Q)
section
variable {P : Program} {ops : Array Oper} {Q : Exit → Act → World → Prop} {md : Region.Mode} {n : Nat}
theorem wpAnyH_mono' {S S' : World → Prop} (h : ∀ w, S' w → S w) : ∀ (fuel : Nat) (listed : Array Bool) (a : Act) (w : World), wpAnyH P md ops Q S' fuel listed a w → wpAnyH P md ops Q S fuel listed a w
 | 0, _, _, _, q => q
 | fuel + 1, _, _, _, q => ⟨q.1, fun i hi => wpOp_mono (fun a' w' h' => ⟨h _ h'.1, wpAnyH_mono' h fuel _ a' w' h'.2⟩) (q.2 i hi)⟩
theorem stpOf_spec {i c : Nat} {s : Stp} (h : stpOf ops i c = some s) : ∃ o, ops[i]? = some o ∧ o.dst = s.d ∧ s.c = c ∧ (∀ a : Act, Region.wanted o (yielded ops a.tmps) = wantG s.g a.tmps) ∧ (∀ a : Act, execOp a.eval o = execOp a.eval s.op) := by
 unfold stpOf at h
 cases e : ops[i]? with
 | none => rw [e] at h; cases h
 | some o =>
  rw [e] at h
  dsimp only at h
  cases eg : guardOf ops o.guard with
  | none => rw [eg] at h; cases h
  | some g =>
   rw [eg] at h
   dsimp only at h
   obtain rfl := Option.some.inj h
   refine ⟨o, rfl, rfl, rfl, fun a => ?_, fun a => ?_⟩
   ·unfold guardOf at eg
    unfold Region.wanted
    cases e2 : o.guard with
    | none => rw [e2] at eg; obtain rfl := Option.some.inj eg; rfl
    | some jb =>
     obtain ⟨j, b⟩ := jb
     rw [e2] at eg
     dsimp only at eg ⊢
     cases e3 : (ops[j]?).bind (·.dst) with
     | none => rw [e3] at eg; cases eg
     | some t =>
      rw [e3] at eg
      obtain rfl := Option.some.inj eg
      unfold wantG yielded
      rw [e3]
      rfl
   ·obtain ⟨dst, op, type, pos, after, guard⟩ := o
    rfl
theorem wpQ_sound (hF : FreeN md ops n) (hQ : ∀ (d : Option Nat) (v : Value) c a w, Q (.panic c) (a.put d v) w → Q (.panic c) a w) :
  ∀ (sch : List (Nat × Nat)) (L : List Stp) (m : Nat) (w0 : World) (a : Act) (w : World), stpsOf ops sch = some L → schedB md ops n m sch = true → Below w0.heap.size w0 w → wpQ P Q w0 L a w →
  wpAnyH P md ops Q (fun w' => Below w0.heap.size w0 w') sch.length (bits n m) a w := by
 intro sch
 induction sch with
 | nil =>
  intro L m w0 a w hL hB hb h
  unfold stpsOf at hL
  obtain rfl := Option.some.inj hL
  unfold schedB at hB
  unfold wpQ at h
  exact ⟨List.isEmpty_iff.1 hB, h⟩
 | cons ic sch ih =>
  intro L m w0 a w hL hB hb h
  obtain ⟨i, c⟩ := ic
  unfold stpsOf at hL
  cases e1 : stpOf ops i c with
  | none => rw [e1] at hL; cases hL
  | some s =>
   rw [e1] at hL
   dsimp only at hL
   cases e2 : stpsOf ops sch with
   | none => rw [e2] at hL; cases hL
   | some l =>
    rw [e2] at hL
    obtain rfl := Option.some.inj hL
    unfold schedB at hB
    rw [Bool.and_eq_true, Bool.and_eq_true] at hB
    obtain ⟨⟨hB1, hB2⟩, hB3⟩ := hB
    obtain ⟨o, ho, hd, hc, hw, he⟩ := stpOf_spec e1
    rw [List.length_cons]
    unfold wpQ at h
    rcases h with ⟨h1, h2⟩ | ⟨h1, h2, v, h3, h4⟩ | ⟨h1, h2, h3⟩
    ·rw [← hd] at h2
     exact mstep hF ho _ (Or.inr ⟨by rw [hw]; exact h1, rfl⟩) (ih l _ w0 _ w e2 hB3 hb h2) hB2 rfl (fun c a w => hQ _ _ c a w) hb
    ·rw [← hd] at h4
     exact mstep hF ho _ (Or.inl ⟨by rw [hw]; exact h1, fun w' hw' => by rw [he]; exact h3 w' hw'⟩) (ih l _ w0 _ w e2 hB3 hb h4) hB2 rfl (fun c a w => hQ _ _ c a w) hb
    ·rw [hc] at h2
     subst h2
     have hr : Region.ready md ops (bits n m) = [i] := by simpa using hB1
     refine wpAnyH_ready hr (by simp) (AllReadyH.cons ho (fun K hK => ?_) AllReadyH.nil)
     rw [if_pos (by rw [hw]; exact h1)]
     rw [bits_set (lt_of_m hB2)] at hK
     have h4 := h3 K (fun a' w' hb' hor => hK.out a' w' hb' (fun _ => by
      rcases hor with q | q
      ·exact ih l _ w0 a' w' e2 hB3 hb' q
      ·exact wpAnyH_mono' (fun x hx => hb'.trans (hx.mono hb'.size)) _ _ _ _ (ih l _ w' a' w' e2 hB3 (Below.refl _ _) q)))
     unfold Oper.wp at h4 ⊢
     rw [he]
     have e5 : ∀ r, o.upon P a K Q r = s.op.upon P a K Q r := fun r => by
      unfold Oper.upon
      simp only [hd, Stp.op]
     rw [e5]
     exact h4
theorem wp_region_q {id : Nat} {a : Act} {w : World} (L : List Stp) (sch : List (Nat × Nat)) (h : Below w.heap.size w w.drew → wpQ P Q w L a w.drew)
  (hs : ops.size = sch.length ∧ freeAll .any ops = true ∧ stpsOf ops sch = some L ∧ schedB .any ops sch.length 0 sch = true := by (refine ⟨?_, ?_, ?_, ?_⟩ <;> kernel_rfl)) (hm : P.follows .mixedOrders = true := by kernel_rfl)
  (hQ : ∀ (d : Option Nat) (v : Value) c a w, Q (.panic c) (a.put d v) w → Q (.panic c) a w := by (intro d v c a w h; cases d <;> exact h)) : (Code.region id ops true).wp P Q a w :=
 wp_region_held_drew (S := fun w' => Below w.heap.size w w') hm (Below.refl _ _).drew (fun hh => by
  rw [hs.1, bits_zero]
  exact wpQ_sound (n := sch.length) ⟨⟨hs.2.1⟩, hs.1⟩ hQ sch L 0 w a w.drew hs.2.2.1 hs.2.2.2 hh (h hh))
theorem wpQ_list : ∀ (k : Nat) (sch : List (Nat × Nat)) (L : List Stp) (w0 : World) (a : Act) (w : World), sch.map (·.1) = List.range' k sch.length → k + sch.length = ops.size → stpsOf ops sch = some L → Below w0.heap.size w0 w → wpQ P Q w0 L a w → wpFrom P ops Q k a w := by
 intro k sch
 induction sch generalizing k with
 | nil =>
  intro L w0 a w hk hn hL hb h
  unfold stpsOf at hL
  obtain rfl := Option.some.inj hL
  unfold wpQ at h
  exact lsE h (by rw [List.drop_eq_nil_iff]; simp at hn ⊢; omega)
 | cons ic sch ih =>
  intro L w0 a w hk hn hL hb h
  obtain ⟨i, c⟩ := ic
  unfold stpsOf at hL
  cases e1 : stpOf ops i c with
  | none => rw [e1] at hL; cases hL
  | some s =>
   rw [e1] at hL
   dsimp only at hL
   cases e2 : stpsOf ops sch with
   | none => rw [e2] at hL; cases hL
   | some l =>
    rw [e2] at hL
    obtain rfl := Option.some.inj hL
    rw [List.map_cons, List.length_cons, List.range'_succ, List.cons.injEq] at hk
    obtain ⟨rfl, hk⟩ := hk
    rw [List.length_cons] at hn
    obtain ⟨o, ho, hd, hc, hw, he⟩ := stpOf_spec e1
    unfold wpQ at h
    rcases h with ⟨h1, h2⟩ | ⟨h1, h2, v, h3, h4⟩ | ⟨h1, h2, h3⟩
    ·rw [← hd] at h2
     have h6 := ih _ l w0 _ w hk (by omega) e2 hb h2
     unfold wpFrom
     rw [drop_at ho]
     refine wpList_step fun K hK => ?_
     rw [if_neg (by rw [hw, h1]; exact Bool.false_ne_true)]
     exact hK _ _ h6
    ·rw [← hd] at h4
     have h6 := ih _ l w0 _ w hk (by omega) e2 hb h4
     have h7 := h3 w hb
     unfold wpFrom
     rw [drop_at ho]
     refine wpList_step fun K hK => ?_
     rw [if_pos (by rw [hw]; exact h1), Oper.wp, he, h7]
     exact hK _ _ h6
    ·unfold wpFrom
     rw [drop_at ho]
     refine wpList_step fun K hK => ?_
     rw [if_pos (by rw [hw]; exact h1)]
     have h4 := h3 K (fun a' w' hb' hor => hK _ _ (by
      rcases hor with q | q
      ·exact ih _ l w0 a' w' hk (by omega) e2 hb' q
      ·exact ih _ l w' a' w' hk (by omega) e2 (Below.refl _ _) q))
     unfold Oper.wp at h4 ⊢
     rw [he]
     have e5 : ∀ r, o.upon P a K Q r = s.op.upon P a K Q r := fun r => by
      unfold Oper.upon
      simp only [hd, Stp.op]
     rw [e5]
     exact h4
theorem wp_region_q0 {id : Nat} {a : Act} {w : World} (L : List Stp) (sch : List (Nat × Nat)) (h : Below w.heap.size w w → wpQ P Q w L a w)
  (hs : sch.map (·.1) = List.range' 0 sch.length ∧ 0 + sch.length = ops.size ∧ stpsOf ops sch = some L := by (refine ⟨?_, ?_, ?_⟩ <;> kernel_rfl)) : (Code.region id ops false).wp P Q a w :=
 wp_region_p ops (wpQ_list 0 sch L w a w hs.1 hs.2.1 hs.2.2 (Below.refl _ _) (h (Below.refl _ _)))
end
section
variable {P : Program} {Q : Exit → Act → World → Prop} {w0 w : World} {d : Option Nat} {o : Op} {t : TypeId} {g : Option (Nat × Bool)} {c : Nat} {r : List Stp} {a a' : Act} {v : Value}
theorem qN (h : wpQ P Q w0 r a' w) (hw : wantG g a.tmps = false := by kernel_rfl) (ha : a.put d undef = a' := by (simp only [putQ]; try rfl)) : wpQ P Q w0 (⟨d, o, t, g, c⟩ :: r) a w := by
 subst ha
 unfold wpQ
 exact .inl ⟨hw, h⟩
theorem qY (h : wpQ P Q w0 r a' w) (hw : wantG g a.tmps = true := by kernel_rfl)
  (hy : ∀ w, (execOp a.eval { dst := d, op := o, type := t, pos := "", after := #[], guard := none }).run P w = .ok (.value v) w := by (intro w; go_simp; try with_reducible rfl))
  (ha : a.put d v = a' := by (simp only [putQ]; try rfl)) : wpQ P Q w0 (⟨d, o, t, g, 0⟩ :: r) a w := by
 subst ha
 unfold wpQ
 exact .inr (.inl ⟨hw, Nat.zero_ne_one, v, fun w' _ => hy w', h⟩)
theorem qV (v : Value) (h : wpQ P Q w0 r a' w)
  (hy : ∀ w, (execOp a.eval { dst := d, op := o, type := t, pos := "", after := #[], guard := none }).run P w = .ok (.value v) w := by (intro w; go_simp; all_goals (first | with_reducible rfl | assumption | (simp; done) | (simp only [IntKind.wrap_i64]; omega) | (simp; omega) | (simp [IntKind.wrap_i64]; omega))))
  (hw : wantG g a.tmps = true := by kernel_rfl) (ha : a.put d v = a' := by (simp only [putQ]; try rfl)) (hc : c ≠ 1 := by decide) : wpQ P Q w0 (⟨d, o, t, g, c⟩ :: r) a w := by
 subst ha
 unfold wpQ
 exact .inr (.inl ⟨hw, hc, v, fun w' _ => hy w', h⟩)
theorem cell_keep {ad : Addr} (hc : w0.cell? ad = some v) {w' : World} (hb : Below w0.heap.size w0 w') : w'.cell? ad = some v := by
 have hlt : ad.block < w0.heap.size := by
  unfold World.cell? at hc
  rcases Nat.lt_or_ge ad.block w0.heap.size with q | q
  ·exact q
  ·exfalso
   rw [Array.getElem?_eq_none q] at hc
   simp at hc
 unfold World.cell? at hc ⊢
 rw [hb.block _ hlt]
 exact hc
theorem qL {x : Operand} {t' : TypeId} {ad : Addr} (h : wpQ P Q w0 r a' w) (hw : wantG g a.tmps = true := by kernel_rfl)
  (hx : a.eval x = .pointer (some ad) := by rfl) (hc : w0.cell? ad = some v := by assumption) (hu : ∀ w, (isAgg t').run P w = .ok false w := by (intro w; kernel_rfl))
  (ha : a.put d v = a' := by (simp only [putQ]; try rfl)) : wpQ P Q w0 (⟨d, .load t' x, t, g, 0⟩ :: r) a w := by
 subst ha
 unfold wpQ
 refine .inr (.inl ⟨hw, Nat.zero_ne_one, v, fun w' hb => ?_, h⟩)
 have hc' := cell_keep hc hb
 simp only [Stp.op, execOp, Instr.loadAt, hx, Instr.sureAddr, loadVar, Sem.run_bind, Sem.run_pure, Result.andThen, hu, Bool.false_eq_true, if_false, run_load, hc']
def rowT (P : Program) (t : TypeId) (n : Nat) : Bool := (match P.underlying t with | some d => d.isRow | none => false) && (P.info? t).map (·.size) == some n
theorem range_keep {b o' : Nat} {xs : List Value} (h : w0.rangeAt b o' xs) {w' : World} (hb : Below w0.heap.size w0 w') : w'.rangeAt b o' xs := fun j x hx => cell_keep (h j x hx) hb
theorem qR {x : Operand} {t' : TypeId} {b o' : Nat} {xs : List Value} (h : wpQ P Q w0 r a' w) (hw : wantG g a.tmps = true := by kernel_rfl)
  (hx : a.eval x = .pointer (some ⟨b, o', none⟩) := by rfl) (hr : w0.rangeAt b o' xs := by assumption) (hu : rowT P t' xs.length = true := by kernel_rfl)
  (ha : a.put d (.agg xs.toArray) = a' := by (simp only [putQ]; try rfl)) : wpQ P Q w0 (⟨d, .load t' x, t, g, 0⟩ :: r) a w := by
 subst ha
 unfold wpQ
 refine .inr (.inl ⟨hw, Nat.zero_ne_one, _, fun w' hb => ?_, h⟩)
 unfold rowT at hu
 rw [Bool.and_eq_true, beq_iff_eq] at hu
 cases e : P.underlying t' with
 | none => rw [e] at hu; exact absurd hu.1 Bool.false_ne_true
 | some dd =>
  rw [e] at hu
  simp only [Stp.op, execOp, hx, Sem.run_bind, run_loadAt_mid w' b o' t' xs dd (range_keep hr hb) e hu.1 hu.2, Result.andThen_ok, Sem.run_pure]
theorem range4 {b o' : Nat} {v0 v1 v2 v3 : Value} (h0 : w0.cell? ⟨b, o', none⟩ = some v0) (h1 : w0.cell? ⟨b, o' + 1, none⟩ = some v1) (h2 : w0.cell? ⟨b, o' + 2, none⟩ = some v2) (h3 : w0.cell? ⟨b, o' + 3, none⟩ = some v3) : w0.rangeAt b o' [v0, v1, v2, v3] := fun j x hx => by
 rcases j with _ | _ | _ | _ | j
 ·obtain rfl := Option.some.inj hx; exact h0
 ·obtain rfl := Option.some.inj hx; exact h1
 ·obtain rfl := Option.some.inj hx; exact h2
 ·obtain rfl := Option.some.inj hx; exact h3
 ·simp at hx
theorem qC (h : ∀ K : Act → World → Prop, Shut (∀ a' w', Below w0.heap.size w0 w' → (wpQ P Q w0 r a' w' ∨ wpQ P Q w' r a' w') → K a' w') → Oper.wp P { dst := d, op := o, type := t, pos := "", after := #[], guard := none } a w K Q)
  (hw : wantG g a.tmps = true := by kernel_rfl) : wpQ P Q w0 (⟨d, o, t, g, 1⟩ :: r) a w := by
 unfold wpQ
 exact .inr (.inr ⟨hw, rfl, h⟩)
def entB (P : Program) (f : FuncId) : Bool := match P.funcs[f]? with
 | some fn => !(fn.name == "runtime.NumGoroutine") && !fn.body.isNone
 | none => false
theorem run_ent {P : Program} {f : FuncId} (h : entB P f = true) (args : Array Value) (w : World) : (callFunc f args).run P w = .ok (.enter f args) w := by
 unfold entB at h
 cases e : P.funcs[f]? with
 | none => rw [e] at h; exact absurd h Bool.false_ne_true
 | some fn =>
  rw [e] at h
  rw [Bool.and_eq_true] at h
  obtain ⟨h1, h2⟩ := h
  have q1 : (fn.name == "runtime.NumGoroutine") = false := by cases z : (fn.name == "runtime.NumGoroutine"); rfl; rw [z] at h1; exact absurd h1 Bool.false_ne_true
  have q2 : fn.body.isNone = false := by cases z : fn.body.isNone; rfl; rw [z] at h2; exact absurd h2 Bool.false_ne_true
  unfold callFunc
  simp only [Sem.run_bind, run_program, Result.andThen_ok, e, q1, q2, Bool.false_eq_true, if_false, Sem.run_pure]
theorem opR {P : Program} {d : Option Nat} {f : FuncId} {xs : Array Operand} {tys : Array TypeId} {t : TypeId} {a : Act} {w : World} {K : Act → World → Prop} {Q : Exit → Act → World → Prop} {R : Ending → World → Prop} (hent : entB P f = true)
  (hc : Calls P f (xs.map a.eval) w R) (h : ∀ r w', R r w' → ∃ v, r = .returned v ∧ K (a.put d v) w') :
  Oper.wp P { dst := d, op := .call { callee := .value (.func f), args := xs, argTypes := tys }, type := t, pos := "", after := #[], guard := none } a w K Q := by
 go_simp
 rw [run_ent hent]
 rw [Oper.upon_enter]
 refine hc.mono ?_
 rintro r w' q
 obtain ⟨v, rfl, k⟩ := h r w' q
 exact k
theorem qK {f : FuncId} {args : Array Value} {ys : Array Operand} {tys : Array TypeId} {v : Value} (hc : Calls P f args w (fun r w' => r = .returned v ∧ Below w.heap.size w w')) (hb : Below w0.heap.size w0 w) (h : ∀ w', Below w0.heap.size w0 w' → wpQ P Q w0 r a' w') (he : (ys.toList.map a.eval).toArray = args := by rfl) (ha : a.put d v = a' := by (simp only [putQ]; try rfl)) (hent : entB P f = true := by kernel_rfl) (hw : wantG g a.tmps = true := by kernel_rfl) : wpQ P Q w0 (⟨d, .call { callee := .value (.func f), args := ys, argTypes := tys }, t, g, 1⟩ :: r) a w := by
 have he2 : ys.map a.eval = args := by rw [← he]; apply Array.ext'; simp
 subst he2
 subst ha
 refine qC (fun K hK => opR hent hc (fun r w' q => ⟨v, q.1, ?_⟩)) hw
 exact hK.out _ _ (btrans hb q.2) (.inl (h _ (btrans hb q.2)))
theorem qJ {f : FuncId} {args : Array Value} {ys : Array Operand} {tys : Array TypeId} {v : Value} (hc : Calls P f args w (fun r w' => r = .returned v ∧ w' = w)) (hb : Below w0.heap.size w0 w) (h : wpQ P Q w0 r a' w) (he : (ys.toList.map a.eval).toArray = args := by rfl) (ha : a.put d v = a' := by (simp only [putQ]; try rfl)) (hent : entB P f = true := by kernel_rfl) (hw : wantG g a.tmps = true := by kernel_rfl) : wpQ P Q w0 (⟨d, .call { callee := .value (.func f), args := ys, argTypes := tys }, t, g, 1⟩ :: r) a w := by
 have he2 : ys.map a.eval = args := by rw [← he]; apply Array.ext'; simp
 subst he2
 subst ha
 refine qC (fun K hK => opR hent hc (fun r w' q => ⟨v, q.1, ?_⟩)) hw
 obtain ⟨_, rfl⟩ := q
 exact hK.out _ _ hb (.inl h)
theorem qE (h : Q .normal a w) : wpQ P Q w0 [] a w := by
 unfold wpQ
 exact h
end
end Go.Proofs.YtgcdcfjaeehnbaaGreat
namespace Go.Proofs.YtgcdcfjaeehnbaaGreat
open Go.ChangeShapes Go.WideShapes Go.ChangeAt Go.RowKit
attribute [local go_sem ↓] Go.wp_at_zero Go.wp_at_succ
theorem keep_alloc {w : World} {b o : Nat} {v : Value} (x : Obj) (h : w.cell? ⟨b, o, none⟩ = some v) : (w.alloc x).cell? ⟨b, o, none⟩ = some v :=
 (World.cell?_of_block (w := w) (Below.heap_alloc w x b (World.block_lt_of_cell? w _ h))).trans h
theorem keep_drew {w : World} {b o : Nat} {v : Value} (h : w.cell? ⟨b, o, none⟩ = some v) : w.drew.cell? ⟨b, o, none⟩ = some v := by simpa using h
theorem keep_below {W w' : World} {b o : Nat} {v : Value} (hb : Below W.heap.size W w') (h : W.cell? ⟨b, o, none⟩ = some v) : w'.cell? ⟨b, o, none⟩ = some v :=
 (hb.cell (p := ⟨b, o, none⟩) (World.block_lt_of_cell? W _ h)).trans h
end Go.Proofs.YtgcdcfjaeehnbaaGreat
namespace Go.Proofs.YtgcdcfjaeehnbaaGreat
open Go.ChangeShapes Go.WideShapes Go.ChangeAt Go.RowKit
set_option maxHeartbeats 400000
attribute [local go_sem ↓] Go.wp_at_zero Go.wp_at_succ
structure Fc where
 n : Int
 i : Int
 s : Int
 g : Bool
def FactsIn (w : World) (b off len : Nat) (F : Nat → Fc) : Prop :=
 ∀ k, k < len → w.cell? ⟨b, off + k * 4, none⟩ = some (.int .i64 (F k).n) ∧ w.cell? ⟨b, off + k * 4 + 1, none⟩ = some (.int .i64 (F k).i) ∧ w.cell? ⟨b, off + k * 4 + 2, none⟩ = some (.int .i64 (F k).s) ∧ w.cell? ⟨b, off + k * 4 + 3, none⟩ = some (.bool (F k).g)
def FSl (w : World) (a : Option Addr) (len : Nat) (F : Nat → Fc) : Prop :=
 0 < len → ∃ b off, a = some ⟨b, off, none⟩ ∧ b < w.heap.size ∧ FactsIn w b off len F
theorem FactsIn.below {B : Nat} {w w' : World} {b off len : Nat} {F : Nat → Fc} (h : FactsIn w b off len F) (hb : Below B w w') (hl : b < B) : FactsIn w' b off len F := fun k hk => by
 obtain ⟨h0, h1, h2, h3⟩ := h k hk
 exact ⟨(hb.cell (p := ⟨b, _, none⟩) hl).trans h0, (hb.cell (p := ⟨b, _, none⟩) hl).trans h1, (hb.cell (p := ⟨b, _, none⟩) hl).trans h2, (hb.cell (p := ⟨b, _, none⟩) hl).trans h3⟩
theorem FSl.below {w w' : World} {a : Option Addr} {len : Nat} {F : Nat → Fc} (h : FSl w a len F) (hb : Below w.heap.size w w') : FSl w' a len F := fun hl => by
 obtain ⟨b, off, e, hlt, hf⟩ := h hl
 exact ⟨b, off, e, by have := hb.size; omega, hf.below hb hlt⟩
def fv (F : Nat → Fc) (k : Nat) : Value := if k % 4 = 0 then .int .i64 (F (k / 4)).n else if k % 4 = 1 then .int .i64 (F (k / 4)).i else if k % 4 = 2 then .int .i64 (F (k / 4)).s else .bool (F (k / 4)).g
theorem row_in {w : World} {b t n : Nat} {F : Nat → Fc} (h : w.rowIs b t (n * 4) (fv F)) : FactsIn w b 0 n F := fun k hk => by
 have e0 := h.cell (i := k * 4) (by omega)
 have e1 := h.cell (i := k * 4 + 1) (by omega)
 have e2 := h.cell (i := k * 4 + 2) (by omega)
 have e3 := h.cell (i := k * 4 + 3) (by omega)
 have m1 : (k * 4 + 1) % 4 = 1 ∧ (k * 4 + 1) / 4 = k := by omega
 have m2 : (k * 4 + 2) % 4 = 2 ∧ (k * 4 + 2) / 4 = k := by omega
 have m3 : (k * 4 + 3) % 4 = 3 ∧ (k * 4 + 3) / 4 = k := by omega
 simp only [Nat.zero_add]
 simp [fv] at e0
 simp [fv, m1.1, m1.2] at e1
 simp [fv, m2.1, m2.2] at e2
 simp [fv, m3.1, m3.2] at e3
 exact ⟨e0, e1, e2, e3⟩
def Fc.zero : Fc := ⟨0, 0, 0, false⟩
theorem info24 : (Tryz.prog.info? 96).map (fun i => (i.zero, i.size, i.bytes)) = some (some (.agg #[.int .i64 0, .int .i64 0, .int .i64 0, .bool false]), 4, 32) := by kernel_rfl
theorem run_make_facts (n : Nat) (hn : n ≤ 1048576) (w : World) :
  (Instr.makeSlice 34 (.int .i64 (n : Int)) (.int .i64 (n : Int))).run Tryz.prog w = .ok (.slice (some ⟨w.heap.size, 0, none⟩) n n) (w.alloc (.cells (madeCells #[.int .i64 0, .int .i64 0, .int .i64 0, .bool false] (n * 4)) 96)) := by
 obtain ⟨i, hi, hzz⟩ := Option.map_eq_some_iff.1 info24
 simp only [Prod.mk.injEq] at hzz
 obtain ⟨hz, hs, hb⟩ := hzz
 have hr := run_make (P := Tryz.prog) w 34 96 i _ Tryz.underlying34 hi hz .i64 .i64 n n (by omega) (Int.le_refl _) (by rw [hb]; omega) (by omega)
 rw [hr, hs, Int.toNat_natCast]
 rfl
theorem row_made (n : Nat) (w : World) : (w.alloc (.cells (madeCells #[.int .i64 0, .int .i64 0, .int .i64 0, .bool false] (n * 4)) 96)).rowIs w.heap.size 96 (n * 4) (fv fun _ => Fc.zero) :=
 ⟨_, heap_alloc_new _ _, size_madeCells _ _, fun i hi => by
  have : i % 4 = 0 ∨ i % 4 = 1 ∨ i % 4 = 2 ∨ i % 4 = 3 := by omega
  rcases this with h | h | h | h <;> simp [madeCells, hi, fv, h, Fc.zero]⟩
theorem row_put {w : World} {b n k : Nat} {F : Nat → Fc} (h : w.rowIs b 96 (n * 4) (fv F)) (x : Fc) :
  ((((w.setCell ⟨b, k * 4, none⟩ (.int .i64 x.n)).setCell ⟨b, k * 4 + 1, none⟩ (.int .i64 x.i)).setCell ⟨b, k * 4 + 2, none⟩ (.int .i64 x.s)).setCell ⟨b, k * 4 + 3, none⟩ (.bool x.g)).rowIs b 96 (n * 4) (fv fun j => if j = k then x else F j) :=
 ((((h.set (k * 4) _).set (k * 4 + 1) _).set (k * 4 + 2) _).set (k * 4 + 3) _).congr fun j hj => by
  by_cases e : j / 4 = k
  ·have : j % 4 = 0 ∨ j % 4 = 1 ∨ j % 4 = 2 ∨ j % 4 = 3 := by omega
   rcases this with h | h | h | h
   ·have : j = k * 4 := by omega
    subst this; simp [fv]
   ·have : j = k * 4 + 1 := by omega
    subst this; simp [fv, h, e]
   ·have : j = k * 4 + 2 := by omega
    subst this; simp [fv, h, e]
   ·have : j = k * 4 + 3 := by omega
    subst this; simp [fv, h, e]
  ·have h0 : ¬ j = k * 4 := by omega
   have h1 : ¬ j = k * 4 + 1 := by omega
   have h2 : ¬ j = k * 4 + 2 := by omega
   have h3 : ¬ j = k * 4 + 3 := by omega
   simp [fv, e, h0, h1, h2, h3]
theorem szFactS_any (a : Option Addr) (len cap : Nat) (left : Int) (w : World) (h0 : 0 ≤ left) (h1 : left ≤ 1048576) (hl : len ≤ maxLen) :
  Calls Tryz.prog 23 #[.slice a len cap, .int .i64 left] w fun e w' => e = .returned (.int .i64 (if left < (len : Int) then -1 else left - len)) ∧ w' = w := by
 unfold maxLen at hl
 go_enter Tryz.func23, Tryz.ntmps23
 go_wp2
 all_goals (go_ret; exact ⟨ret_int (by first | rfl | (split <;> omega)), rfl⟩)
theorem toFact_below (n i s : Int) (g : Bool) (w : World) :
  Calls Tryz.prog 93 #[.agg #[.int .i64 n, .int .i64 i, .int .i64 s, .bool g]] w fun r w' => r = .returned (.agg #[.int .i64 n, .int .i64 i, .int .i64 s, .bool g]) ∧ Below w.heap.size w w' :=
 (toFact_any n i s g w).mono (by rintro r w' ⟨rfl, o1, o2, o3, rfl⟩; exact ⟨rfl, balloc _ (balloc _ (balloc _ (Below.refl _ _)))⟩)
theorem row_below {w w' : World} {b t n : Nat} {f : Nat → Value} (h : w.rowIs b t n f) (hb : Below w.heap.size w w') : w'.rowIs b t n f := h.of_block (hb.block b h.lt)
theorem below_set4 {w w' : World} {b o : Nat} (x y z e : Value) (h : Below w.heap.size w w') (hb : w.heap.size ≤ b) :
  Below w.heap.size w ((((w'.setCell ⟨b, o, none⟩ x).setCell ⟨b, o + 1, none⟩ y).setCell ⟨b, o + 2, none⟩ z).setCell ⟨b, o + 3, none⟩ e) :=
 (((h.setCell (p := ⟨b, o, none⟩) hb x).setCell (p := ⟨b, o + 1, none⟩) hb y).setCell (p := ⟨b, o + 2, none⟩) hb z).setCell (p := ⟨b, o + 3, none⟩) hb e
end Go.Proofs.YtgcdcfjaeehnbaaGreat
namespace Go.Proofs.YtgcdcfjaeehnbaaGreat
open Go.ChangeShapes Go.WideShapes Go.ChangeAt Go.RowKit
set_option maxRecDepth 10000
set_option maxHeartbeats 1000000
attribute [local go_sem ↓] Go.wp_at_zero Go.wp_at_succ
theorem QB {a w : World} {n : Nat} (h : Below a.heap.size a w) : Below a.heap.size a (w.drewN n) := ⟨h.os, h.tape, h.output, h.size, h.block⟩
def IntsIn (w : World) (b off len : Nat) (f : Nat → Int) : Prop := ∀ k, k < len → w.cell? ⟨b, off + k, none⟩ = some (.int .i64 (f k))
def ISl (w : World) (a : Option Addr) (len : Nat) (f : Nat → Int) : Prop := 0 < len → ∃ b off, a = some ⟨b, off, none⟩ ∧ b < w.heap.size ∧ IntsIn w b off len f
theorem IntsIn.below {B : Nat} {w w' : World} {b off len : Nat} {f : Nat → Int} (h : IntsIn w b off len f) (hb : Below B w w') (hl : b < B) : IntsIn w' b off len f := fun k hk => (hb.cell (p := ⟨b, _, none⟩) hl).trans (h k hk)
theorem ISl.below {w w' : World} {a : Option Addr} {len : Nat} {f : Nat → Int} (h : ISl w a len f) (hb : Below w.heap.size w w') : ISl w' a len f := fun hl => by
 obtain ⟨b, off, e, hlt, hf⟩ := h hl
 exact ⟨b, off, e, by have := hb.size; omega, hf.below hb hlt⟩
def iv (f : Nat → Int) (n : Nat) : List Value := (List.range n).map fun j => Value.int .i64 (f j)
theorem iv_succ (f : Nat → Int) (n : Nat) : iv f (n + 1) = iv f n ++ [.int .i64 (f n)] := by simp [iv, List.range_succ]
theorem iv_get (f : Nat → Int) (n j : Nat) (h : j < n) : (iv f n)[j]? = some (.int .i64 (f j)) := by simp [iv, h]
theorem own_below {w w' : World} {base size n : Nat} {e : TypeId} {v : Value} {xs : List Value} (h : w.ownsRow base e size v n xs) (hb : Below w.heap.size w w') : w'.ownsRow base e size v n xs := by
 refine ⟨h.1, h.2.imp id ?_⟩
 rintro ⟨g, cap, cur, hv, hg, hh, r⟩
 exact ⟨g, cap, cur, hv, hg, (hb.block g (lt_of_block hh)).trans hh, r⟩
theorem own_ints {w : World} {base n : Nat} {e : TypeId} {v : Value} {f : Nat → Int} (h : w.ownsRow base e 1 v n (iv f n)) : ∃ a cap, v = .slice a n cap ∧ n ≤ cap ∧ ISl w a n f := by
 have h0 := h
 rcases h.2 with ⟨rfl, rfl⟩ | ⟨g, cap, cur, rfl, hg, hh, hc, _⟩
 ·exact ⟨none, 0, rfl, Nat.le_refl _, fun h => by omega⟩
 ·exact ⟨_, cap, rfl, hc, fun _ => ⟨g, 0, rfl, lt_of_block hh, fun k hk => by rw [Nat.zero_add]; exact (h0.cellAt k (by omega)).trans (iv_get f n k hk)⟩⟩
theorem own_grow {a w w' : World} {v : Value} {B n : Nat} {e : TypeId} {size : Nat} {xs : List Value} (hb : Below B a w) (hB : B ≤ w.heap.size) (ho : w.ownsRow B e size v n xs) (hg : w.grownBy w' v.ownBlock) : Below B a w' :=
 hb.grown hg hB (fun k hk => (ho.lt k hk).1)
theorem info3 : (Tryz.prog.info? 3).map (fun i => (i.zero, i.size, i.bytes)) = some (some (.int .i64 0), 1, 8) := by kernel_rfl
def risB (len : Nat) (f : Nat → Int) : Bool := decide (∀ k, k < len → 0 < k → f (k - 1) < f k)
theorem rising_any (a : Option Addr) (len cap : Nat) (f : Nat → Int) (w : World) (h : ISl w a len f) (hl : len ≤ 1048576) :
  Calls Tryz.prog 165 #[.slice a len cap] w fun e w' => e = .returned (.bool (risB len f)) ∧ Below w.heap.size w w' := by
 go_enter Tryz.func165, Tryz.ntmps165
 go_wp2
 go_loopw [3] (fun i wr => ∃ m : Nat, (m < len ∨ m = 0) ∧ i = .int .i64 ((m : Int) + 1) ∧ Below w.heap.size w wr ∧ (∀ j, j < m + 1 → 0 < j → f (j - 1) < f j)) (fun i _ => len - (intOf i).toNat)
 case atStart => exact ⟨0, by omega, rfl, Below.refl _ _, fun j h1 h2 => by omega⟩
 case round =>
  obtain ⟨m, hk, rfl, hb, hall⟩ := hrel
  by_cases hlt : m + 1 < len
  ·obtain ⟨b, off, rfl, hbl, hf⟩ := h (by omega)
   have c0 := (hf.below hb hbl) m (by omega)
   have d0 := (hf.below hb hbl) (m + 1) hlt
   have i0 : (0 : Int) ≤ (m : Int) := by omega
   have i1 : (m : Int) + 1 < (len : Int) := by omega
   have i2 : (m : Int) < (len : Int) := by omega
   have i3 : (0 : Int) ≤ (m : Int) + 1 := by omega
   have i4 : IntKind.i64.wrap (m : Int) = (m : Int) := by rw [IntKind.wrap_i64]; omega
   have i5 : IntKind.i64.wrap ((m : Int) + 1 - 1) = (m : Int) := by rw [IntKind.wrap_i64]; omega
   go_wp2
   go_quiet (fail)
   by_cases hc : f (m + 1) ≤ f m
   ·go_wp2
    go_ret
    refine ⟨ret_bool ?_, QB hb⟩
    unfold risB
    symm
    refine decide_eq_false fun h => ?_
    have := h (m + 1) hlt (by omega)
    simp at this
    omega
   ·go_wp2
    go_roundw
    case rel => exact ⟨m + 1, by omega, by go_num, QB hb, fun j hj h0 => by
     by_cases e : j = m + 1
     ·subst e; simp; omega
     ·exact hall j (by omega) h0⟩
    case measure => simp [intOf]; omega
  ·go_wp2
   go_ret
   refine ⟨ret_bool ?_, hb⟩
   unfold risB
   symm
   rw [decide_eq_true_iff]
   exact fun j hj h0 => hall j (by omega) h0
end Go.Proofs.YtgcdcfjaeehnbaaGreat
