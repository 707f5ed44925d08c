/- Great regions walked by a schedule that is checked once: a list of steps; what is read is read of the world at the region's beginning. -/
import Derived.Test.YtgcdcfjaeehnbaaGreatMsk
import Derived.Below
import Derived.Deep.MidRow
namespace Go.Proofs.YtgcdcfjaeehnbaaGreat
open Go.RowKit
/-- a step: where its value goes, the operation, its type, when it is wanted (a temporary and a truth), how it is taken (1: carried out; else it yields) -/
structure Stp where
  d : Option Nat
  o : Op
  t : TypeId
  g : Option (Nat × Bool)
  c : Nat
def Stp.op (s : Stp) : Oper := { dst := s.d, op := s.o, type := s.t, pos := "", after := #[], guard := none }
def wantG (g : Option (Nat × Bool)) (tmps : Array Value) : Bool := match g with
  | none => true
  | some (t, b) => (match tmps[t]? with | some (.bool x) => some x | _ => none) == some b
def guardOf (ops : Array Oper) (g : Option (Nat × Bool)) : Option (Option (Nat × Bool)) := match g with
  | none => some none
  | some (j, b) => match (ops[j]?).bind (·.dst) with
    | none => none
    | some t => some (some (t, b))
def stpOf (ops : Array Oper) (i c : Nat) : Option Stp := match ops[i]? with
  | none => none
  | some o => match guardOf ops o.guard with
    | none => none
    | some g => some ⟨o.dst, o.op, o.type, g, c⟩
def stpsOf (ops : Array Oper) : List (Nat × Nat) → Option (List Stp)
  | [] => some []
  | (i, c) :: r => match stpOf ops i c with
    | none => none
    | some s => match stpsOf ops r with
      | none => none
      | some l => some (s :: l)
def schedB (md : Region.Mode) (ops : Array Oper) (n : Nat) : Nat → List (Nat × Nat) → Bool
  | m, [] => (Region.ready md ops (bits n m)).isEmpty
  | m, (i, c) :: r => (if c == 1 then Region.ready md ops (bits n m) == [i] else readyM md ops n m i) && readyM md ops n m i && schedB md ops n (m ||| (1 <<< i)) r
/-- the walk of a list of steps: what yields yields in every world that is, below, as the world at the beginning was -/
def wpQ (P : Program) (Q : Exit → Act → World → Prop) : World → List Stp → Act → World → Prop
  | _, [], a, w => Q .normal a w
  | w0, s :: r, a, w =>
    (wantG s.g a.tmps = false ∧ wpQ P Q w0 r (a.put s.d undef) w) ∨
    (wantG s.g a.tmps = true ∧ s.c ≠ 1 ∧ ∃ v, (∀ w', Below w0.heap.size w0 w' → (execOp a.eval s.op).run P w' = .ok (.value v) w') ∧ wpQ P Q w0 r (a.put s.d v) w) ∨
    (wantG s.g a.tmps = true ∧ s.c = 1 ∧ ∀ K : Act → World → Prop, Shut (∀ a' w', Below w0.heap.size w0 w' → (wpQ P Q w0 r a' w' ∨ wpQ P Q w' r a' w') → K a' w') → Oper.wp P s.op a w K Q)
section
variable {P : Program} {ops : Array Oper} {Q : Exit → Act → World → Prop} {md : Region.Mode} {n : Nat}
theorem wpAnyH_mono' {S S' : World → Prop} (h : ∀ w, S' w → S w) : ∀ (fuel : Nat) (listed : Array Bool) (a : Act) (w : World), wpAnyH P md ops Q S' fuel listed a w → wpAnyH P md ops Q S fuel listed a w
  | 0, _, _, _, q => q
  | fuel + 1, _, _, _, q => ⟨q.1, fun i hi => wpOp_mono (fun a' w' h' => ⟨h _ h'.1, wpAnyH_mono' h fuel _ a' w' h'.2⟩) (q.2 i hi)⟩
theorem stpOf_spec {i c : Nat} {s : Stp} (h : stpOf ops i c = some s) : ∃ o, ops[i]? = some o ∧ o.dst = s.d ∧ s.c = c ∧ (∀ a : Act, Region.wanted o (yielded ops a.tmps) = wantG s.g a.tmps) ∧ (∀ a : Act, execOp a.eval o = execOp a.eval s.op) := by
  unfold stpOf at h
  cases e : ops[i]? with
  | none => rw [e] at h; cases h
  | some o =>
    rw [e] at h
    dsimp only at h
    cases eg : guardOf ops o.guard with
    | none => rw [eg] at h; cases h
    | some g =>
      rw [eg] at h
      dsimp only at h
      obtain rfl := Option.some.inj h
      refine ⟨o, rfl, rfl, rfl, fun a => ?_, fun a => ?_⟩
      · unfold guardOf at eg
        unfold Region.wanted
        cases e2 : o.guard with
        | none => rw [e2] at eg; obtain rfl := Option.some.inj eg; rfl
        | some jb =>
          obtain ⟨j, b⟩ := jb
          rw [e2] at eg
          dsimp only at eg ⊢
          cases e3 : (ops[j]?).bind (·.dst) with
          | none => rw [e3] at eg; cases eg
          | some t =>
            rw [e3] at eg
            obtain rfl := Option.some.inj eg
            unfold wantG yielded
            rw [e3]
            rfl
      · obtain ⟨dst, op, type, pos, after, guard⟩ := o
        rfl
theorem wpQ_sound (hF : FreeN md ops n) (hQ : ∀ (d : Option Nat) (v : Value) c a w, Q (.panic c) (a.put d v) w → Q (.panic c) a w) :
    ∀ (sch : List (Nat × Nat)) (L : List Stp) (m : Nat) (w0 : World) (a : Act) (w : World), stpsOf ops sch = some L → schedB md ops n m sch = true → Below w0.heap.size w0 w → wpQ P Q w0 L a w →
    wpAnyH P md ops Q (fun w' => Below w0.heap.size w0 w') sch.length (bits n m) a w := by
  intro sch
  induction sch with
  | nil =>
    intro L m w0 a w hL hB hb h
    unfold stpsOf at hL
    obtain rfl := Option.some.inj hL
    unfold schedB at hB
    unfold wpQ at h
    exact ⟨List.isEmpty_iff.1 hB, h⟩
  | cons ic sch ih =>
    intro L m w0 a w hL hB hb h
    obtain ⟨i, c⟩ := ic
    unfold stpsOf at hL
    cases e1 : stpOf ops i c with
    | none => rw [e1] at hL; cases hL
    | some s =>
      rw [e1] at hL
      dsimp only at hL
      cases e2 : stpsOf ops sch with
      | none => rw [e2] at hL; cases hL
      | some l =>
        rw [e2] at hL
        obtain rfl := Option.some.inj hL
        unfold schedB at hB
        rw [Bool.and_eq_true, Bool.and_eq_true] at hB
        obtain ⟨⟨hB1, hB2⟩, hB3⟩ := hB
        obtain ⟨o, ho, hd, hc, hw, he⟩ := stpOf_spec e1
        rw [List.length_cons]
        unfold wpQ at h
        rcases h with ⟨h1, h2⟩ | ⟨h1, h2, v, h3, h4⟩ | ⟨h1, h2, h3⟩
        · rw [← hd] at h2
          exact mstep hF ho _ (Or.inr ⟨by rw [hw]; exact h1, rfl⟩) (ih l _ w0 _ w e2 hB3 hb h2) hB2 rfl (fun c a w => hQ _ _ c a w) hb
        · rw [← hd] at h4
          exact mstep hF ho _ (Or.inl ⟨by rw [hw]; exact h1, fun w' hw' => by rw [he]; exact h3 w' hw'⟩) (ih l _ w0 _ w e2 hB3 hb h4) hB2 rfl (fun c a w => hQ _ _ c a w) hb
        · rw [hc] at h2
          subst h2
          have hr : Region.ready md ops (bits n m) = [i] := by simpa using hB1
          refine wpAnyH_ready hr (by simp) (AllReadyH.cons ho (fun K hK => ?_) AllReadyH.nil)
          rw [if_pos (by rw [hw]; exact h1)]
          rw [bits_set (lt_of_m hB2)] at hK
          have h4 := h3 K (fun a' w' hb' hor => hK.out a' w' hb' (fun _ => by
            rcases hor with q | q
            · exact ih l _ w0 a' w' e2 hB3 hb' q
            · exact wpAnyH_mono' (fun x hx => hb'.trans (hx.mono hb'.size)) _ _ _ _ (ih l _ w' a' w' e2 hB3 (Below.refl _ _) q)))
          unfold Oper.wp at h4 ⊢
          rw [he]
          have e5 : ∀ r, o.upon P a K Q r = s.op.upon P a K Q r := fun r => by
            unfold Oper.upon
            simp only [hd, Stp.op]
          rw [e5]
          exact h4
/-- a region that draws its order -/
theorem wp_region_q {id : Nat} {a : Act} {w : World} (L : List Stp) (sch : List (Nat × Nat)) (h : Below w.heap.size w w.drew → wpQ P Q w L a w.drew)
    (hs : ops.size = sch.length ∧ freeAll .any ops = true ∧ stpsOf ops sch = some L ∧ schedB .any ops sch.length 0 sch = true := by (refine ⟨?_, ?_, ?_, ?_⟩ <;> kernel_rfl)) (hm : P.follows .mixedOrders = true := by kernel_rfl)
    (hQ : ∀ (d : Option Nat) (v : Value) c a w, Q (.panic c) (a.put d v) w → Q (.panic c) a w := by (intro d v c a w h; cases d <;> exact h)) : (Code.region id ops true).wp P Q a w :=
  wp_region_held_drew (S := fun w' => Below w.heap.size w w') hm (Below.refl _ _).drew (fun hh => by
    rw [hs.1, bits_zero]
    exact wpQ_sound (n := sch.length) ⟨⟨hs.2.1⟩, hs.1⟩ hQ sch L 0 w a w.drew hs.2.2.1 hs.2.2.2 hh (h hh))
/-- a region in its order -/
theorem wpQ_list : ∀ (k : Nat) (sch : List (Nat × Nat)) (L : List Stp) (w0 : World) (a : Act) (w : World), sch.map (·.1) = List.range' k sch.length → k + sch.length = ops.size → stpsOf ops sch = some L → Below w0.heap.size w0 w → wpQ P Q w0 L a w → wpFrom P ops Q k a w := by
  intro k sch
  induction sch generalizing k with
  | nil =>
    intro L w0 a w hk hn hL hb h
    unfold stpsOf at hL
    obtain rfl := Option.some.inj hL
    unfold wpQ at h
    exact lsE h (by rw [List.drop_eq_nil_iff]; simp at hn ⊢; omega)
  | cons ic sch ih =>
    intro L w0 a w hk hn hL hb h
    obtain ⟨i, c⟩ := ic
    unfold stpsOf at hL
    cases e1 : stpOf ops i c with
    | none => rw [e1] at hL; cases hL
    | some s =>
      rw [e1] at hL
      dsimp only at hL
      cases e2 : stpsOf ops sch with
      | none => rw [e2] at hL; cases hL
      | some l =>
        rw [e2] at hL
        obtain rfl := Option.some.inj hL
        rw [List.map_cons, List.length_cons, List.range'_succ, List.cons.injEq] at hk
        obtain ⟨rfl, hk⟩ := hk
        rw [List.length_cons] at hn
        obtain ⟨o, ho, hd, hc, hw, he⟩ := stpOf_spec e1
        unfold wpQ at h
        rcases h with ⟨h1, h2⟩ | ⟨h1, h2, v, h3, h4⟩ | ⟨h1, h2, h3⟩
        · rw [← hd] at h2
          have h6 := ih _ l w0 _ w hk (by omega) e2 hb h2
          unfold wpFrom
          rw [drop_at ho]
          refine wpList_step fun K hK => ?_
          rw [if_neg (by rw [hw, h1]; exact Bool.false_ne_true)]
          exact hK _ _ h6
        · rw [← hd] at h4
          have h6 := ih _ l w0 _ w hk (by omega) e2 hb h4
          have h7 := h3 w hb
          unfold wpFrom
          rw [drop_at ho]
          refine wpList_step fun K hK => ?_
          rw [if_pos (by rw [hw]; exact h1), Oper.wp, he, h7]
          exact hK _ _ h6
        · unfold wpFrom
          rw [drop_at ho]
          refine wpList_step fun K hK => ?_
          rw [if_pos (by rw [hw]; exact h1)]
          have h4 := h3 K (fun a' w' hb' hor => hK _ _ (by
            rcases hor with q | q
            · exact ih _ l w0 a' w' hk (by omega) e2 hb' q
            · exact ih _ l w' a' w' hk (by omega) e2 (Below.refl _ _) q))
          unfold Oper.wp at h4 ⊢
          rw [he]
          have e5 : ∀ r, o.upon P a K Q r = s.op.upon P a K Q r := fun r => by
            unfold Oper.upon
            simp only [hd, Stp.op]
          rw [e5]
          exact h4
theorem wp_region_q0 {id : Nat} {a : Act} {w : World} (L : List Stp) (sch : List (Nat × Nat)) (h : Below w.heap.size w w → wpQ P Q w L a w)
    (hs : sch.map (·.1) = List.range' 0 sch.length ∧ 0 + sch.length = ops.size ∧ stpsOf ops sch = some L := by (refine ⟨?_, ?_, ?_⟩ <;> kernel_rfl)) : (Code.region id ops false).wp P Q a w :=
  wp_region_p ops (wpQ_list 0 sch L w a w hs.1 hs.2.1 hs.2.2 (Below.refl _ _) (h (Below.refl _ _)))
end
section
variable {P : Program} {Q : Exit → Act → World → Prop} {w0 w : World} {d : Option Nat} {o : Op} {t : TypeId} {g : Option (Nat × Bool)} {c : Nat} {r : List Stp} {a a' : Act} {v : Value}
/-- it is passed over -/
theorem qN (h : wpQ P Q w0 r a' w) (hw : wantG g a.tmps = false := by kernel_rfl) (ha : a.put d undef = a' := by (simp only [putQ]; try rfl)) : wpQ P Q w0 (⟨d, o, t, g, c⟩ :: r) a w := by
  subst ha
  unfold wpQ
  exact .inl ⟨hw, h⟩
/-- it yields, whatever the world -/
theorem qY (h : wpQ P Q w0 r a' w) (hw : wantG g a.tmps = true := by kernel_rfl)
    (hy : ∀ w, (execOp a.eval { dst := d, op := o, type := t, pos := "", after := #[], guard := none }).run P w = .ok (.value v) w := by (intro w; go_simp; try with_reducible rfl))
    (ha : a.put d v = a' := by (simp only [putQ]; try rfl)) : wpQ P Q w0 (⟨d, o, t, g, 0⟩ :: r) a w := by
  subst ha
  unfold wpQ
  exact .inr (.inl ⟨hw, Nat.zero_ne_one, v, fun w' _ => hy w', h⟩)
/-- it yields what is given -/
theorem qV (v : Value) (h : wpQ P Q w0 r a' w)
    (hy : ∀ w, (execOp a.eval { dst := d, op := o, type := t, pos := "", after := #[], guard := none }).run P w = .ok (.value v) w := by (intro w; go_simp; all_goals (first | with_reducible rfl | assumption | (simp; done) | (simp; omega))))
    (hw : wantG g a.tmps = true := by kernel_rfl) (ha : a.put d v = a' := by (simp only [putQ]; try rfl)) (hc : c ≠ 1 := by decide) : wpQ P Q w0 (⟨d, o, t, g, c⟩ :: r) a w := by
  subst ha
  unfold wpQ
  exact .inr (.inl ⟨hw, hc, v, fun w' _ => hy w', h⟩)
/-- it yields by a law of its own -/
theorem qW (v : Value) (hy : ∀ w', Below w0.heap.size w0 w' → (execOp a.eval { dst := d, op := o, type := t, pos := "", after := #[], guard := none }).run P w' = .ok (.value v) w') (h : wpQ P Q w0 r a' w)
    (hw : wantG g a.tmps = true := by kernel_rfl) (ha : a.put d v = a' := by (simp only [putQ]; try rfl)) (hc : c ≠ 1 := by decide) : wpQ P Q w0 (⟨d, o, t, g, c⟩ :: r) a w := by
  subst ha
  unfold wpQ
  exact .inr (.inl ⟨hw, hc, v, hy, h⟩)
theorem cell_keep {ad : Addr} (hc : w0.cell? ad = some v) {w' : World} (hb : Below w0.heap.size w0 w') : w'.cell? ad = some v := by
  have hlt : ad.block < w0.heap.size := by
    unfold World.cell? at hc
    rcases Nat.lt_or_ge ad.block w0.heap.size with q | q
    · exact q
    · exfalso
      rw [Array.getElem?_eq_none q] at hc
      simp at hc
  unfold World.cell? at hc ⊢
  rw [hb.block _ hlt]
  exact hc
/-- one cell is read -/
theorem qL {x : Operand} {t' : TypeId} {ad : Addr} (h : wpQ P Q w0 r a' w) (hw : wantG g a.tmps = true := by kernel_rfl)
    (hx : a.eval x = .pointer (some ad) := by rfl) (hc : w0.cell? ad = some v := by assumption) (hu : ∀ w, (isAgg t').run P w = .ok false w := by (intro w; kernel_rfl))
    (ha : a.put d v = a' := by (simp only [putQ]; try rfl)) : wpQ P Q w0 (⟨d, .load t' x, t, g, 0⟩ :: r) a w := by
  subst ha
  unfold wpQ
  refine .inr (.inl ⟨hw, Nat.zero_ne_one, v, fun w' hb => ?_, h⟩)
  have hc' := cell_keep hc hb
  simp only [Stp.op, execOp, Instr.loadAt, hx, Instr.sureAddr, loadVar, Sem.run_bind, Sem.run_pure, Result.andThen, hu, Bool.false_eq_true, if_false, run_load, hc']
def rowT (P : Program) (t : TypeId) (n : Nat) : Bool := (match P.underlying t with | some d => d.isRow | none => false) && (P.info? t).map (·.size) == some n
theorem range_keep {b o' : Nat} {xs : List Value} (h : w0.rangeAt b o' xs) {w' : World} (hb : Below w0.heap.size w0 w') : w'.rangeAt b o' xs := fun j x hx => cell_keep (h j x hx) hb
/-- cells are read -/
theorem qR {x : Operand} {t' : TypeId} {b o' : Nat} {xs : List Value} (h : wpQ P Q w0 r a' w) (hw : wantG g a.tmps = true := by kernel_rfl)
    (hx : a.eval x = .pointer (some ⟨b, o', none⟩) := by rfl) (hr : w0.rangeAt b o' xs := by assumption) (hu : rowT P t' xs.length = true := by kernel_rfl)
    (ha : a.put d (.agg xs.toArray) = a' := by (simp only [putQ]; try rfl)) : wpQ P Q w0 (⟨d, .load t' x, t, g, 0⟩ :: r) a w := by
  subst ha
  unfold wpQ
  refine .inr (.inl ⟨hw, Nat.zero_ne_one, _, fun w' hb => ?_, h⟩)
  unfold rowT at hu
  rw [Bool.and_eq_true, beq_iff_eq] at hu
  cases e : P.underlying t' with
  | none => rw [e] at hu; exact absurd hu.1 Bool.false_ne_true
  | some dd =>
    rw [e] at hu
    simp only [Stp.op, execOp, hx, Sem.run_bind, run_loadAt_mid w' b o' t' xs dd (range_keep hr hb) e hu.1 hu.2, Result.andThen_ok, Sem.run_pure]
theorem range4 {b o' : Nat} {v0 v1 v2 v3 : Value} (h0 : w0.cell? ⟨b, o', none⟩ = some v0) (h1 : w0.cell? ⟨b, o' + 1, none⟩ = some v1) (h2 : w0.cell? ⟨b, o' + 2, none⟩ = some v2) (h3 : w0.cell? ⟨b, o' + 3, none⟩ = some v3) : w0.rangeAt b o' [v0, v1, v2, v3] := fun j x hx => by
  rcases j with _ | _ | _ | _ | j
  · obtain rfl := Option.some.inj hx; exact h0
  · obtain rfl := Option.some.inj hx; exact h1
  · obtain rfl := Option.some.inj hx; exact h2
  · obtain rfl := Option.some.inj hx; exact h3
  · simp at hx
/-- it is carried out -/
theorem qC (h : ∀ K : Act → World → Prop, Shut (∀ a' w', Below w0.heap.size w0 w' → (wpQ P Q w0 r a' w' ∨ wpQ P Q w' r a' w') → K a' w') → Oper.wp P { dst := d, op := o, type := t, pos := "", after := #[], guard := none } a w K Q)
    (hw : wantG g a.tmps = true := by kernel_rfl) : wpQ P Q w0 (⟨d, o, t, g, 1⟩ :: r) a w := by
  unfold wpQ
  exact .inr (.inr ⟨hw, rfl, h⟩)
theorem qE (h : Q .normal a w) : wpQ P Q w0 [] a w := by
  unfold wpQ
  exact h
end
end Go.Proofs.YtgcdcfjaeehnbaaGreat
