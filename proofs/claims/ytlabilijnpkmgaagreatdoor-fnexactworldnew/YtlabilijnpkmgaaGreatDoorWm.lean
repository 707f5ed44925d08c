/- Great regions walked by a schedule that is checked once, where some blocks may be written. -/
import Derived.Test.YtlabilijnpkmgaaGreatDoorWk
import Derived.Test.YtlabilijnpkmgaaGreatDoorMw
namespace Go.Proofs.YtlabilijnpkmgaaGreatDoor
open Go.RowKit
/-- the walk of a list of steps: what yields yields in every world that is as the world at the beginning was but for blocks of S -/
def wpM (P : Program) (Q : Exit → Act → World → Prop) (R : World → Act → World → Prop) (S : Nat → Prop) : World → List Stp → Act → World → Prop
  | w0, [], a, w => R w0 a w
  | w0, s :: r, a, w =>
    (wantG s.g a.tmps = false ∧ wpM P Q R S w0 r (a.put s.d undef) w) ∨
    (wantG s.g a.tmps = true ∧ s.c ≠ 1 ∧ ∃ v, (∀ w', Mw S w0 w' → (execOp a.eval s.op).run P w' = .ok (.value v) w') ∧ wpM P Q R S w0 r (a.put s.d v) w) ∨
    (wantG s.g a.tmps = true ∧ s.c = 1 ∧ ∀ K : Act → World → Prop, Shut (∀ a' w', Mw S w0 w' → (wpM P Q R S w0 r a' w' ∨ wpM P Q R S w' r a' w') → K a' w') → Oper.wp P s.op a w K Q)
section
variable {P : Program} {ops : Array Oper} {Q : Exit → Act → World → Prop} {md : Region.Mode} {n : Nat} {S : Nat → Prop} {R : World → Act → World → Prop}
def endS (m : Nat) (sch : List (Nat × Nat)) : Nat := sch.foldl (fun m ic => m ||| (1 <<< ic.1)) m
def schedE (md : Region.Mode) (ops : Array Oper) (n : Nat) : Nat → List (Nat × Nat) → Bool
  | _, [] => true
  | m, (i, c) :: r => (if c == 1 then Region.ready md ops (bits n m) == [i] else readyM md ops n m i) && readyM md ops n m i && schedE md ops n (m ||| (1 <<< i)) r
theorem wpM_sound (hF : FreeN md ops n) (hQ : ∀ (d : Option Nat) (v : Value) c a w, Q (.panic c) (a.put d v) w → Q (.panic c) a w) :
    ∀ (sch : List (Nat × Nat)) (L : List Stp) (m : Nat) (w0 : World) (a : Act) (w : World) (fu : Nat), (∀ w0 a w, Mw S w0 w → R w0 a w → wpAnyH P md ops Q (fun w' => Mw S w0 w') fu (bits n (endS m sch)) a w) → stpsOf ops sch = some L → schedE md ops n m sch = true → Mw S w0 w → wpM P Q R S w0 L a w →
    wpAnyH P md ops Q (fun w' => Mw S w0 w') (fu + sch.length) (bits n m) a w := by
  intro sch
  induction sch with
  | nil =>
    intro L m w0 a w fu hE hL hB hb h
    unfold stpsOf at hL
    obtain rfl := Option.some.inj hL
    unfold wpM at h
    exact hE w0 a w hb h
  | cons ic sch ih =>
    intro L m w0 a w fu hE hL hB hb h
    obtain ⟨i, c⟩ := ic
    unfold stpsOf at hL
    cases e1 : stpOf ops i c with
    | none => rw [e1] at hL; cases hL
    | some s =>
      rw [e1] at hL
      dsimp only at hL
      cases e2 : stpsOf ops sch with
      | none => rw [e2] at hL; cases hL
      | some l =>
        rw [e2] at hL
        obtain rfl := Option.some.inj hL
        unfold schedE at hB
        rw [Bool.and_eq_true, Bool.and_eq_true] at hB
        obtain ⟨⟨hB1, hB2⟩, hB3⟩ := hB
        obtain ⟨o, ho, hd, hc, hw, he⟩ := stpOf_spec e1
        rw [List.length_cons, ← Nat.add_assoc]
        unfold wpM at h
        rcases h with ⟨h1, h2⟩ | ⟨h1, h2, v, h3, h4⟩ | ⟨h1, h2, h3⟩
        · rw [← hd] at h2
          exact mstep hF ho _ (Or.inr ⟨by rw [hw]; exact h1, rfl⟩) (ih l _ w0 _ w fu hE e2 hB3 hb h2) hB2 rfl (fun c a w => hQ _ _ c a w) hb
        · rw [← hd] at h4
          exact mstep hF ho _ (Or.inl ⟨by rw [hw]; exact h1, fun w' hw' => by rw [he]; exact h3 w' hw'⟩) (ih l _ w0 _ w fu hE e2 hB3 hb h4) hB2 rfl (fun c a w => hQ _ _ c a w) hb
        · rw [hc] at h2
          subst h2
          have hr : Region.ready md ops (bits n m) = [i] := by simpa using hB1
          refine wpAnyH_ready hr (by simp) (AllReadyH.cons ho (fun K hK => ?_) AllReadyH.nil)
          rw [if_pos (by rw [hw]; exact h1)]
          rw [bits_set (lt_of_m hB2)] at hK
          have h4 := h3 K (fun a' w' hb' hor => hK.out a' w' hb' (fun _ => by
            rcases hor with q | q
            · exact ih l _ w0 a' w' fu hE e2 hB3 hb' q
            · exact wpAnyH_mono' (fun x hx => hb'.trans hx) _ _ _ _ (ih l _ w' a' w' fu hE e2 hB3 (Mw.refl _ _) q)))
          unfold Oper.wp at h4 ⊢
          rw [he]
          have e5 : ∀ r, o.upon P a K Q r = s.op.upon P a K Q r := fun r => by
            unfold Oper.upon
            simp only [hd, Stp.op]
          rw [e5]
          exact h4
/-- two operations may come up next -/
theorem fork2 (hF : FreeN md ops n) (hQ : ∀ (d : Option Nat) (v : Value) c a w, Q (.panic c) (a.put d v) w → Q (.panic c) a w) {i j m : Nat} {si sj : Stp} {r1 r2 : List (Nat × Nat)} {L1 L2 : List Stp} {w0 : World} {a : Act} {w : World}
    (hr : Region.ready md ops (bits n m) = [i, j]) (hi : i < n) (hj : j < n) (hsi : stpOf ops i 1 = some si) (hsj : stpOf ops j 1 = some sj) (hL1 : stpsOf ops r1 = some L1) (hL2 : stpsOf ops r2 = some L2)
    (hB1 : schedB md ops n (m ||| (1 <<< i)) r1 = true) (hB2 : schedB md ops n (m ||| (1 <<< j)) r2 = true) (hg1 : si.g = none) (hg2 : sj.g = none) (hln : r2.length = r1.length) (_hb : Mw S w0 w)
    (h1 : wpM P Q (fun _ => Q .normal) S w0 (si :: L1) a w) (h2 : wpM P Q (fun _ => Q .normal) S w0 (sj :: L2) a w) : wpAnyH P md ops Q (fun w' => Mw S w0 w') (r1.length + 1) (bits n m) a w := by
  have key : ∀ (k : Nat) (s : Stp) (r : List (Nat × Nat)) (L : List Stp), k < n → stpOf ops k 1 = some s → stpsOf ops r = some L → schedB md ops n (m ||| (1 <<< k)) r = true → s.g = none → wpM P Q (fun _ => Q .normal) S w0 (s :: L) a w →
      ∃ o, ops[k]? = some o ∧ ∀ K : Act → World → Prop, Shut (∀ a' w', Mw S w0 w' → ((Mw S w0 w') → wpAnyH P md ops Q (fun w' => Mw S w0 w') r.length ((bits n m).setIfInBounds k true) a' w') → K a' w') → (if Region.wanted o (yielded ops a.tmps) = true then Oper.wp P o a w K Q else K (a.put o.dst undef) w) := by
    intro k s r L hk hs hL hB hg h
    obtain ⟨o, ho, hd, hc, hw, he⟩ := stpOf_spec hs
    have hwt : wantG s.g a.tmps = true := by rw [hg]; rfl
    refine ⟨o, ho, fun K hK => ?_⟩
    rw [if_pos (by rw [hw]; exact hwt)]
    rw [bits_set hk] at hK
    unfold wpM at h
    rcases h with ⟨q1, q2⟩ | ⟨q1, q2, q3⟩ | ⟨q1, q2, q3⟩
    · rw [hwt] at q1; cases q1
    · exact absurd hc q2
    · have h4 := q3 K (fun a' w' hb' hor => hK.out a' w' hb' (fun _ => by
        have fin : ∀ (sch : List (Nat × Nat)) (m : Nat), schedB md ops n m sch = true → schedE md ops n m sch = true ∧ (Region.ready md ops (bits n (endS m sch))).isEmpty = true := by
          intro sch
          induction sch with
          | nil => intro m hB; exact ⟨rfl, hB⟩
          | cons ic sch ih =>
            intro m hB
            obtain ⟨i, c⟩ := ic
            unfold schedB at hB
            rw [Bool.and_eq_true] at hB
            have := ih _ hB.2
            unfold schedE
            rw [Bool.and_eq_true]
            exact ⟨⟨hB.1, this.1⟩, this.2⟩
        have ff := fin _ _ hB
        have tail : ∀ (w0 : World) (a : Act) (w : World), Mw S w0 w → Q .normal a w → wpAnyH P md ops Q (fun w' => Mw S w0 w') 0 (bits n (endS (m ||| (1 <<< k)) r)) a w := fun w0 a w _ q => ⟨List.isEmpty_iff.1 ff.2, q⟩
        have e0 : 0 + r.length = r.length := Nat.zero_add _
        rcases hor with q | q
        · rw [← e0]; exact wpM_sound (R := fun _ => Q .normal) hF hQ r L _ w0 a' w' 0 tail hL ff.1 hb' q
        · rw [← e0]; exact wpAnyH_mono' (fun x hx => hb'.trans hx) _ _ _ _ (wpM_sound (R := fun _ => Q .normal) hF hQ r L _ w' a' w' 0 tail hL ff.1 (Mw.refl _ _) q)))
      unfold Oper.wp at h4 ⊢
      rw [he]
      have e5 : ∀ r, o.upon P a K Q r = s.op.upon P a K Q r := fun r => by
        unfold Oper.upon
        simp only [hd, Stp.op]
      rw [e5]
      exact h4
  obtain ⟨o1, ho1, k1⟩ := key i si r1 L1 hi hsi hL1 hB1 hg1 h1
  obtain ⟨o2, ho2, k2⟩ := key j sj r2 L2 hj hsj hL2 hB2 hg2 h2
  rw [hln] at k2
  exact wpAnyH_ready hr (by simp) (AllReadyH.cons ho1 k1 (AllReadyH.cons ho2 k2 AllReadyH.nil))
theorem schedB_E {md : Region.Mode} {ops : Array Oper} {n : Nat} : ∀ (sch : List (Nat × Nat)) (m : Nat), schedB md ops n m sch = true → schedE md ops n m sch = true ∧ (Region.ready md ops (bits n (endS m sch))).isEmpty = true := by
  intro sch
  induction sch with
  | nil => intro m hB; exact ⟨rfl, hB⟩
  | cons ic sch ih =>
    intro m hB
    obtain ⟨i, c⟩ := ic
    unfold schedB at hB
    rw [Bool.and_eq_true] at hB
    have := ih _ hB.2
    unfold schedE
    rw [Bool.and_eq_true]
    exact ⟨⟨hB.1, this.1⟩, this.2⟩
/-- a region that draws its order -/
theorem wp_region_w (S : Nat → Prop) {id : Nat} {a : Act} {w : World} (L : List Stp) (sch : List (Nat × Nat)) (h : Mw S w w.drew → wpM P Q (fun _ => Q .normal) S w L a w.drew)
    (hs : ops.size = sch.length ∧ freeAll .any ops = true ∧ stpsOf ops sch = some L ∧ schedB .any ops sch.length 0 sch = true := by (refine ⟨?_, ?_, ?_, ?_⟩ <;> kernel_rfl)) (hm : P.follows .mixedOrders = true := by kernel_rfl)
    (hQ : ∀ (d : Option Nat) (v : Value) c a w, Q (.panic c) (a.put d v) w → Q (.panic c) a w := by (intro d v c a w h; cases d <;> exact h)) : (Code.region id ops true).wp P Q a w :=
  wp_region_held_drew (S := fun w' => Mw S w w') hm (Mw.refl _ _).drew (fun hh => by
    rw [hs.1, bits_zero]
    have ff := schedB_E sch 0 hs.2.2.2
    have e0 : 0 + sch.length = sch.length := Nat.zero_add _
    have := wpM_sound (n := sch.length) (R := fun _ => Q .normal) ⟨⟨hs.2.1⟩, hs.1⟩ hQ sch L 0 w a w.drew 0 (fun _ _ _ _ q => ⟨List.isEmpty_iff.1 ff.2, q⟩) hs.2.2.1 ff.1 hh (h hh)
    rwa [e0] at this)
/-- a region that draws its order, at whose end two operations may come up -/
theorem wp_region_wf (S : Nat → Prop) {id : Nat} {a : Act} {w : World} (L : List Stp) (sch : List (Nat × Nat)) {i j : Nat} {si sj : Stp} {r1 r2 : List (Nat × Nat)} {L1 L2 : List Stp} (h : Mw S w w.drew → wpM P Q (fun w0 a w => wpM P Q (fun _ => Q .normal) S w0 (si :: L1) a w ∧ wpM P Q (fun _ => Q .normal) S w0 (sj :: L2) a w) S w L a w.drew)
    (hs : ops.size = (r1.length + 1) + sch.length ∧ freeAll .any ops = true ∧ stpsOf ops sch = some L ∧ schedE .any ops ops.size 0 sch = true ∧ Region.ready .any ops (bits ops.size (endS 0 sch)) = [i, j] ∧ Nat.blt i ops.size = true ∧ Nat.blt j ops.size = true ∧ stpOf ops i 1 = some si ∧ stpOf ops j 1 = some sj ∧ stpsOf ops r1 = some L1 ∧ stpsOf ops r2 = some L2 ∧ schedB .any ops ops.size (endS 0 sch ||| (1 <<< i)) r1 = true ∧ schedB .any ops ops.size (endS 0 sch ||| (1 <<< j)) r2 = true ∧ si.g = none ∧ sj.g = none ∧ r2.length = r1.length := by (refine ⟨?_, ?_, ?_, ?_, ?_, ?_, ?_, ?_, ?_, ?_, ?_, ?_, ?_, ?_, ?_, ?_⟩ <;> kernel_rfl)) (hm : P.follows .mixedOrders = true := by kernel_rfl)
    (hQ : ∀ (d : Option Nat) (v : Value) c a w, Q (.panic c) (a.put d v) w → Q (.panic c) a w := by (intro d v c a w h; cases d <;> exact h)) : (Code.region id ops true).wp P Q a w :=
  wp_region_held_drew (S := fun w' => Mw S w w') hm (Mw.refl _ _).drew (fun hh => by
    obtain ⟨z0, z1, z2, z3, z4, z5, z6, z7, z8, z9, z10, z11, z12, z13, z14, z15⟩ := hs
    rw [bits_zero]
    have hF : FreeN .any ops ops.size := ⟨⟨z1⟩, rfl⟩
    have := wpM_sound (n := ops.size) hF hQ sch L 0 w a w.drew (r1.length + 1) (fun w0 a w hb q => fork2 hF hQ z4 (by simpa [Nat.blt_eq] using z5) (by simpa [Nat.blt_eq] using z6) z7 z8 z9 z10 z11 z12 z13 z14 z15 hb q.1 q.2) z2 z3 hh (h hh)
    rw [← z0] at this
    exact this)
/-- a region in its order -/
theorem wpM_list : ∀ (k : Nat) (sch : List (Nat × Nat)) (L : List Stp) (w0 : World) (a : Act) (w : World), sch.map (·.1) = List.range' k sch.length → k + sch.length = ops.size → stpsOf ops sch = some L → Mw S w0 w → wpM P Q (fun _ => Q .normal) S w0 L a w → wpFrom P ops Q k a w := by
  intro k sch
  induction sch generalizing k with
  | nil =>
    intro L w0 a w hk hn hL hb h
    unfold stpsOf at hL
    obtain rfl := Option.some.inj hL
    unfold wpM at h
    exact lsE h (by rw [List.drop_eq_nil_iff]; simp at hn ⊢; omega)
  | cons ic sch ih =>
    intro L w0 a w hk hn hL hb h
    obtain ⟨i, c⟩ := ic
    unfold stpsOf at hL
    cases e1 : stpOf ops i c with
    | none => rw [e1] at hL; cases hL
    | some s =>
      rw [e1] at hL
      dsimp only at hL
      cases e2 : stpsOf ops sch with
      | none => rw [e2] at hL; cases hL
      | some l =>
        rw [e2] at hL
        obtain rfl := Option.some.inj hL
        rw [List.map_cons, List.length_cons, List.range'_succ, List.cons.injEq] at hk
        obtain ⟨rfl, hk⟩ := hk
        rw [List.length_cons] at hn
        obtain ⟨o, ho, hd, hc, hw, he⟩ := stpOf_spec e1
        unfold wpM at h
        rcases h with ⟨h1, h2⟩ | ⟨h1, h2, v, h3, h4⟩ | ⟨h1, h2, h3⟩
        · rw [← hd] at h2
          have h6 := ih _ l w0 _ w hk (by omega) e2 hb h2
          unfold wpFrom
          rw [drop_at ho]
          refine wpList_step fun K hK => ?_
          rw [if_neg (by rw [hw, h1]; exact Bool.false_ne_true)]
          exact hK _ _ h6
        · rw [← hd] at h4
          have h6 := ih _ l w0 _ w hk (by omega) e2 hb h4
          have h7 := h3 w hb
          unfold wpFrom
          rw [drop_at ho]
          refine wpList_step fun K hK => ?_
          rw [if_pos (by rw [hw]; exact h1), Oper.wp, he, h7]
          exact hK _ _ h6
        · unfold wpFrom
          rw [drop_at ho]
          refine wpList_step fun K hK => ?_
          rw [if_pos (by rw [hw]; exact h1)]
          have h4 := h3 K (fun a' w' hb' hor => hK _ _ (by
            rcases hor with q | q
            · exact ih _ l w0 a' w' hk (by omega) e2 hb' q
            · exact ih _ l w' a' w' hk (by omega) e2 (Mw.refl _ _) q))
          unfold Oper.wp at h4 ⊢
          rw [he]
          have e5 : ∀ r, o.upon P a K Q r = s.op.upon P a K Q r := fun r => by
            unfold Oper.upon
            simp only [hd, Stp.op]
          rw [e5]
          exact h4
theorem wp_region_w0 (S : Nat → Prop) {id : Nat} {a : Act} {w : World} (L : List Stp) (sch : List (Nat × Nat)) (h : Mw S w w → wpM P Q (fun _ => Q .normal) S w L a w)
    (hs : sch.map (·.1) = List.range' 0 sch.length ∧ 0 + sch.length = ops.size ∧ stpsOf ops sch = some L := by (refine ⟨?_, ?_, ?_⟩ <;> kernel_rfl)) : (Code.region id ops false).wp P Q a w :=
  wp_region_p ops (wpM_list 0 sch L w a w hs.1 hs.2.1 hs.2.2 (Mw.refl _ _) (h (Mw.refl _ _)))
end
section
variable {P : Program} {Q : Exit → Act → World → Prop} {R : World → Act → World → Prop} {S : Nat → Prop} {w0 w : World} {d : Option Nat} {o : Op} {t : TypeId} {g : Option (Nat × Bool)} {c : Nat} {r : List Stp} {a a' : Act} {v : Value}
/-- it is passed over -/
theorem mN (h : wpM P Q R S w0 r a' w) (hw : wantG g a.tmps = false := by kernel_rfl) (ha : a.put d undef = a' := by (simp only [putQ]; try rfl)) : wpM P Q R S w0 (⟨d, o, t, g, c⟩ :: r) a w := by
  subst ha
  unfold wpM
  exact .inl ⟨hw, h⟩
/-- it yields, whatever the world -/
theorem mY (h : wpM P Q R S w0 r a' w) (hw : wantG g a.tmps = true := by kernel_rfl)
    (hy : ∀ w, (execOp a.eval { dst := d, op := o, type := t, pos := "", after := #[], guard := none }).run P w = .ok (.value v) w := by (intro w; go_simp; try with_reducible rfl))
    (ha : a.put d v = a' := by (simp only [putQ]; try rfl)) : wpM P Q R S w0 (⟨d, o, t, g, 0⟩ :: r) a w := by
  subst ha
  unfold wpM
  exact .inr (.inl ⟨hw, Nat.zero_ne_one, v, fun w' _ => hy w', h⟩)
/-- it yields what is given -/
theorem mV (v : Value) (h : wpM P Q R S w0 r a' w)
    (hy : ∀ w, (execOp a.eval { dst := d, op := o, type := t, pos := "", after := #[], guard := none }).run P w = .ok (.value v) w := by (intro w; go_simp; all_goals (first | with_reducible rfl | assumption | (simp; done) | (simp; omega))))
    (hw : wantG g a.tmps = true := by kernel_rfl) (ha : a.put d v = a' := by (simp only [putQ]; try rfl)) (hc : c ≠ 1 := by decide) : wpM P Q R S w0 (⟨d, o, t, g, c⟩ :: r) a w := by
  subst ha
  unfold wpM
  exact .inr (.inl ⟨hw, hc, v, fun w' _ => hy w', h⟩)
/-- it yields by a law of its own -/
theorem mW (v : Value) (hy : ∀ w', Mw S w0 w' → (execOp a.eval { dst := d, op := o, type := t, pos := "", after := #[], guard := none }).run P w' = .ok (.value v) w') (h : wpM P Q R S w0 r a' w)
    (hw : wantG g a.tmps = true := by kernel_rfl) (ha : a.put d v = a' := by (simp only [putQ]; try rfl)) (hc : c ≠ 1 := by decide) : wpM P Q R S w0 (⟨d, o, t, g, c⟩ :: r) a w := by
  subst ha
  unfold wpM
  exact .inr (.inl ⟨hw, hc, v, hy, h⟩)
/-- one cell is read -/
theorem mL {x : Operand} {t' : TypeId} {ad : Addr} (h : wpM P Q R S w0 r a' w) (hw : wantG g a.tmps = true := by kernel_rfl)
    (hx : a.eval x = .pointer (some ad) := by rfl) (hc : w0.cell? ad = some v := by assumption) (hS : ¬ S ad.block := by first | assumption | (simp only; omega)) (hu : ∀ w, (isAgg t').run P w = .ok false w := by (intro w; kernel_rfl))
    (ha : a.put d v = a' := by (simp only [putQ]; try rfl)) : wpM P Q R S w0 (⟨d, .load t' x, t, g, 0⟩ :: r) a w := by
  subst ha
  unfold wpM
  refine .inr (.inl ⟨hw, Nat.zero_ne_one, v, fun w' hb => ?_, h⟩)
  have hc' := hb.cell hc hS
  simp only [Stp.op, execOp, Instr.loadAt, hx, Instr.sureAddr, loadVar, Sem.run_bind, Sem.run_pure, Result.andThen, hu, Bool.false_eq_true, if_false, run_load, hc']
/-- cells are read -/
theorem mR {x : Operand} {t' : TypeId} {b o' : Nat} {xs : List Value} (h : wpM P Q R S w0 r a' w) (hw : wantG g a.tmps = true := by kernel_rfl)
    (hx : a.eval x = .pointer (some ⟨b, o', none⟩) := by rfl) (hr : w0.rangeAt b o' xs := by assumption) (hS : ¬ S b := by first | assumption | (simp only; omega)) (hu : rowT P t' xs.length = true := by kernel_rfl)
    (ha : a.put d (.agg xs.toArray) = a' := by (simp only [putQ]; try rfl)) : wpM P Q R S w0 (⟨d, .load t' x, t, g, 0⟩ :: r) a w := by
  subst ha
  unfold wpM
  refine .inr (.inl ⟨hw, Nat.zero_ne_one, _, fun w' hb => ?_, h⟩)
  unfold rowT at hu
  rw [Bool.and_eq_true, beq_iff_eq] at hu
  cases e : P.underlying t' with
  | none => rw [e] at hu; exact absurd hu.1 Bool.false_ne_true
  | some dd =>
    rw [e] at hu
    simp only [Stp.op, execOp, hx, Sem.run_bind, run_loadAt_mid w' b o' t' xs dd (hb.range hr hS) e hu.1 hu.2, Result.andThen_ok, Sem.run_pure]
/-- it is carried out -/
theorem mC (h : ∀ K : Act → World → Prop, Shut (∀ a' w', Mw S w0 w' → (wpM P Q R S w0 r a' w' ∨ wpM P Q R S w' r a' w') → K a' w') → Oper.wp P { dst := d, op := o, type := t, pos := "", after := #[], guard := none } a w K Q)
    (hw : wantG g a.tmps = true := by kernel_rfl) : wpM P Q R S w0 (⟨d, o, t, g, 1⟩ :: r) a w := by
  unfold wpM
  exact .inr (.inr ⟨hw, rfl, h⟩)
theorem mE (h : R w0 a w) : wpM P Q R S w0 [] a w := by
  unfold wpM
  exact h
end
end Go.Proofs.YtlabilijnpkmgaaGreatDoor
