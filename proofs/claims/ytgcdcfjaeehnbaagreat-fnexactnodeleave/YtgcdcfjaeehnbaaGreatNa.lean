/- What is written lies in some blocks; rows of one's own by the place's number. -/
import Derived.Test.YtgcdcfjaeehnbaaGreatInts
import Derived.Below
import Derived.Deep.MidRow
import Derived.Deep.OwnRows
import Derived.Laws.OwnMore
import Derived.Test.YtgcdcfjaeehnbaaGreatGatesF
import Derived.Deep.Cut
import Derived.Test.YtgcdcfjaeehnbaaGreatNd24
import Derived.Test.YtgcdcfjaeehnbaaGreatNd25
import Derived.Test.YtgcdcfjaeehnbaaGreatNd40
namespace Go.Proofs.YtgcdcfjaeehnbaaGreat
open Go.RowKit
structure Mw (S : Nat → Prop) (w w' : World) : Prop where
 os : w'.os = w.os
 tape : w'.tape = w.tape
 output : w'.output = w.output
 size : w.heap.size ≤ w'.heap.size
 block : ∀ k, k < w.heap.size → ¬ S k → w'.heap[k]? = w.heap[k]?
section
variable {S T : Nat → Prop} {a w w' w'' : World}
theorem Mw.refl (S : Nat → Prop) (w : World) : Mw S w w := ⟨rfl, rfl, rfl, Nat.le_refl _, fun _ _ _ => rfl⟩
theorem Mw.trans (h : Mw S w w') (k : Mw S w' w'') : Mw S w w'' :=
 ⟨k.os.trans h.os, k.tape.trans h.tape, k.output.trans h.output, Nat.le_trans h.size k.size, fun i hi q => (k.block i (Nat.lt_of_lt_of_le hi h.size) q).trans (h.block i hi q)⟩
theorem Mw.mono (h : Mw S w w') (q : ∀ k, S k → T k) : Mw T w w' := ⟨h.os, h.tape, h.output, h.size, fun k hk n => h.block k hk fun s => n (q k s)⟩
theorem Mw.grown {r : Option Nat} (h : w.grownBy w' r) (q : ∀ k, r = some k → S k) : Mw S w w' := ⟨h.os, h.tape, h.output, h.size, fun k hk n => h.block k hk fun e => n (q k e.symm)⟩
theorem Mw.of_below (h : Below w.heap.size w w') : Mw S w w' := ⟨h.os, h.tape, h.output, h.size, fun k hk _ => h.block k hk⟩
theorem Mw.below (k : Mw S w w') (h : Below a.heap.size a w) (q : ∀ i, S i → a.heap.size ≤ i) : Below a.heap.size a w' :=
 ⟨k.os.trans h.os, k.tape.trans h.tape, k.output.trans h.output, Nat.le_trans h.size k.size, fun i hi => (k.block i (Nat.lt_of_lt_of_le hi h.size) (fun s => by have := q i s; omega)).trans (h.block i hi)⟩
theorem Mw.fresh (k : Mw S w w') (q : ∀ i, S i → i < w.heap.size → T i) : Mw T w w' := ⟨k.os, k.tape, k.output, k.size, fun i hi n => k.block i hi fun s => n (q i s hi)⟩
theorem Mw.drew (h : Mw S w w') : Mw S w w'.drew := ⟨h.os, h.tape, h.output, h.size, h.block⟩
theorem Mw.set {b o : Nat} {v : Value} (h : Mw S w w') (hb : S b) : Mw S w (w'.setCell ⟨b, o, none⟩ v) :=
 ⟨h.os, h.tape, h.output, by simpa [World.setCell] using h.size, fun k hk n => (heap_setCell_other w' ⟨b, o, none⟩ k v (fun e => n (by simp at e; exact e ▸ hb))).trans (h.block k hk n)⟩
theorem Mw.alloc (h : Mw S w w') (o : Obj) : Mw S w (w'.alloc o) := ⟨h.os, h.tape, h.output, Nat.le_trans h.size (by simp), fun k hk n => (_root_.Go.heap_alloc_old w' o (Nat.lt_of_lt_of_le hk h.size)).trans (h.block k hk n)⟩
theorem lt_cell {ad : Addr} {v : Value} (hc : w.cell? ad = some v) : ad.block < w.heap.size := by
 unfold World.cell? at hc
 rcases Nat.lt_or_ge ad.block w.heap.size with q | q
 ·exact q
 ·exfalso
  rw [Array.getElem?_eq_none q] at hc
  simp at hc
theorem Mw.cell {ad : Addr} {v : Value} (k : Mw S w w') (hc : w.cell? ad = some v) (q : ¬ S ad.block) : w'.cell? ad = some v :=
 (World.cell?_of_block (k.block ad.block (lt_cell hc) q)).trans hc
theorem Mw.range {b o : Nat} {xs : List Value} (k : Mw S w w') (h : w.rangeAt b o xs) (q : ¬ S b) : w'.rangeAt b o xs := fun j x hx => k.cell (h j x hx) q
theorem own_mw {base size n : Nat} {e : TypeId} {v : Value} {xs : List Value} (h : w.ownsRow base e size v n xs) (k : Mw S w w') (q : ∀ x, v.ownBlock = some x → ¬ S x) : w'.ownsRow base e size v n xs := by
 have h0 := h
 refine ⟨h.1, h.2.imp id ?_⟩
 rintro ⟨g, cap, cur, rfl, hg, r⟩
 have hb : (Value.slice (some ⟨g, 0, none⟩) n cap).ownBlock = some g := rfl
 exact ⟨g, cap, cur, rfl, hg, (k.block g (h0.lt g hb).2 (q g hb)).trans r.1, r.2⟩
end
def rv (f : Nat → Value) (n : Nat) : List Value := (List.range n).map f
theorem rv_len (f : Nat → Value) (n : Nat) : (rv f n).length = n := by simp [rv]
theorem rv_get {f : Nat → Value} {n j : Nat} (h : j < n) : (rv f n)[j]? = some (f j) := by simp [rv, h]
theorem rv_set (f : Nat → Value) (n j : Nat) (x : Value) : (rv f n).set j x = rv (fun i => if i = j then x else f i) n := by
 apply List.ext_getElem?
 intro i
 by_cases hi : i < n
 ·by_cases e : i = j
  ·subst e; simp [rv, hi]
  ·rw [List.getElem?_set_ne (fun q => e q.symm), rv_get hi, rv_get hi, if_neg e]
 ·rw [List.getElem?_eq_none (by simp [rv]; omega), List.getElem?_eq_none (by simp [rv]; omega)]
theorem rv_congr {f g : Nat → Value} {n : Nat} (h : ∀ j, j < n → f j = g j) : rv f n = rv g n := by
 unfold rv
 exact List.map_congr_left fun j hj => h j (List.mem_range.1 hj)
theorem rv_ext {xs : List Value} {n : Nat} {f : Nat → Value} (hl : xs.length = n) (h : ∀ j, j < n → xs[j]? = some (f j)) : xs = rv f n := by
 apply List.ext_getElem?
 intro i
 by_cases hi : i < n
 ·rw [h i hi, rv_get hi]
 ·rw [List.getElem?_eq_none (by omega), List.getElem?_eq_none (by simp [rv]; omega)]
theorem rv_add (f : Nat → Value) (n m : Nat) : rv f (n + m) = rv f n ++ rv (fun j => f (n + j)) m := by
 unfold rv
 rw [List.range_add, List.map_append, List.map_map]
 rfl
section
variable {S : Nat → Prop} {w w' : World} {base base' size size' n n' : Nat} {e e' : TypeId} {v v' : Value} {xs xs' : List Value} {f : Nat → Value}
theorem own_apart (h : w.ownsRow base e size v n xs) (h' : w.ownsRow base' e' size' v' n' xs') (he : e ≠ e') : ∀ x, v.ownBlock = some x → v'.ownBlock ≠ some x := by
 intro x hx hx'
 rcases h.2 with ⟨rfl, _⟩ | ⟨g, cap, cur, rfl, _, hh, _⟩
 ·simp [Value.ownBlock] at hx
 ·rcases h'.2 with ⟨rfl, _⟩ | ⟨g', cap', cur', rfl, _, hh', _⟩
  ·simp [Value.ownBlock] at hx'
  ·simp [Value.ownBlock] at hx hx'
   subst hx
   subst hx'
   rw [hh] at hh'
   simp only [Option.some.injEq, Obj.cells.injEq] at hh'
   exact he hh'.2.1
theorem own_box (h : w.ownsRow base e size v n xs) {b : Nat} {c : Array Value} {t : TypeId} {z : Nat × Nat} (hb : w.heap[b]? = some (.cells c t z)) (he : e ≠ t) : v.ownBlock ≠ some b := by
 intro hx
 rcases h.2 with ⟨rfl, _⟩ | ⟨g, cap, cur, rfl, _, hh, _⟩
 ·simp [Value.ownBlock] at hx
 ·simp [Value.ownBlock] at hx
  subst hx
  rw [hh] at hb
  simp only [Option.some.injEq, Obj.cells.injEq] at hb
  exact he hb.2.1
theorem own_cases (h : w.ownsRow base e size v n xs) : (v = .slice none 0 0 ∧ n = 0) ∨ ∃ g cap, v = .slice (some ⟨g, 0, none⟩) n cap ∧ base ≤ g ∧ g < w.heap.size ∧ n ≤ cap := by
 rcases h.2 with ⟨rfl, hn⟩ | ⟨g, cap, cur, rfl, hg, hh, hc, _⟩
 ·exact .inl ⟨rfl, hn⟩
 ·exact .inr ⟨g, cap, rfl, hg, (Array.getElem?_eq_some_iff.1 hh).1, hc⟩
theorem own_slice (h : w.ownsRow base e size v n xs) : ∃ a cap, v = .slice a n cap ∧ n ≤ cap := by
 rcases own_cases h with ⟨rfl, rfl⟩ | ⟨g, cap, rfl, _, _, hc⟩
 ·exact ⟨_, _, rfl, Nat.le_refl _⟩
 ·exact ⟨_, _, rfl, hc⟩
theorem own_at {g cap : Nat} (h : w.ownsRow base e size (.slice (some ⟨g, 0, none⟩) n cap) n (rv f (n * size))) {j : Nat} (hj : j < n * size) : w.cell? ⟨g, j, none⟩ = some (f j) := (h.cellAt j hj).trans (rv_get hj)
theorem own_put {g cap : Nat} (h : w.ownsRow base e size (.slice (some ⟨g, 0, none⟩) n cap) n (rv f (n * size))) (j : Nat) (x : Value) : (w.setCell ⟨g, j, none⟩ x).ownsRow base e size (.slice (some ⟨g, 0, none⟩) n cap) n (rv (fun i => if i = j then x else f i) (n * size)) := by
 have := (h.stored j x).1
 rwa [rv_set] at this
def Src (w : World) (v : Value) (n k : Nat) (f : Nat → Value) : Prop := (v = .slice none 0 0 ∧ n = 0) ∨ ∃ b off cap, v = .slice (some ⟨b, off, none⟩) n cap ∧ (0 < n → b < w.heap.size) ∧ ∀ j, j < k → w.cell? ⟨b, off + j, none⟩ = some (f j)
theorem own_src (h : w.ownsRow base e size v n (rv f (n * size))) : Src w v n (n * size) f := by
 rcases own_cases h with ⟨rfl, rfl⟩ | ⟨g, cap, rfl, _, hl, _⟩
 ·exact .inl ⟨rfl, rfl⟩
 ·exact .inr ⟨g, 0, cap, rfl, fun _ => hl, fun j hj => by rw [Nat.zero_add]; exact own_at h hj⟩
theorem Src.below {k : Nat} (h : Src w v n k f) (hb : Below w.heap.size w w') : Src w' v n k f := by
 rcases h with h | ⟨b, off, cap, rfl, hl, hc⟩
 ·exact .inl h
 ·exact .inr ⟨b, off, cap, rfl, fun q => Nat.lt_of_lt_of_le (hl q) hb.size, fun j hj => (World.cell?_of_block (a := ⟨b, off + j, none⟩) (hb.block b (lt_cell (hc j hj)))).trans (hc j hj)⟩
end
end Go.Proofs.YtgcdcfjaeehnbaaGreat
namespace Go.Proofs.YtgcdcfjaeehnbaaGreat
open Go.RowKit
def wpM (P : Program) (Q : Exit → Act → World → Prop) (R : World → Act → World → Prop) (S : Nat → Prop) : World → List Stp → Act → World → Prop
 | w0, [], a, w => R w0 a w
 | w0, s :: r, a, w =>
  (wantG s.g a.tmps = false ∧ wpM P Q R S w0 r (a.put s.d undef) w) ∨
  (wantG s.g a.tmps = true ∧ s.c ≠ 1 ∧ ∃ v, (∀ w', Mw S w0 w' → (execOp a.eval s.op).run P w' = .ok (.value v) w') ∧ wpM P Q R S w0 r (a.put s.d v) w) ∨
  (wantG s.g a.tmps = true ∧ s.c = 1 ∧ ∀ K : Act → World → Prop, Shut (∀ a' w', Mw S w0 w' → (wpM P Q R S w0 r a' w' ∨ wpM P Q R S w' r a' w') → K a' w') → Oper.wp P s.op a w K Q)
section
variable {P : Program} {ops : Array Oper} {Q : Exit → Act → World → Prop} {md : Region.Mode} {n : Nat} {S : Nat → Prop} {R : World → Act → World → Prop}
def endS (m : Nat) (sch : List (Nat × Nat)) : Nat := sch.foldl (fun m ic => m ||| (1 <<< ic.1)) m
def schedE (md : Region.Mode) (ops : Array Oper) (n : Nat) : Nat → List (Nat × Nat) → Bool
 | _, [] => true
 | m, (i, c) :: r => (if c == 1 then Region.ready md ops (bits n m) == [i] else readyM md ops n m i) && readyM md ops n m i && schedE md ops n (m ||| (1 <<< i)) r
theorem wpM_sound (hF : FreeN md ops n) (hQ : ∀ (d : Option Nat) (v : Value) c a w, Q (.panic c) (a.put d v) w → Q (.panic c) a w) :
  ∀ (sch : List (Nat × Nat)) (L : List Stp) (m : Nat) (w0 : World) (a : Act) (w : World) (fu : Nat), (∀ w0 a w, Mw S w0 w → R w0 a w → wpAnyH P md ops Q (fun w' => Mw S w0 w') fu (bits n (endS m sch)) a w) → stpsOf ops sch = some L → schedE md ops n m sch = true → Mw S w0 w → wpM P Q R S w0 L a w →
  wpAnyH P md ops Q (fun w' => Mw S w0 w') (fu + sch.length) (bits n m) a w := by
 intro sch
 induction sch with
 | nil =>
  intro L m w0 a w fu hE hL hB hb h
  unfold stpsOf at hL
  obtain rfl := Option.some.inj hL
  unfold wpM at h
  exact hE w0 a w hb h
 | cons ic sch ih =>
  intro L m w0 a w fu hE hL hB hb h
  obtain ⟨i, c⟩ := ic
  unfold stpsOf at hL
  cases e1 : stpOf ops i c with
  | none => rw [e1] at hL; cases hL
  | some s =>
   rw [e1] at hL
   dsimp only at hL
   cases e2 : stpsOf ops sch with
   | none => rw [e2] at hL; cases hL
   | some l =>
    rw [e2] at hL
    obtain rfl := Option.some.inj hL
    unfold schedE at hB
    rw [Bool.and_eq_true, Bool.and_eq_true] at hB
    obtain ⟨⟨hB1, hB2⟩, hB3⟩ := hB
    obtain ⟨o, ho, hd, hc, hw, he⟩ := stpOf_spec e1
    rw [List.length_cons, ← Nat.add_assoc]
    unfold wpM at h
    rcases h with ⟨h1, h2⟩ | ⟨h1, h2, v, h3, h4⟩ | ⟨h1, h2, h3⟩
    ·rw [← hd] at h2
     exact mstep hF ho _ (Or.inr ⟨by rw [hw]; exact h1, rfl⟩) (ih l _ w0 _ w fu hE e2 hB3 hb h2) hB2 rfl (fun c a w => hQ _ _ c a w) hb
    ·rw [← hd] at h4
     exact mstep hF ho _ (Or.inl ⟨by rw [hw]; exact h1, fun w' hw' => by rw [he]; exact h3 w' hw'⟩) (ih l _ w0 _ w fu hE e2 hB3 hb h4) hB2 rfl (fun c a w => hQ _ _ c a w) hb
    ·rw [hc] at h2
     subst h2
     have hr : Region.ready md ops (bits n m) = [i] := by simpa using hB1
     refine wpAnyH_ready hr (by simp) (AllReadyH.cons ho (fun K hK => ?_) AllReadyH.nil)
     rw [if_pos (by rw [hw]; exact h1)]
     rw [bits_set (lt_of_m hB2)] at hK
     have h4 := h3 K (fun a' w' hb' hor => hK.out a' w' hb' (fun _ => by
      rcases hor with q | q
      ·exact ih l _ w0 a' w' fu hE e2 hB3 hb' q
      ·exact wpAnyH_mono' (fun x hx => hb'.trans hx) _ _ _ _ (ih l _ w' a' w' fu hE e2 hB3 (Mw.refl _ _) q)))
     unfold Oper.wp at h4 ⊢
     rw [he]
     have e5 : ∀ r, o.upon P a K Q r = s.op.upon P a K Q r := fun r => by
      unfold Oper.upon
      simp only [hd, Stp.op]
     rw [e5]
     exact h4
theorem fork2 (hF : FreeN md ops n) (hQ : ∀ (d : Option Nat) (v : Value) c a w, Q (.panic c) (a.put d v) w → Q (.panic c) a w) {i j m : Nat} {si sj : Stp} {r1 r2 : List (Nat × Nat)} {L1 L2 : List Stp} {w0 : World} {a : Act} {w : World}
  (hr : Region.ready md ops (bits n m) = [i, j]) (hi : i < n) (hj : j < n) (hsi : stpOf ops i 1 = some si) (hsj : stpOf ops j 1 = some sj) (hL1 : stpsOf ops r1 = some L1) (hL2 : stpsOf ops r2 = some L2)
  (hB1 : schedB md ops n (m ||| (1 <<< i)) r1 = true) (hB2 : schedB md ops n (m ||| (1 <<< j)) r2 = true) (hg1 : si.g = none) (hg2 : sj.g = none) (hln : r2.length = r1.length) (_hb : Mw S w0 w)
  (h1 : wpM P Q (fun _ => Q .normal) S w0 (si :: L1) a w) (h2 : wpM P Q (fun _ => Q .normal) S w0 (sj :: L2) a w) : wpAnyH P md ops Q (fun w' => Mw S w0 w') (r1.length + 1) (bits n m) a w := by
 have key : ∀ (k : Nat) (s : Stp) (r : List (Nat × Nat)) (L : List Stp), k < n → stpOf ops k 1 = some s → stpsOf ops r = some L → schedB md ops n (m ||| (1 <<< k)) r = true → s.g = none → wpM P Q (fun _ => Q .normal) S w0 (s :: L) a w →
   ∃ o, ops[k]? = some o ∧ ∀ K : Act → World → Prop, Shut (∀ a' w', Mw S w0 w' → ((Mw S w0 w') → wpAnyH P md ops Q (fun w' => Mw S w0 w') r.length ((bits n m).setIfInBounds k true) a' w') → K a' w') → (if Region.wanted o (yielded ops a.tmps) = true then Oper.wp P o a w K Q else K (a.put o.dst undef) w) := by
  intro k s r L hk hs hL hB hg h
  obtain ⟨o, ho, hd, hc, hw, he⟩ := stpOf_spec hs
  have hwt : wantG s.g a.tmps = true := by rw [hg]; rfl
  refine ⟨o, ho, fun K hK => ?_⟩
  rw [if_pos (by rw [hw]; exact hwt)]
  rw [bits_set hk] at hK
  unfold wpM at h
  rcases h with ⟨q1, q2⟩ | ⟨q1, q2, q3⟩ | ⟨q1, q2, q3⟩
  ·rw [hwt] at q1; cases q1
  ·exact absurd hc q2
  ·have h4 := q3 K (fun a' w' hb' hor => hK.out a' w' hb' (fun _ => by
    have fin : ∀ (sch : List (Nat × Nat)) (m : Nat), schedB md ops n m sch = true → schedE md ops n m sch = true ∧ (Region.ready md ops (bits n (endS m sch))).isEmpty = true := by
     intro sch
     induction sch with
     | nil => intro m hB; exact ⟨rfl, hB⟩
     | cons ic sch ih =>
      intro m hB
      obtain ⟨i, c⟩ := ic
      unfold schedB at hB
      rw [Bool.and_eq_true] at hB
      have := ih _ hB.2
      unfold schedE
      rw [Bool.and_eq_true]
      exact ⟨⟨hB.1, this.1⟩, this.2⟩
    have ff := fin _ _ hB
    have tail : ∀ (w0 : World) (a : Act) (w : World), Mw S w0 w → Q .normal a w → wpAnyH P md ops Q (fun w' => Mw S w0 w') 0 (bits n (endS (m ||| (1 <<< k)) r)) a w := fun w0 a w _ q => ⟨List.isEmpty_iff.1 ff.2, q⟩
    have e0 : 0 + r.length = r.length := Nat.zero_add _
    rcases hor with q | q
    ·rw [← e0]; exact wpM_sound (R := fun _ => Q .normal) hF hQ r L _ w0 a' w' 0 tail hL ff.1 hb' q
    ·rw [← e0]; exact wpAnyH_mono' (fun x hx => hb'.trans hx) _ _ _ _ (wpM_sound (R := fun _ => Q .normal) hF hQ r L _ w' a' w' 0 tail hL ff.1 (Mw.refl _ _) q)))
   unfold Oper.wp at h4 ⊢
   rw [he]
   have e5 : ∀ r, o.upon P a K Q r = s.op.upon P a K Q r := fun r => by
    unfold Oper.upon
    simp only [hd, Stp.op]
   rw [e5]
   exact h4
 obtain ⟨o1, ho1, k1⟩ := key i si r1 L1 hi hsi hL1 hB1 hg1 h1
 obtain ⟨o2, ho2, k2⟩ := key j sj r2 L2 hj hsj hL2 hB2 hg2 h2
 rw [hln] at k2
 exact wpAnyH_ready hr (by simp) (AllReadyH.cons ho1 k1 (AllReadyH.cons ho2 k2 AllReadyH.nil))
theorem schedB_E {md : Region.Mode} {ops : Array Oper} {n : Nat} : ∀ (sch : List (Nat × Nat)) (m : Nat), schedB md ops n m sch = true → schedE md ops n m sch = true ∧ (Region.ready md ops (bits n (endS m sch))).isEmpty = true := by
 intro sch
 induction sch with
 | nil => intro m hB; exact ⟨rfl, hB⟩
 | cons ic sch ih =>
  intro m hB
  obtain ⟨i, c⟩ := ic
  unfold schedB at hB
  rw [Bool.and_eq_true] at hB
  have := ih _ hB.2
  unfold schedE
  rw [Bool.and_eq_true]
  exact ⟨⟨hB.1, this.1⟩, this.2⟩
theorem wp_region_w (S : Nat → Prop) {id : Nat} {a : Act} {w : World} (L : List Stp) (sch : List (Nat × Nat)) (h : Mw S w w.drew → wpM P Q (fun _ => Q .normal) S w L a w.drew)
  (hs : ops.size = sch.length ∧ freeAll .any ops = true ∧ stpsOf ops sch = some L ∧ schedB .any ops sch.length 0 sch = true := by (refine ⟨?_, ?_, ?_, ?_⟩ <;> kernel_rfl)) (hm : P.follows .mixedOrders = true := by kernel_rfl)
  (hQ : ∀ (d : Option Nat) (v : Value) c a w, Q (.panic c) (a.put d v) w → Q (.panic c) a w := by (intro d v c a w h; cases d <;> exact h)) : (Code.region id ops true).wp P Q a w :=
 wp_region_held_drew (S := fun w' => Mw S w w') hm (Mw.refl _ _).drew (fun hh => by
  rw [hs.1, bits_zero]
  have ff := schedB_E sch 0 hs.2.2.2
  have e0 : 0 + sch.length = sch.length := Nat.zero_add _
  have := wpM_sound (n := sch.length) (R := fun _ => Q .normal) ⟨⟨hs.2.1⟩, hs.1⟩ hQ sch L 0 w a w.drew 0 (fun _ _ _ _ q => ⟨List.isEmpty_iff.1 ff.2, q⟩) hs.2.2.1 ff.1 hh (h hh)
  rwa [e0] at this)
theorem wp_region_wf (S : Nat → Prop) {id : Nat} {a : Act} {w : World} (L : List Stp) (sch : List (Nat × Nat)) {i j : Nat} {si sj : Stp} {r1 r2 : List (Nat × Nat)} {L1 L2 : List Stp} (h : Mw S w w.drew → wpM P Q (fun w0 a w => wpM P Q (fun _ => Q .normal) S w0 (si :: L1) a w ∧ wpM P Q (fun _ => Q .normal) S w0 (sj :: L2) a w) S w L a w.drew)
  (hs : ops.size = (r1.length + 1) + sch.length ∧ freeAll .any ops = true ∧ stpsOf ops sch = some L ∧ schedE .any ops ops.size 0 sch = true ∧ Region.ready .any ops (bits ops.size (endS 0 sch)) = [i, j] ∧ Nat.blt i ops.size = true ∧ Nat.blt j ops.size = true ∧ stpOf ops i 1 = some si ∧ stpOf ops j 1 = some sj ∧ stpsOf ops r1 = some L1 ∧ stpsOf ops r2 = some L2 ∧ schedB .any ops ops.size (endS 0 sch ||| (1 <<< i)) r1 = true ∧ schedB .any ops ops.size (endS 0 sch ||| (1 <<< j)) r2 = true ∧ si.g = none ∧ sj.g = none ∧ r2.length = r1.length := by (refine ⟨?_, ?_, ?_, ?_, ?_, ?_, ?_, ?_, ?_, ?_, ?_, ?_, ?_, ?_, ?_, ?_⟩ <;> kernel_rfl)) (hm : P.follows .mixedOrders = true := by kernel_rfl)
  (hQ : ∀ (d : Option Nat) (v : Value) c a w, Q (.panic c) (a.put d v) w → Q (.panic c) a w := by (intro d v c a w h; cases d <;> exact h)) : (Code.region id ops true).wp P Q a w :=
 wp_region_held_drew (S := fun w' => Mw S w w') hm (Mw.refl _ _).drew (fun hh => by
  obtain ⟨z0, z1, z2, z3, z4, z5, z6, z7, z8, z9, z10, z11, z12, z13, z14, z15⟩ := hs
  rw [bits_zero]
  have hF : FreeN .any ops ops.size := ⟨⟨z1⟩, rfl⟩
  have := wpM_sound (n := ops.size) hF hQ sch L 0 w a w.drew (r1.length + 1) (fun w0 a w hb q => fork2 hF hQ z4 (by simpa [Nat.blt_eq] using z5) (by simpa [Nat.blt_eq] using z6) z7 z8 z9 z10 z11 z12 z13 z14 z15 hb q.1 q.2) z2 z3 hh (h hh)
  rw [← z0] at this
  exact this)
theorem wpM_list : ∀ (k : Nat) (sch : List (Nat × Nat)) (L : List Stp) (w0 : World) (a : Act) (w : World), sch.map (·.1) = List.range' k sch.length → k + sch.length = ops.size → stpsOf ops sch = some L → Mw S w0 w → wpM P Q (fun _ => Q .normal) S w0 L a w → wpFrom P ops Q k a w := by
 intro k sch
 induction sch generalizing k with
 | nil =>
  intro L w0 a w hk hn hL hb h
  unfold stpsOf at hL
  obtain rfl := Option.some.inj hL
  unfold wpM at h
  exact lsE h (by rw [List.drop_eq_nil_iff]; simp at hn ⊢; omega)
 | cons ic sch ih =>
  intro L w0 a w hk hn hL hb h
  obtain ⟨i, c⟩ := ic
  unfold stpsOf at hL
  cases e1 : stpOf ops i c with
  | none => rw [e1] at hL; cases hL
  | some s =>
   rw [e1] at hL
   dsimp only at hL
   cases e2 : stpsOf ops sch with
   | none => rw [e2] at hL; cases hL
   | some l =>
    rw [e2] at hL
    obtain rfl := Option.some.inj hL
    rw [List.map_cons, List.length_cons, List.range'_succ, List.cons.injEq] at hk
    obtain ⟨rfl, hk⟩ := hk
    rw [List.length_cons] at hn
    obtain ⟨o, ho, hd, hc, hw, he⟩ := stpOf_spec e1
    unfold wpM at h
    rcases h with ⟨h1, h2⟩ | ⟨h1, h2, v, h3, h4⟩ | ⟨h1, h2, h3⟩
    ·rw [← hd] at h2
     have h6 := ih _ l w0 _ w hk (by omega) e2 hb h2
     unfold wpFrom
     rw [drop_at ho]
     refine wpList_step fun K hK => ?_
     rw [if_neg (by rw [hw, h1]; exact Bool.false_ne_true)]
     exact hK _ _ h6
    ·rw [← hd] at h4
     have h6 := ih _ l w0 _ w hk (by omega) e2 hb h4
     have h7 := h3 w hb
     unfold wpFrom
     rw [drop_at ho]
     refine wpList_step fun K hK => ?_
     rw [if_pos (by rw [hw]; exact h1), Oper.wp, he, h7]
     exact hK _ _ h6
    ·unfold wpFrom
     rw [drop_at ho]
     refine wpList_step fun K hK => ?_
     rw [if_pos (by rw [hw]; exact h1)]
     have h4 := h3 K (fun a' w' hb' hor => hK _ _ (by
      rcases hor with q | q
      ·exact ih _ l w0 a' w' hk (by omega) e2 hb' q
      ·exact ih _ l w' a' w' hk (by omega) e2 (Mw.refl _ _) q))
     unfold Oper.wp at h4 ⊢
     rw [he]
     have e5 : ∀ r, o.upon P a K Q r = s.op.upon P a K Q r := fun r => by
      unfold Oper.upon
      simp only [hd, Stp.op]
     rw [e5]
     exact h4
theorem wp_region_w0 (S : Nat → Prop) {id : Nat} {a : Act} {w : World} (L : List Stp) (sch : List (Nat × Nat)) (h : Mw S w w → wpM P Q (fun _ => Q .normal) S w L a w)
  (hs : sch.map (·.1) = List.range' 0 sch.length ∧ 0 + sch.length = ops.size ∧ stpsOf ops sch = some L := by (refine ⟨?_, ?_, ?_⟩ <;> kernel_rfl)) : (Code.region id ops false).wp P Q a w :=
 wp_region_p ops (wpM_list 0 sch L w a w hs.1 hs.2.1 hs.2.2 (Mw.refl _ _) (h (Mw.refl _ _)))
end
section
variable {P : Program} {Q : Exit → Act → World → Prop} {R : World → Act → World → Prop} {S : Nat → Prop} {w0 w : World} {d : Option Nat} {o : Op} {t : TypeId} {g : Option (Nat × Bool)} {c : Nat} {r : List Stp} {a a' : Act} {v : Value}
theorem mN (h : wpM P Q R S w0 r a' w) (hw : wantG g a.tmps = false := by kernel_rfl) (ha : a.put d undef = a' := by (simp only [putQ]; try rfl)) : wpM P Q R S w0 (⟨d, o, t, g, c⟩ :: r) a w := by
 subst ha
 unfold wpM
 exact .inl ⟨hw, h⟩
theorem mY (h : wpM P Q R S w0 r a' w) (hw : wantG g a.tmps = true := by kernel_rfl)
  (hy : ∀ w, (execOp a.eval { dst := d, op := o, type := t, pos := "", after := #[], guard := none }).run P w = .ok (.value v) w := by (intro w; go_simp; try with_reducible rfl))
  (ha : a.put d v = a' := by (simp only [putQ]; try rfl)) : wpM P Q R S w0 (⟨d, o, t, g, 0⟩ :: r) a w := by
 subst ha
 unfold wpM
 exact .inr (.inl ⟨hw, Nat.zero_ne_one, v, fun w' _ => hy w', h⟩)
theorem mV (v : Value) (h : wpM P Q R S w0 r a' w)
  (hy : ∀ w, (execOp a.eval { dst := d, op := o, type := t, pos := "", after := #[], guard := none }).run P w = .ok (.value v) w := by (intro w; go_simp; all_goals (first | with_reducible rfl | assumption | (simp; done) | (simp; omega))))
  (hw : wantG g a.tmps = true := by kernel_rfl) (ha : a.put d v = a' := by (simp only [putQ]; try rfl)) (hc : c ≠ 1 := by decide) : wpM P Q R S w0 (⟨d, o, t, g, c⟩ :: r) a w := by
 subst ha
 unfold wpM
 exact .inr (.inl ⟨hw, hc, v, fun w' _ => hy w', h⟩)
theorem mL {x : Operand} {t' : TypeId} {ad : Addr} (h : wpM P Q R S w0 r a' w) (hw : wantG g a.tmps = true := by kernel_rfl)
  (hx : a.eval x = .pointer (some ad) := by rfl) (hc : w0.cell? ad = some v := by assumption) (hS : ¬ S ad.block := by first | assumption | (simp only; omega)) (hu : ∀ w, (isAgg t').run P w = .ok false w := by (intro w; kernel_rfl))
  (ha : a.put d v = a' := by (simp only [putQ]; try rfl)) : wpM P Q R S w0 (⟨d, .load t' x, t, g, 0⟩ :: r) a w := by
 subst ha
 unfold wpM
 refine .inr (.inl ⟨hw, Nat.zero_ne_one, v, fun w' hb => ?_, h⟩)
 have hc' := hb.cell hc hS
 simp only [Stp.op, execOp, Instr.loadAt, hx, Instr.sureAddr, loadVar, Sem.run_bind, Sem.run_pure, Result.andThen, hu, Bool.false_eq_true, if_false, run_load, hc']
theorem mR {x : Operand} {t' : TypeId} {b o' : Nat} {xs : List Value} (h : wpM P Q R S w0 r a' w) (hw : wantG g a.tmps = true := by kernel_rfl)
  (hx : a.eval x = .pointer (some ⟨b, o', none⟩) := by rfl) (hr : w0.rangeAt b o' xs := by assumption) (hS : ¬ S b := by first | assumption | (simp only; omega)) (hu : rowT P t' xs.length = true := by kernel_rfl)
  (ha : a.put d (.agg xs.toArray) = a' := by (simp only [putQ]; try rfl)) : wpM P Q R S w0 (⟨d, .load t' x, t, g, 0⟩ :: r) a w := by
 subst ha
 unfold wpM
 refine .inr (.inl ⟨hw, Nat.zero_ne_one, _, fun w' hb => ?_, h⟩)
 unfold rowT at hu
 rw [Bool.and_eq_true, beq_iff_eq] at hu
 cases e : P.underlying t' with
 | none => rw [e] at hu; exact absurd hu.1 Bool.false_ne_true
 | some dd =>
  rw [e] at hu
  simp only [Stp.op, execOp, hx, Sem.run_bind, run_loadAt_mid w' b o' t' xs dd (hb.range hr hS) e hu.1 hu.2, Result.andThen_ok, Sem.run_pure]
theorem mC (h : ∀ K : Act → World → Prop, Shut (∀ a' w', Mw S w0 w' → (wpM P Q R S w0 r a' w' ∨ wpM P Q R S w' r a' w') → K a' w') → Oper.wp P { dst := d, op := o, type := t, pos := "", after := #[], guard := none } a w K Q)
  (hw : wantG g a.tmps = true := by kernel_rfl) : wpM P Q R S w0 (⟨d, o, t, g, 1⟩ :: r) a w := by
 unfold wpM
 exact .inr (.inr ⟨hw, rfl, h⟩)
theorem mE (h : R w0 a w) : wpM P Q R S w0 [] a w := by
 unfold wpM
 exact h
end
end Go.Proofs.YtgcdcfjaeehnbaaGreat
namespace Go.Proofs.YtgcdcfjaeehnbaaGreat
open Go.ChangeShapes Go.WideShapes Go.ChangeAt Go.RowKit
attribute [local go_sem ↓] Go.wp_at_zero Go.wp_at_succ
def mkI (k0 i : Nat) : Value := .int .i64 ((k0 : Int) + (i : Int))
theorem mkI_0 (k0 k : Nat) : mkI k0 (k) = .int .i64 ((k0 : Int) + (k : Int)) := by
 rfl
set_option maxRecDepth 20000 in
set_option maxHeartbeats 4000000 in
theorem markI_at (base g n cap : Nat) (f : Nat → Value) (k0 : Nat) (w : World) (h : w.ownsRow base 3 1 (.slice (some ⟨g, 0, none⟩) n cap) n (rv f (n * 1))) (hl : n ≤ 1048576) (hk0 : k0 ≤ 1000000000000000) :
  Calls Tryz.prog 21 #[.slice (some ⟨g, 0, none⟩) n cap, .int .i64 (k0 : Int)] w fun e w' => e = .returned (.int .i64 ((k0 + n : Nat) : Int)) ∧ w'.ownsRow base 3 1 (.slice (some ⟨g, 0, none⟩) n cap) n (rv (mkI k0) (n * 1)) ∧ w.grownBy w' (some g) := by
 go_enter Tryz.func21, Tryz.ntmps21
 go_wp2
 go_loopw [1, 5] (fun x i wr => ∃ k : Nat, k ≤ n ∧ i = .int .i64 k ∧ x = .int .i64 ((k0 + k : Nat) : Int) ∧ w.grownBy wr (some g) ∧ wr.ownsRow base 3 1 (.slice (some ⟨g, 0, none⟩) n cap) n (rv (fun i => if i < k then mkI k0 i else f i) (n * 1))) (fun _ i _ => n - (intOf i).toNat)
 case atStart => exact ⟨0, Nat.zero_le _, rfl, by simp, World.grownBy.refl _ _, by simpa using h⟩
 case round =>
  obtain ⟨k, hk, rfl, rfl, hg, hr⟩ := hrel
  by_cases hlt : k < n
  ·have i0 : (0 : Int) ≤ (k : Int) := by omega
   have i1 : (k : Int) < (n : Int) := by omega
   have c0 := own_at hr (j := k) (by omega)
   (try dsimp only at c0)
   rw [if_neg (by omega)] at c0
   have f0 := hr.frozenAt (k)
   have a0 := own_put hr (k) (.int .i64 ((k0 : Int) + (k : Int)))
   have gg := grown_trans (hg) (grown_set _ _ (k) (.int .i64 ((k0 : Int) + (k : Int))))
   rw [rv_congr (g := fun i => if i < (k + 1) then mkI k0 i else f i) (fun i _ => ?cg)] at a0
   case cg =>
    (try dsimp only)
    have hq : i < k ∨ i = k ∨ k + 1 ≤ i := by omega
    rcases hq with q | q | q
    ·rw [if_neg (by omega), if_pos q, if_pos (by omega)]
    ·subst q
     rw [if_pos rfl, if_pos (by omega), mkI_0]
    ·rw [if_neg (by omega), if_neg (by omega), if_neg (by omega)]
   clear hr hg
   go_wp2
   go_roundw
   case rel => exact ⟨k + 1, by omega, by go_num, by go_num, gg, a0⟩
   case measure => simp [intOf]; omega
  ·go_wp2
   go_ret
   have e : k = n := by omega
   subst e
   refine ⟨rfl, ?_, hg⟩
   rw [rv_congr (g := mkI k0) (fun i hi => if_pos (by omega))] at hr
   exact hr
theorem markI_nil (k0 : Nat) (w : World) :
  Calls Tryz.prog 21 #[.slice none 0 0, .int .i64 (k0 : Int)] w fun e w' => e = .returned (.int .i64 (k0 : Int)) ∧ w' = w := by
 go_enter Tryz.func21, Tryz.ntmps21
 go_wp2
 refine wp_loop_rounds 1 ?_
 rw [rounds_succ]
 go_wp2
 go_ret
 exact ⟨rfl, rfl⟩
theorem markI_own (base n : Nat) (v : Value) (f : Nat → Value) (k0 : Nat) (w : World) (h : w.ownsRow base 3 1 v n (rv f (n * 1))) (hl : n ≤ 1048576) (hk0 : k0 ≤ 1000000000000000) :
  Calls Tryz.prog 21 #[v, .int .i64 (k0 : Int)] w fun e w' => e = .returned (.int .i64 ((k0 + n : Nat) : Int)) ∧ w'.ownsRow base 3 1 v n (rv (mkI k0) (n * 1)) ∧ w.grownBy w' v.ownBlock := by
 rcases own_cases h with ⟨rfl, rfl⟩ | ⟨g, c, rfl, _⟩
 ·exact (markI_nil k0 w).mono (by rintro r w' ⟨rfl, rfl⟩; exact ⟨by simp, World.ownsRow_nil w' base 3 1, World.grownBy.refl _ _⟩)
 ·exact markI_at base g n c f k0 w h hl hk0
set_option maxRecDepth 20000 in
set_option maxHeartbeats 4000000 in
theorem heldI_own (base n : Nat) (v : Value) (k0 : Nat) (w : World) (h : w.ownsRow base 3 1 v n (rv (mkI k0) (n * 1))) (hl : n ≤ 1048576) (hk0 : k0 ≤ 1000000000000000) :
  Calls Tryz.prog 22 #[v, .int .i64 (k0 : Int)] w fun e w' => e = .returned (.int .i64 ((k0 + n : Nat) : Int)) ∧ w' = w := by
 obtain ⟨a, cap, rfl, _⟩ := own_slice h
 go_enter Tryz.func22, Tryz.ntmps22
 go_wp2
 go_loopw [1, 5] (fun x i wr => ∃ k : Nat, k ≤ n ∧ i = .int .i64 k ∧ x = .int .i64 ((k0 + k : Nat) : Int) ∧ wr = w) (fun _ i _ => n - (intOf i).toNat)
 case atStart => exact ⟨0, Nat.zero_le _, rfl, by simp, rfl⟩
 case round =>
  obtain ⟨k, hk, rfl, rfl, rfl⟩ := hrel
  by_cases hlt : k < n
  ·have i0 : (0 : Int) ≤ (k : Int) := by omega
   have i1 : (k : Int) < (n : Int) := by omega
   rcases own_cases h with ⟨_, e⟩ | ⟨g, c, e, _⟩
   ·omega
   obtain ⟨rfl, rfl⟩ : a = some ⟨g, 0, none⟩ ∧ cap = c := by simpa using e
   have d0 := own_at h (j := k) (by omega)
   rw [mkI_0] at d0
   clear h e
   go_wp2
   go_roundw
   case rel => exact ⟨k + 1, by omega, by go_num, by go_num, by simp⟩
   case measure => simp [intOf]; omega
  ·go_wp2
   go_ret
   have e : k = n := by omega
   subst e
   exact ⟨rfl, rfl⟩
def mkF (k0 i : Nat) : Value := if i % 4 = 3 then .bool (((k0 : Int) + (i : Int)) % 3 == 0) else .int .i64 ((k0 : Int) + (i : Int))
theorem mkF_0 (k0 k : Nat) : mkF k0 (k * 4) = .int .i64 ((k0 : Int) + (k : Int) * 4) := by
 unfold mkF
 rw [if_neg (by omega), show (k0 : Int) + ((k * 4 : Nat) : Int) = (k0 : Int) + (k : Int) * 4 by omega]
theorem mkF_1 (k0 k : Nat) : mkF k0 (k * 4 + 1) = .int .i64 ((k0 : Int) + (k : Int) * 4 + 1) := by
 unfold mkF
 rw [if_neg (by omega), show (k0 : Int) + ((k * 4 + 1 : Nat) : Int) = (k0 : Int) + (k : Int) * 4 + 1 by omega]
theorem mkF_2 (k0 k : Nat) : mkF k0 (k * 4 + 2) = .int .i64 ((k0 : Int) + (k : Int) * 4 + 1 + 1) := by
 unfold mkF
 rw [if_neg (by omega), show (k0 : Int) + ((k * 4 + 2 : Nat) : Int) = (k0 : Int) + (k : Int) * 4 + 1 + 1 by omega]
theorem mkF_3 (k0 k : Nat) : mkF k0 (k * 4 + 3) = .bool (((k0 : Int) + (k : Int) * 4 + 1 + 1 + 1) % 3 == 0) := by
 unfold mkF
 rw [if_pos (by omega), show (k0 : Int) + ((k * 4 + 3 : Nat) : Int) = (k0 : Int) + (k : Int) * 4 + 1 + 1 + 1 by omega]
set_option maxRecDepth 20000 in
set_option maxHeartbeats 4000000 in
theorem markF_at (base g n cap : Nat) (f : Nat → Value) (k0 : Nat) (w : World) (h : w.ownsRow base 96 4 (.slice (some ⟨g, 0, none⟩) n cap) n (rv f (n * 4))) (hl : n ≤ 1048576) (hk0 : k0 ≤ 1000000000000000) :
  Calls Tryz.prog 54 #[.slice (some ⟨g, 0, none⟩) n cap, .int .i64 (k0 : Int)] w fun e w' => e = .returned (.int .i64 ((k0 + n * 4 : Nat) : Int)) ∧ w'.ownsRow base 96 4 (.slice (some ⟨g, 0, none⟩) n cap) n (rv (mkF k0) (n * 4)) ∧ w.grownBy w' (some g) := by
 go_enter Tryz.func54, Tryz.ntmps54
 go_wp2
 go_loopw [1, 5] (fun x i wr => ∃ k : Nat, k ≤ n ∧ i = .int .i64 k ∧ x = .int .i64 ((k0 + k * 4 : Nat) : Int) ∧ w.grownBy wr (some g) ∧ wr.ownsRow base 96 4 (.slice (some ⟨g, 0, none⟩) n cap) n (rv (fun i => if i < k * 4 then mkF k0 i else f i) (n * 4))) (fun _ i _ => n - (intOf i).toNat)
 case atStart => exact ⟨0, Nat.zero_le _, rfl, by simp, World.grownBy.refl _ _, by simpa using h⟩
 case round =>
  obtain ⟨k, hk, rfl, rfl, hg, hr⟩ := hrel
  by_cases hlt : k < n
  ·have i0 : (0 : Int) ≤ (k : Int) := by omega
   have i1 : (k : Int) < (n : Int) := by omega
   have c0 := own_at hr (j := k * 4) (by omega)
   (try dsimp only at c0)
   rw [if_neg (by omega)] at c0
   have f0 := hr.frozenAt (k * 4)
   have c1 := own_at hr (j := k * 4 + 1) (by omega)
   (try dsimp only at c1)
   rw [if_neg (by omega)] at c1
   have f1 := hr.frozenAt (k * 4 + 1)
   have c2 := own_at hr (j := k * 4 + 2) (by omega)
   (try dsimp only at c2)
   rw [if_neg (by omega)] at c2
   have f2 := hr.frozenAt (k * 4 + 2)
   have c3 := own_at hr (j := k * 4 + 3) (by omega)
   (try dsimp only at c3)
   rw [if_neg (by omega)] at c3
   have f3 := hr.frozenAt (k * 4 + 3)
   have a0 := own_put hr (k * 4) (.int .i64 ((k0 : Int) + (k : Int) * 4))
   have a1 := own_put a0 (k * 4 + 1) (.int .i64 ((k0 : Int) + (k : Int) * 4 + 1))
   have a2 := own_put a1 (k * 4 + 2) (.int .i64 ((k0 : Int) + (k : Int) * 4 + 1 + 1))
   have a3 := own_put a2 (k * 4 + 3) (.bool (((k0 : Int) + (k : Int) * 4 + 1 + 1 + 1) % 3 == 0))
   have gg := grown_trans (grown_trans (grown_trans (grown_trans (hg) (grown_set _ _ (k * 4) (.int .i64 ((k0 : Int) + (k : Int) * 4)))) (grown_set _ _ (k * 4 + 1) (.int .i64 ((k0 : Int) + (k : Int) * 4 + 1)))) (grown_set _ _ (k * 4 + 2) (.int .i64 ((k0 : Int) + (k : Int) * 4 + 1 + 1)))) (grown_set _ _ (k * 4 + 3) (.bool (((k0 : Int) + (k : Int) * 4 + 1 + 1 + 1) % 3 == 0)))
   rw [rv_congr (g := fun i => if i < (k + 1) * 4 then mkF k0 i else f i) (fun i _ => ?cg)] at a3
   case cg =>
    (try dsimp only)
    have hq : i < k * 4 ∨ i = k * 4 ∨ i = k * 4 + 1 ∨ i = k * 4 + 2 ∨ i = k * 4 + 3 ∨ k * 4 + 4 ≤ i := by omega
    rcases hq with q | q | q | q | q | q
    ·rw [if_neg (by omega), if_neg (by omega), if_neg (by omega), if_neg (by omega), if_pos q, if_pos (by omega)]
    ·subst q
     rw [if_neg (by omega), if_neg (by omega), if_neg (by omega), if_pos rfl, if_pos (by omega), mkF_0]
    ·subst q
     rw [if_neg (by omega), if_neg (by omega), if_pos rfl, if_pos (by omega), mkF_1]
    ·subst q
     rw [if_neg (by omega), if_pos rfl, if_pos (by omega), mkF_2]
    ·subst q
     rw [if_pos rfl, if_pos (by omega), mkF_3]
    ·rw [if_neg (by omega), if_neg (by omega), if_neg (by omega), if_neg (by omega), if_neg (by omega), if_neg (by omega)]
   clear a0 a1 a2 hr hg
   go_wp2
   go_roundw
   case rel => exact ⟨k + 1, by omega, by go_num, by go_num, gg, a3⟩
   case measure => simp [intOf]; omega
  ·go_wp2
   go_ret
   have e : k = n := by omega
   subst e
   refine ⟨rfl, ?_, hg⟩
   rw [rv_congr (g := mkF k0) (fun i hi => if_pos (by omega))] at hr
   exact hr
theorem markF_nil (k0 : Nat) (w : World) :
  Calls Tryz.prog 54 #[.slice none 0 0, .int .i64 (k0 : Int)] w fun e w' => e = .returned (.int .i64 (k0 : Int)) ∧ w' = w := by
 go_enter Tryz.func54, Tryz.ntmps54
 go_wp2
 refine wp_loop_rounds 1 ?_
 rw [rounds_succ]
 go_wp2
 go_ret
 exact ⟨rfl, rfl⟩
theorem markF_own (base n : Nat) (v : Value) (f : Nat → Value) (k0 : Nat) (w : World) (h : w.ownsRow base 96 4 v n (rv f (n * 4))) (hl : n ≤ 1048576) (hk0 : k0 ≤ 1000000000000000) :
  Calls Tryz.prog 54 #[v, .int .i64 (k0 : Int)] w fun e w' => e = .returned (.int .i64 ((k0 + n * 4 : Nat) : Int)) ∧ w'.ownsRow base 96 4 v n (rv (mkF k0) (n * 4)) ∧ w.grownBy w' v.ownBlock := by
 rcases own_cases h with ⟨rfl, rfl⟩ | ⟨g, c, rfl, _⟩
 ·exact (markF_nil k0 w).mono (by rintro r w' ⟨rfl, rfl⟩; exact ⟨by simp, World.ownsRow_nil w' base 96 4, World.grownBy.refl _ _⟩)
 ·exact markF_at base g n c f k0 w h hl hk0
set_option maxRecDepth 20000 in
set_option maxHeartbeats 4000000 in
theorem heldF_own (base n : Nat) (v : Value) (k0 : Nat) (w : World) (h : w.ownsRow base 96 4 v n (rv (mkF k0) (n * 4))) (hl : n ≤ 1048576) (hk0 : k0 ≤ 1000000000000000) :
  Calls Tryz.prog 59 #[v, .int .i64 (k0 : Int)] w fun e w' => e = .returned (.int .i64 ((k0 + n * 4 : Nat) : Int)) ∧ w' = w := by
 obtain ⟨a, cap, rfl, _⟩ := own_slice h
 go_enter Tryz.func59, Tryz.ntmps59
 go_wp2
 go_loopw [1, 5] (fun x i wr => ∃ k : Nat, k ≤ n ∧ i = .int .i64 k ∧ x = .int .i64 ((k0 + k * 4 : Nat) : Int) ∧ wr = w) (fun _ i _ => n - (intOf i).toNat)
 case atStart => exact ⟨0, Nat.zero_le _, rfl, by simp, rfl⟩
 case round =>
  obtain ⟨k, hk, rfl, rfl, rfl⟩ := hrel
  by_cases hlt : k < n
  ·have i0 : (0 : Int) ≤ (k : Int) := by omega
   have i1 : (k : Int) < (n : Int) := by omega
   rcases own_cases h with ⟨_, e⟩ | ⟨g, c, e, _⟩
   ·omega
   obtain ⟨rfl, rfl⟩ : a = some ⟨g, 0, none⟩ ∧ cap = c := by simpa using e
   have d0 := own_at h (j := k * 4) (by omega)
   rw [mkF_0] at d0
   have d1 := own_at h (j := k * 4 + 1) (by omega)
   rw [mkF_1] at d1
   have d2 := own_at h (j := k * 4 + 2) (by omega)
   rw [mkF_2] at d2
   have d3 := own_at h (j := k * 4 + 3) (by omega)
   rw [mkF_3] at d3
   have e0 : (((((k0 : Int) + (k : Int) * 4 + 1 + 1 + 1) % 3 == 0) != (((k0 : Int) + (k : Int) * 4 + 1 + 1 + 1) % 3 == 0))) = false := by simp
   clear h e
   go_wp2
   go_roundw
   case rel => exact ⟨k + 1, by omega, by go_num, by go_num, by simp⟩
   case measure => simp [intOf]; omega
  ·go_wp2
   go_ret
   have e : k = n := by omega
   subst e
   exact ⟨rfl, rfl⟩
def mkT (k0 i : Nat) : Value := if i % 5 = 3 then .bool (((k0 : Int) + (i : Int)) % 3 == 0) else .int .i64 ((k0 : Int) + (i : Int))
theorem mkT_0 (k0 k : Nat) : mkT k0 (k * 5) = .int .i64 ((k0 : Int) + (k : Int) * 5) := by
 unfold mkT
 rw [if_neg (by omega), show (k0 : Int) + ((k * 5 : Nat) : Int) = (k0 : Int) + (k : Int) * 5 by omega]
theorem mkT_1 (k0 k : Nat) : mkT k0 (k * 5 + 1) = .int .i64 ((k0 : Int) + (k : Int) * 5 + 1) := by
 unfold mkT
 rw [if_neg (by omega), show (k0 : Int) + ((k * 5 + 1 : Nat) : Int) = (k0 : Int) + (k : Int) * 5 + 1 by omega]
theorem mkT_2 (k0 k : Nat) : mkT k0 (k * 5 + 2) = .int .i64 ((k0 : Int) + (k : Int) * 5 + 1 + 1) := by
 unfold mkT
 rw [if_neg (by omega), show (k0 : Int) + ((k * 5 + 2 : Nat) : Int) = (k0 : Int) + (k : Int) * 5 + 1 + 1 by omega]
theorem mkT_3 (k0 k : Nat) : mkT k0 (k * 5 + 3) = .bool (((k0 : Int) + (k : Int) * 5 + 1 + 1 + 1) % 3 == 0) := by
 unfold mkT
 rw [if_pos (by omega), show (k0 : Int) + ((k * 5 + 3 : Nat) : Int) = (k0 : Int) + (k : Int) * 5 + 1 + 1 + 1 by omega]
theorem mkT_4 (k0 k : Nat) : mkT k0 (k * 5 + 4) = .int .i64 ((k0 : Int) + (k : Int) * 5 + 1 + 1 + 1 + 1) := by
 unfold mkT
 rw [if_neg (by omega), show (k0 : Int) + ((k * 5 + 4 : Nat) : Int) = (k0 : Int) + (k : Int) * 5 + 1 + 1 + 1 + 1 by omega]
set_option maxRecDepth 20000 in
set_option maxHeartbeats 4000000 in
theorem markT_at (base g n cap : Nat) (f : Nat → Value) (k0 : Nat) (w : World) (h : w.ownsRow base 127 5 (.slice (some ⟨g, 0, none⟩) n cap) n (rv f (n * 5))) (hl : n ≤ 1048576) (hk0 : k0 ≤ 1000000000000000) :
  Calls Tryz.prog 55 #[.slice (some ⟨g, 0, none⟩) n cap, .int .i64 (k0 : Int)] w fun e w' => e = .returned (.int .i64 ((k0 + n * 5 : Nat) : Int)) ∧ w'.ownsRow base 127 5 (.slice (some ⟨g, 0, none⟩) n cap) n (rv (mkT k0) (n * 5)) ∧ w.grownBy w' (some g) := by
 go_enter Tryz.func55, Tryz.ntmps55
 go_wp2
 go_loopw [1, 5] (fun x i wr => ∃ k : Nat, k ≤ n ∧ i = .int .i64 k ∧ x = .int .i64 ((k0 + k * 5 : Nat) : Int) ∧ w.grownBy wr (some g) ∧ wr.ownsRow base 127 5 (.slice (some ⟨g, 0, none⟩) n cap) n (rv (fun i => if i < k * 5 then mkT k0 i else f i) (n * 5))) (fun _ i _ => n - (intOf i).toNat)
 case atStart => exact ⟨0, Nat.zero_le _, rfl, by simp, World.grownBy.refl _ _, by simpa using h⟩
 case round =>
  obtain ⟨k, hk, rfl, rfl, hg, hr⟩ := hrel
  by_cases hlt : k < n
  ·have i0 : (0 : Int) ≤ (k : Int) := by omega
   have i1 : (k : Int) < (n : Int) := by omega
   have c0 := own_at hr (j := k * 5) (by omega)
   (try dsimp only at c0)
   rw [if_neg (by omega)] at c0
   have f0 := hr.frozenAt (k * 5)
   have c1 := own_at hr (j := k * 5 + 1) (by omega)
   (try dsimp only at c1)
   rw [if_neg (by omega)] at c1
   have f1 := hr.frozenAt (k * 5 + 1)
   have c2 := own_at hr (j := k * 5 + 2) (by omega)
   (try dsimp only at c2)
   rw [if_neg (by omega)] at c2
   have f2 := hr.frozenAt (k * 5 + 2)
   have c3 := own_at hr (j := k * 5 + 3) (by omega)
   (try dsimp only at c3)
   rw [if_neg (by omega)] at c3
   have f3 := hr.frozenAt (k * 5 + 3)
   have c4 := own_at hr (j := k * 5 + 4) (by omega)
   (try dsimp only at c4)
   rw [if_neg (by omega)] at c4
   have f4 := hr.frozenAt (k * 5 + 4)
   have a0 := own_put hr (k * 5) (.int .i64 ((k0 : Int) + (k : Int) * 5))
   have a1 := own_put a0 (k * 5 + 1) (.int .i64 ((k0 : Int) + (k : Int) * 5 + 1))
   have a2 := own_put a1 (k * 5 + 2) (.int .i64 ((k0 : Int) + (k : Int) * 5 + 1 + 1))
   have a3 := own_put a2 (k * 5 + 3) (.bool (((k0 : Int) + (k : Int) * 5 + 1 + 1 + 1) % 3 == 0))
   have a4 := own_put a3 (k * 5 + 4) (.int .i64 ((k0 : Int) + (k : Int) * 5 + 1 + 1 + 1 + 1))
   have gg := grown_trans (grown_trans (grown_trans (grown_trans (grown_trans (hg) (grown_set _ _ (k * 5) (.int .i64 ((k0 : Int) + (k : Int) * 5)))) (grown_set _ _ (k * 5 + 1) (.int .i64 ((k0 : Int) + (k : Int) * 5 + 1)))) (grown_set _ _ (k * 5 + 2) (.int .i64 ((k0 : Int) + (k : Int) * 5 + 1 + 1)))) (grown_set _ _ (k * 5 + 3) (.bool (((k0 : Int) + (k : Int) * 5 + 1 + 1 + 1) % 3 == 0)))) (grown_set _ _ (k * 5 + 4) (.int .i64 ((k0 : Int) + (k : Int) * 5 + 1 + 1 + 1 + 1)))
   rw [rv_congr (g := fun i => if i < (k + 1) * 5 then mkT k0 i else f i) (fun i _ => ?cg)] at a4
   case cg =>
    (try dsimp only)
    have hq : i < k * 5 ∨ i = k * 5 ∨ i = k * 5 + 1 ∨ i = k * 5 + 2 ∨ i = k * 5 + 3 ∨ i = k * 5 + 4 ∨ k * 5 + 5 ≤ i := by omega
    rcases hq with q | q | q | q | q | q | q
    ·rw [if_neg (by omega), if_neg (by omega), if_neg (by omega), if_neg (by omega), if_neg (by omega), if_pos q, if_pos (by omega)]
    ·subst q
     rw [if_neg (by omega), if_neg (by omega), if_neg (by omega), if_neg (by omega), if_pos rfl, if_pos (by omega), mkT_0]
    ·subst q
     rw [if_neg (by omega), if_neg (by omega), if_neg (by omega), if_pos rfl, if_pos (by omega), mkT_1]
    ·subst q
     rw [if_neg (by omega), if_neg (by omega), if_pos rfl, if_pos (by omega), mkT_2]
    ·subst q
     rw [if_neg (by omega), if_pos rfl, if_pos (by omega), mkT_3]
    ·subst q
     rw [if_pos rfl, if_pos (by omega), mkT_4]
    ·rw [if_neg (by omega), if_neg (by omega), if_neg (by omega), if_neg (by omega), if_neg (by omega), if_neg (by omega), if_neg (by omega)]
   clear a0 a1 a2 a3 hr hg
   go_wp2
   go_roundw
   case rel => exact ⟨k + 1, by omega, by go_num, by go_num, gg, a4⟩
   case measure => simp [intOf]; omega
  ·go_wp2
   go_ret
   have e : k = n := by omega
   subst e
   refine ⟨rfl, ?_, hg⟩
   rw [rv_congr (g := mkT k0) (fun i hi => if_pos (by omega))] at hr
   exact hr
theorem markT_nil (k0 : Nat) (w : World) :
  Calls Tryz.prog 55 #[.slice none 0 0, .int .i64 (k0 : Int)] w fun e w' => e = .returned (.int .i64 (k0 : Int)) ∧ w' = w := by
 go_enter Tryz.func55, Tryz.ntmps55
 go_wp2
 refine wp_loop_rounds 1 ?_
 rw [rounds_succ]
 go_wp2
 go_ret
 exact ⟨rfl, rfl⟩
theorem markT_own (base n : Nat) (v : Value) (f : Nat → Value) (k0 : Nat) (w : World) (h : w.ownsRow base 127 5 v n (rv f (n * 5))) (hl : n ≤ 1048576) (hk0 : k0 ≤ 1000000000000000) :
  Calls Tryz.prog 55 #[v, .int .i64 (k0 : Int)] w fun e w' => e = .returned (.int .i64 ((k0 + n * 5 : Nat) : Int)) ∧ w'.ownsRow base 127 5 v n (rv (mkT k0) (n * 5)) ∧ w.grownBy w' v.ownBlock := by
 rcases own_cases h with ⟨rfl, rfl⟩ | ⟨g, c, rfl, _⟩
 ·exact (markT_nil k0 w).mono (by rintro r w' ⟨rfl, rfl⟩; exact ⟨by simp, World.ownsRow_nil w' base 127 5, World.grownBy.refl _ _⟩)
 ·exact markT_at base g n c f k0 w h hl hk0
set_option maxRecDepth 20000 in
set_option maxHeartbeats 4000000 in
theorem heldT_own (base n : Nat) (v : Value) (k0 : Nat) (w : World) (h : w.ownsRow base 127 5 v n (rv (mkT k0) (n * 5))) (hl : n ≤ 1048576) (hk0 : k0 ≤ 1000000000000000) :
  Calls Tryz.prog 60 #[v, .int .i64 (k0 : Int)] w fun e w' => e = .returned (.int .i64 ((k0 + n * 5 : Nat) : Int)) ∧ w' = w := by
 obtain ⟨a, cap, rfl, _⟩ := own_slice h
 go_enter Tryz.func60, Tryz.ntmps60
 go_wp2
 go_loopw [1, 5] (fun x i wr => ∃ k : Nat, k ≤ n ∧ i = .int .i64 k ∧ x = .int .i64 ((k0 + k * 5 : Nat) : Int) ∧ wr = w) (fun _ i _ => n - (intOf i).toNat)
 case atStart => exact ⟨0, Nat.zero_le _, rfl, by simp, rfl⟩
 case round =>
  obtain ⟨k, hk, rfl, rfl, rfl⟩ := hrel
  by_cases hlt : k < n
  ·have i0 : (0 : Int) ≤ (k : Int) := by omega
   have i1 : (k : Int) < (n : Int) := by omega
   rcases own_cases h with ⟨_, e⟩ | ⟨g, c, e, _⟩
   ·omega
   obtain ⟨rfl, rfl⟩ : a = some ⟨g, 0, none⟩ ∧ cap = c := by simpa using e
   have d0 := own_at h (j := k * 5) (by omega)
   rw [mkT_0] at d0
   have d1 := own_at h (j := k * 5 + 1) (by omega)
   rw [mkT_1] at d1
   have d2 := own_at h (j := k * 5 + 2) (by omega)
   rw [mkT_2] at d2
   have d3 := own_at h (j := k * 5 + 3) (by omega)
   rw [mkT_3] at d3
   have d4 := own_at h (j := k * 5 + 4) (by omega)
   rw [mkT_4] at d4
   have e0 : (((((k0 : Int) + (k : Int) * 5 + 1 + 1 + 1) % 3 == 0) != (((k0 : Int) + (k : Int) * 5 + 1 + 1 + 1) % 3 == 0))) = false := by simp
   clear h e
   go_wp2
   go_roundw
   case rel => exact ⟨k + 1, by omega, by go_num, by go_num, by simp⟩
   case measure => simp [intOf]; omega
  ·go_wp2
   go_ret
   have e : k = n := by omega
   subst e
   exact ⟨rfl, rfl⟩
def stoD (nl : Nat → Nat) (k0 : Nat) : Nat → Nat
 | 0 => k0
 | j + 1 => stoD nl k0 j + 3 + nl j
theorem stoD_le {nl : Nat → Nat} {k0 : Nat} : ∀ (j : Nat), (∀ i, i < j → nl i ≤ 1048576) → stoD nl k0 j ≤ k0 + j * 1048579
 | 0, _ => by simp [stoD]
 | j + 1, h => by
  have a := stoD_le (k0 := k0) j (fun i hi => h i (by omega))
  have b := h j (by omega)
  rw [stoD]
  omega
def mkD (sl : Nat → Value) (nl : Nat → Nat) (k0 i : Nat) : Value := if i % 4 = 3 then sl (i / 4) else .int .i64 ((stoD nl k0 (i / 4) : Int) + ((i % 4 : Nat) : Int))
theorem mkD_0 (sl : Nat → Value) (nl : Nat → Nat) (k0 k : Nat) : mkD sl nl k0 (k * 4) = .int .i64 ((stoD nl k0 k : Int)) := by
 have e1 : (k * 4) % 4 = 0 := by omega
 have e2 : (k * 4) / 4 = k := by omega
 unfold mkD
 rw [e1, e2, if_neg (by decide)]
 exact congrArg (Value.int .i64) (by omega)
theorem mkD_1 (sl : Nat → Value) (nl : Nat → Nat) (k0 k : Nat) : mkD sl nl k0 (k * 4 + 1) = .int .i64 ((stoD nl k0 k : Int) + 1) := by
 have e1 : (k * 4 + 1) % 4 = 1 := by omega
 have e2 : (k * 4 + 1) / 4 = k := by omega
 unfold mkD
 rw [e1, e2, if_neg (by decide)]
 exact congrArg (Value.int .i64) (by omega)
theorem mkD_2 (sl : Nat → Value) (nl : Nat → Nat) (k0 k : Nat) : mkD sl nl k0 (k * 4 + 2) = .int .i64 ((stoD nl k0 k : Int) + 1 + 1) := by
 have e1 : (k * 4 + 2) % 4 = 2 := by omega
 have e2 : (k * 4 + 2) / 4 = k := by omega
 unfold mkD
 rw [e1, e2, if_neg (by decide)]
 exact congrArg (Value.int .i64) (by omega)
theorem mkD_3 (sl : Nat → Value) (nl : Nat → Nat) (k0 k : Nat) : mkD sl nl k0 (k * 4 + 3) = sl k := by
 have e1 : (k * 4 + 3) % 4 = 3 := by omega
 have e2 : (k * 4 + 3) / 4 = k := by omega
 unfold mkD
 rw [e1, e2, if_pos rfl]
structure OwD (w : World) (base : Nat) (v : Value) (n : Nat) (f : Nat → Value) (sl : Nat → Value) (nl : Nat → Nat) (xs : Nat → List Value) : Prop where
 row : w.ownsRow base 121 4 v n (rv f (n * 4))
 at_ : ∀ j, j < n → f (j * 4 + 3) = sl j
 nest : ∀ j, j < n → w.ownsRow base 3 1 (sl j) (nl j) (xs j)
 apart : ∀ i j, i < n → j < n → i ≠ j → ∀ x, (sl i).ownBlock = some x → (sl j).ownBlock ≠ some x
def bkD (v : Value) (n : Nat) (sl : Nat → Value) (x : Nat) : Prop := v.ownBlock = some x ∨ ∃ j, j < n ∧ (sl j).ownBlock = some x
structure HdD (w : World) (base : Nat) (v : Value) (n : Nat) (sl : Nat → Value) (nl : Nat → Nat) (k0 : Nat) : Prop where
 row : w.ownsRow base 121 4 v n (rv (mkD sl nl k0) (n * 4))
 nest : ∀ j, j < n → w.ownsRow base 3 1 (sl j) (nl j) (rv (mkI (stoD nl k0 j + 3)) (nl j * 1))
theorem OwD.mw {S : Nat → Prop} {w w' : World} {base : Nat} {v : Value} {n : Nat} {f sl : Nat → Value} {nl : Nat → Nat} {xs : Nat → List Value} (h : OwD w base v n f sl nl xs) (k : Mw S w w') (q : ∀ x, bkD v n sl x → ¬ S x) : OwD w' base v n f sl nl xs :=
 ⟨own_mw h.row k fun x e => q x (.inl e), h.at_, fun j hj => own_mw (h.nest j hj) k fun x e => q x (.inr ⟨j, hj, e⟩), h.apart⟩
theorem HdD.mw {S : Nat → Prop} {w w' : World} {base : Nat} {v : Value} {n : Nat} {sl : Nat → Value} {nl : Nat → Nat} {k0 : Nat} (h : HdD w base v n sl nl k0) (k : Mw S w w') (q : ∀ x, bkD v n sl x → ¬ S x) : HdD w' base v n sl nl k0 :=
 ⟨own_mw h.row k fun x e => q x (.inl e), fun j hj => own_mw (h.nest j hj) k fun x e => q x (.inr ⟨j, hj, e⟩)⟩
theorem OwD.below {w w' : World} {base : Nat} {v : Value} {n : Nat} {f sl : Nat → Value} {nl : Nat → Nat} {xs : Nat → List Value} (h : OwD w base v n f sl nl xs) (k : Below w.heap.size w w') : OwD w' base v n f sl nl xs := h.mw (S := fun _ => False) (Mw.of_below k) (fun _ _ => id)
theorem HdD.below {w w' : World} {base : Nat} {v : Value} {n : Nat} {sl : Nat → Value} {nl : Nat → Nat} {k0 : Nat} (h : HdD w base v n sl nl k0) (k : Below w.heap.size w w') : HdD w' base v n sl nl k0 := h.mw (S := fun _ => False) (Mw.of_below k) (fun _ _ => id)
theorem OwD.lo {w : World} {base : Nat} {v : Value} {n : Nat} {f sl : Nat → Value} {nl : Nat → Nat} {xs : Nat → List Value} (h : OwD w base v n f sl nl xs) : ∀ x, bkD v n sl x → base ≤ x ∧ x < w.heap.size := by
 rintro x (q | ⟨j, hj, q⟩)
 ·exact h.row.lt x q
 ·exact (h.nest j hj).lt x q
set_option maxRecDepth 20000 in
set_option maxHeartbeats 8000000 in
theorem markD_at (base g n cap : Nat) (f sl : Nat → Value) (nl : Nat → Nat) (xs : Nat → List Value) (k0 : Nat) (w : World) (h : OwD w base (.slice (some ⟨g, 0, none⟩) n cap) n f sl nl xs) (hl : n ≤ 1048576) (hnl : ∀ j, j < n → nl j ≤ 1048576) (hk0 : k0 ≤ 100000000000000) :
  Calls Tryz.prog 56 #[.slice (some ⟨g, 0, none⟩) n cap, .int .i64 (k0 : Int)] w fun e w' => e = .returned (.int .i64 ((stoD nl k0 n : Nat) : Int)) ∧ HdD w' base (.slice (some ⟨g, 0, none⟩) n cap) n sl nl k0 ∧ Mw (bkD (.slice (some ⟨g, 0, none⟩) n cap) n sl) w w' := by
 go_enter Tryz.func56, Tryz.ntmps56
 go_wp2
 go_loopw [1, 5] (fun x i wr => ∃ k : Nat, k ≤ n ∧ i = .int .i64 k ∧ x = .int .i64 ((stoD nl k0 k : Nat) : Int) ∧ Mw (bkD (.slice (some ⟨g, 0, none⟩) n cap) n sl) w wr ∧ wr.ownsRow base 121 4 (.slice (some ⟨g, 0, none⟩) n cap) n (rv (fun i => if i < k * 4 then mkD sl nl k0 i else f i) (n * 4)) ∧ (∀ j, j < k → wr.ownsRow base 3 1 (sl j) (nl j) (rv (mkI (stoD nl k0 j + 3)) (nl j * 1))) ∧ (∀ j, k ≤ j → j < n → wr.ownsRow base 3 1 (sl j) (nl j) (xs j))) (fun _ i _ => n - (intOf i).toNat)
 case atStart => exact ⟨0, Nat.zero_le _, rfl, rfl, Mw.refl _ _, by simpa using h.row, fun j hj => by omega, fun j _ hj => h.nest j hj⟩
 case round =>
  obtain ⟨k, hk, rfl, rfl, hg, hr, hn1, hn2⟩ := hrel
  by_cases hlt : k < n
  ·have i0 : (0 : Int) ≤ (k : Int) := by omega
   have i1 : (k : Int) < (n : Int) := by omega
   have hsl := h.at_ k hlt
   have hap : ∀ j, j < n → j ≠ k → ∀ x, (sl j).ownBlock = some x → (sl k).ownBlock ≠ some x := fun j hj e => h.apart j k hj hlt e
   have hnk := hnl k hlt
   have hst := stoD_le (nl := nl) (k0 := k0) k (fun i hi => hnl i (by omega))
   have own := hn2 k (Nat.le_refl _) hlt
   have hnw := fun j (hj : k ≤ j) (hj2 : j < n) => (own_apart (hn2 j hj hj2) hr (by decide))
   have hno := fun j (hj : j < k) => (own_apart (hn1 j hj) hr (by decide))
   obtain ⟨K0, hK0⟩ : ∃ K0, Hid (stoD nl k0 k = K0) := ⟨_, rfl⟩
   have hrk := own_at hr (j := k * 4 + 3) (by omega)
   (try dsimp only at hrk)
   rw [if_neg (by omega), hsl] at hrk
   rw [hK0.out] at hst ⊢
   have c0 := own_at hr (j := k * 4) (by omega)
   have f0 := hr.frozenAt (k * 4)
   go_upto_region 5 with fail
   have r0 := own_put hr (k * 4) (.int .i64 ((K0 : Int)))
   have g0 := hg.set (b := g) (o := k * 4) (v := .int .i64 ((K0 : Int))) (.inl rfl)
   have y0 : Mw (fun x => x = g) wr (wr.setCell ⟨g, k * 4, none⟩ (.int .i64 ((K0 : Int)))) := (Mw.refl _ wr).set rfl
   generalize wr.setCell ⟨g, k * 4, none⟩ (.int .i64 ((K0 : Int))) = u0 at *
   clear c0 f0 hg
   have c1 := own_at r0 (j := k * 4 + 1) (by omega)
   have f1 := r0.frozenAt (k * 4 + 1)
   go_upto_region 7 with fail
   have r1 := own_put r0 (k * 4 + 1) (.int .i64 ((K0 : Int) + 1))
   have g1 := g0.set (b := g) (o := k * 4 + 1) (v := .int .i64 ((K0 : Int) + 1)) (.inl rfl)
   have y1 : Mw (fun x => x = g) wr (u0.setCell ⟨g, k * 4 + 1, none⟩ (.int .i64 ((K0 : Int) + 1))) := y0.set rfl
   generalize u0.setCell ⟨g, k * 4 + 1, none⟩ (.int .i64 ((K0 : Int) + 1)) = u1 at *
   clear c1 f1 r0 g0 y0
   have c2 := own_at r1 (j := k * 4 + 2) (by omega)
   have f2 := r1.frozenAt (k * 4 + 2)
   go_upto_region 9 with fail
   have r2 := own_put r1 (k * 4 + 2) (.int .i64 ((K0 : Int) + 1 + 1))
   have g2 := g1.set (b := g) (o := k * 4 + 2) (v := .int .i64 ((K0 : Int) + 1 + 1)) (.inl rfl)
   have y2 : Mw (fun x => x = g) wr (u1.setCell ⟨g, k * 4 + 2, none⟩ (.int .i64 ((K0 : Int) + 1 + 1))) := y1.set rfl
   generalize u1.setCell ⟨g, k * 4 + 2, none⟩ (.int .i64 ((K0 : Int) + 1 + 1)) = u2 at *
   clear c2 f2 r1 g1 y1
   have hc := own_at r2 (j := k * 4 + 3) (by omega)
   (try dsimp only at hc)
   rw [if_neg (by omega), if_neg (by omega), if_neg (by omega), if_neg (by omega), hsl] at hc
   clear hrk
   have own' := own_mw own y2 (fun x e q => by subst q; exact hnw k (Nat.le_refl _) hlt x e rfl)
   clear own
   obtain ⟨sa, cs, es, _⟩ := own_slice own'
   rw [es] at hc
   have own2 := own'
   rw [es] at own2
   obtain ⟨fx, hfx⟩ : ∃ fx : Nat → Value, xs k = rv fx (nl k * 1) := ⟨fun i => (xs k).getD i (.int .i64 0), rv_ext own'.1 (fun j hj => by rw [List.getD_eq_getElem?_getD]; rw [List.getElem?_eq_getElem (by rw [own'.1]; exact hj)]; rfl)⟩
   rw [hfx] at own2
   go_wp2_with fail
   have e9 : (K0 : Int) + 1 + 1 + 1 = ((K0 + 3 : Nat) : Int) := by omega
   rw [e9]
   refine (markI_own base (nl k) _ fx (K0 + 3) _ own2 hnk (by omega)).mono ?_
   rintro e w9 ⟨rfl, om, gm⟩
   rw [← es] at om gm
   have hK1 : stoD nl k0 (k + 1) = K0 + 3 + nl k := by rw [stoD, hK0.out]
   have mm : Mw (fun x => (sl k).ownBlock = some x) u2 w9 := Mw.grown gm (fun _ e => e)
   have z1 : w9.ownsRow base 121 4 (.slice (some ⟨g, 0, none⟩) n cap) n (rv (fun i => if i < (k + 1) * 4 then mkD sl nl k0 i else f i) (n * 4)) := by
    have q := own_mw r2 mm (fun x e q => by
     have := own_apart own' r2 (by decide) x q
     exact this e)
    rw [rv_congr (g := fun i => if i < (k + 1) * 4 then mkD sl nl k0 i else f i) (fun i _ => ?cg)] at q
    ·exact q
    case cg =>
     (try dsimp only)
     have hq : i < k * 4 ∨ i = k * 4 ∨ i = k * 4 + 1 ∨ i = k * 4 + 2 ∨ i = k * 4 + 3 ∨ k * 4 + 4 ≤ i := by omega
     rcases hq with q | q | q | q | q | q
     ·rw [if_neg (by omega), if_neg (by omega), if_neg (by omega), if_pos q, if_pos (by omega)]
     ·subst q
      rw [if_neg (by omega), if_neg (by omega), if_pos rfl, if_pos (by omega), mkD_0, hK0.out]
     ·subst q
      rw [if_neg (by omega), if_pos rfl, if_pos (by omega), mkD_1, hK0.out]
     ·subst q
      rw [if_pos rfl, if_pos (by omega), mkD_2, hK0.out]
     ·subst q
      rw [if_neg (by omega), if_neg (by omega), if_neg (by omega), if_neg (by omega), if_pos (by omega), mkD_3, hsl]
     ·rw [if_neg (by omega), if_neg (by omega), if_neg (by omega), if_neg (by omega), if_neg (by omega)]
   have z2 : ∀ j, j < k + 1 → w9.ownsRow base 3 1 (sl j) (nl j) (rv (mkI (stoD nl k0 j + 3)) (nl j * 1)) := fun j hj => by
    by_cases e : j = k
    ·subst e
     rw [hK0.out]
     exact om
    ·exact own_mw (own_mw (hn1 j (by omega)) y2 (fun x e q => by subst q; exact hno j (by omega) x e rfl)) mm (fun x e' q => hap j (by omega) e x e' q)
   have z3 : ∀ j, k + 1 ≤ j → j < n → w9.ownsRow base 3 1 (sl j) (nl j) (xs j) := fun j hj hj2 =>
    own_mw (own_mw (hn2 j (by omega) hj2) y2 (fun x e q => by subst q; exact hnw j (by omega) hj2 x e rfl)) mm (fun x e' q => hap j hj2 (by omega) x e' q)
   have z4 := g2.trans (mm.mono (fun x e => .inr ⟨k, hlt, e⟩))
   clear own' own2 hn1 hn2 hnw hno r2 y2 g2 om gm mm hc hfx hap e9
   go_wp2
   go_roundw
   case rel => exact ⟨k + 1, by omega, by go_num, by rw [hK1]; exact congrArg (Value.int .i64) (by omega), z4, z1, z2, z3⟩
   case measure => simp [intOf]; omega
  ·go_wp2
   go_ret
   have e : k = n := by omega
   subst e
   rw [rv_congr (g := mkD sl nl k0) (fun i hi => if_pos (by omega))] at hr
   exact ⟨rfl, ⟨hr, hn1⟩, hg⟩
theorem markD_nil (k0 : Nat) (w : World) :
  Calls Tryz.prog 56 #[.slice none 0 0, .int .i64 (k0 : Int)] w fun e w' => e = .returned (.int .i64 (k0 : Int)) ∧ w' = w := by
 go_enter Tryz.func56, Tryz.ntmps56
 go_wp2
 refine wp_loop_rounds 1 ?_
 rw [rounds_succ]
 go_wp2
 go_ret
 exact ⟨rfl, rfl⟩
theorem markD_own (base n : Nat) (v : Value) (f sl : Nat → Value) (nl : Nat → Nat) (xs : Nat → List Value) (k0 : Nat) (w : World) (h : OwD w base v n f sl nl xs) (hl : n ≤ 1048576) (hnl : ∀ j, j < n → nl j ≤ 1048576) (hk0 : k0 ≤ 100000000000000) :
  Calls Tryz.prog 56 #[v, .int .i64 (k0 : Int)] w fun e w' => e = .returned (.int .i64 ((stoD nl k0 n : Nat) : Int)) ∧ HdD w' base v n sl nl k0 ∧ Mw (bkD v n sl) w w' := by
 rcases own_cases h.row with ⟨rfl, rfl⟩ | ⟨g, c, rfl, _⟩
 ·exact (markD_nil k0 w).mono (by rintro r w' ⟨rfl, rfl⟩; exact ⟨rfl, ⟨World.ownsRow_nil w' base 121 4, fun j hj => by omega⟩, Mw.refl _ _⟩)
 ·exact markD_at base g n c f sl nl xs k0 w h hl hnl hk0
set_option maxRecDepth 20000 in
set_option maxHeartbeats 8000000 in
theorem heldD_own (base n : Nat) (v : Value) (sl : Nat → Value) (nl : Nat → Nat) (k0 : Nat) (w : World) (h : HdD w base v n sl nl k0) (hl : n ≤ 1048576) (hnl : ∀ j, j < n → nl j ≤ 1048576) (hk0 : k0 ≤ 100000000000000) :
  Calls Tryz.prog 61 #[v, .int .i64 (k0 : Int)] w fun e w' => e = .returned (.int .i64 ((stoD nl k0 n : Nat) : Int)) ∧ w' = w := by
 obtain ⟨a, cap, rfl, _⟩ := own_slice h.row
 go_enter Tryz.func61, Tryz.ntmps61
 go_wp2
 go_loopw [1, 5] (fun x i wr => ∃ k : Nat, k ≤ n ∧ i = .int .i64 k ∧ x = .int .i64 ((stoD nl k0 k : Nat) : Int) ∧ wr = w) (fun _ i _ => n - (intOf i).toNat)
 case atStart => exact ⟨0, Nat.zero_le _, rfl, rfl, rfl⟩
 case round =>
  obtain ⟨k, hk, rfl, rfl, rfl⟩ := hrel
  by_cases hlt : k < n
  ·have i0 : (0 : Int) ≤ (k : Int) := by omega
   have i1 : (k : Int) < (n : Int) := by omega
   rcases own_cases h.row with ⟨_, e⟩ | ⟨g, c, e, _⟩
   ·omega
   obtain ⟨rfl, rfl⟩ : a = some ⟨g, 0, none⟩ ∧ cap = c := by simpa using e
   have own := h.nest k hlt
   have hnk := hnl k hlt
   have hst := stoD_le (nl := nl) (k0 := k0) k (fun i hi => hnl i (by omega))
   have hr := h.row
   have d0 := own_at hr (j := k * 4) (by omega)
   rw [mkD_0] at d0
   have d1 := own_at hr (j := k * 4 + 1) (by omega)
   rw [mkD_1] at d1
   have d2 := own_at hr (j := k * 4 + 2) (by omega)
   rw [mkD_2] at d2
   have d3 := own_at hr (j := k * 4 + 3) (by omega)
   rw [mkD_3] at d3
   have hK1 : stoD nl k0 (k + 1) = stoD nl k0 k + 3 + nl k := rfl
   obtain ⟨K0, hK0⟩ : ∃ K0, Hid (stoD nl k0 k = K0) := ⟨_, rfl⟩
   rw [hK0.out] at d0 d1 d2 hst hK1 own ⊢
   obtain ⟨sa, cs, es, _⟩ := own_slice own
   rw [es] at d3 own
   clear h hr e es
   go_wp2_with fail
   have e9 : (K0 : Int) + 1 + 1 + 1 = ((K0 + 3 : Nat) : Int) := by omega
   rw [e9]
   refine (heldI_own base (nl k) _ (K0 + 3) _ own hnk (by omega)).mono ?_
   rintro e w9 ⟨rfl, hw⟩
   obtain rfl := hw.symm
   have kk0 : ¬ (((K0 + 3 + nl k * 1 : Nat) : Int) < 0) := by omega
   clear d0 d1 d2 d3 own hw e9
   go_wp2
   go_roundw
   case rel => exact ⟨k + 1, by omega, by go_num, by rw [hK1]; exact congrArg (Value.int .i64) (by omega), by simp⟩
   case measure => simp [intOf]; omega
  ·go_wp2
   go_ret
   have e : k = n := by omega
   subst e
   exact ⟨rfl, rfl⟩
def stoP (nl : Nat → Nat) (k0 : Nat) : Nat → Nat
 | 0 => k0
 | j + 1 => stoP nl k0 j + 5 + nl j
theorem stoP_le {nl : Nat → Nat} {k0 : Nat} : ∀ (j : Nat), (∀ i, i < j → nl i ≤ 1048576) → stoP nl k0 j ≤ k0 + j * 1048581
 | 0, _ => by simp [stoP]
 | j + 1, h => by
  have a := stoP_le (k0 := k0) j (fun i hi => h i (by omega))
  have b := h j (by omega)
  rw [stoP]
  omega
def mkP (sl : Nat → Value) (nl : Nat → Nat) (k0 i : Nat) : Value := if i % 6 = 5 then sl (i / 6) else .int .i64 ((stoP nl k0 (i / 6) : Int) + ((i % 6 : Nat) : Int))
theorem mkP_0 (sl : Nat → Value) (nl : Nat → Nat) (k0 k : Nat) : mkP sl nl k0 (k * 6) = .int .i64 ((stoP nl k0 k : Int)) := by
 have e1 : (k * 6) % 6 = 0 := by omega
 have e2 : (k * 6) / 6 = k := by omega
 unfold mkP
 rw [e1, e2, if_neg (by decide)]
 exact congrArg (Value.int .i64) (by omega)
theorem mkP_1 (sl : Nat → Value) (nl : Nat → Nat) (k0 k : Nat) : mkP sl nl k0 (k * 6 + 1) = .int .i64 ((stoP nl k0 k : Int) + 1) := by
 have e1 : (k * 6 + 1) % 6 = 1 := by omega
 have e2 : (k * 6 + 1) / 6 = k := by omega
 unfold mkP
 rw [e1, e2, if_neg (by decide)]
 exact congrArg (Value.int .i64) (by omega)
theorem mkP_2 (sl : Nat → Value) (nl : Nat → Nat) (k0 k : Nat) : mkP sl nl k0 (k * 6 + 2) = .int .i64 ((stoP nl k0 k : Int) + 1 + 1) := by
 have e1 : (k * 6 + 2) % 6 = 2 := by omega
 have e2 : (k * 6 + 2) / 6 = k := by omega
 unfold mkP
 rw [e1, e2, if_neg (by decide)]
 exact congrArg (Value.int .i64) (by omega)
theorem mkP_3 (sl : Nat → Value) (nl : Nat → Nat) (k0 k : Nat) : mkP sl nl k0 (k * 6 + 3) = .int .i64 ((stoP nl k0 k : Int) + 1 + 1 + 1) := by
 have e1 : (k * 6 + 3) % 6 = 3 := by omega
 have e2 : (k * 6 + 3) / 6 = k := by omega
 unfold mkP
 rw [e1, e2, if_neg (by decide)]
 exact congrArg (Value.int .i64) (by omega)
theorem mkP_4 (sl : Nat → Value) (nl : Nat → Nat) (k0 k : Nat) : mkP sl nl k0 (k * 6 + 4) = .int .i64 ((stoP nl k0 k : Int) + 1 + 1 + 1 + 1) := by
 have e1 : (k * 6 + 4) % 6 = 4 := by omega
 have e2 : (k * 6 + 4) / 6 = k := by omega
 unfold mkP
 rw [e1, e2, if_neg (by decide)]
 exact congrArg (Value.int .i64) (by omega)
theorem mkP_5 (sl : Nat → Value) (nl : Nat → Nat) (k0 k : Nat) : mkP sl nl k0 (k * 6 + 5) = sl k := by
 have e1 : (k * 6 + 5) % 6 = 5 := by omega
 have e2 : (k * 6 + 5) / 6 = k := by omega
 unfold mkP
 rw [e1, e2, if_pos rfl]
structure OwP (w : World) (base : Nat) (v : Value) (n : Nat) (f : Nat → Value) (sl : Nat → Value) (nl : Nat → Nat) (xs : Nat → List Value) : Prop where
 row : w.ownsRow base 103 6 v n (rv f (n * 6))
 at_ : ∀ j, j < n → f (j * 6 + 5) = sl j
 nest : ∀ j, j < n → w.ownsRow base 3 1 (sl j) (nl j) (xs j)
 apart : ∀ i j, i < n → j < n → i ≠ j → ∀ x, (sl i).ownBlock = some x → (sl j).ownBlock ≠ some x
def bkP (v : Value) (n : Nat) (sl : Nat → Value) (x : Nat) : Prop := v.ownBlock = some x ∨ ∃ j, j < n ∧ (sl j).ownBlock = some x
structure HdP (w : World) (base : Nat) (v : Value) (n : Nat) (sl : Nat → Value) (nl : Nat → Nat) (k0 : Nat) : Prop where
 row : w.ownsRow base 103 6 v n (rv (mkP sl nl k0) (n * 6))
 nest : ∀ j, j < n → w.ownsRow base 3 1 (sl j) (nl j) (rv (mkI (stoP nl k0 j + 5)) (nl j * 1))
theorem OwP.mw {S : Nat → Prop} {w w' : World} {base : Nat} {v : Value} {n : Nat} {f sl : Nat → Value} {nl : Nat → Nat} {xs : Nat → List Value} (h : OwP w base v n f sl nl xs) (k : Mw S w w') (q : ∀ x, bkP v n sl x → ¬ S x) : OwP w' base v n f sl nl xs :=
 ⟨own_mw h.row k fun x e => q x (.inl e), h.at_, fun j hj => own_mw (h.nest j hj) k fun x e => q x (.inr ⟨j, hj, e⟩), h.apart⟩
theorem HdP.mw {S : Nat → Prop} {w w' : World} {base : Nat} {v : Value} {n : Nat} {sl : Nat → Value} {nl : Nat → Nat} {k0 : Nat} (h : HdP w base v n sl nl k0) (k : Mw S w w') (q : ∀ x, bkP v n sl x → ¬ S x) : HdP w' base v n sl nl k0 :=
 ⟨own_mw h.row k fun x e => q x (.inl e), fun j hj => own_mw (h.nest j hj) k fun x e => q x (.inr ⟨j, hj, e⟩)⟩
theorem OwP.below {w w' : World} {base : Nat} {v : Value} {n : Nat} {f sl : Nat → Value} {nl : Nat → Nat} {xs : Nat → List Value} (h : OwP w base v n f sl nl xs) (k : Below w.heap.size w w') : OwP w' base v n f sl nl xs := h.mw (S := fun _ => False) (Mw.of_below k) (fun _ _ => id)
theorem HdP.below {w w' : World} {base : Nat} {v : Value} {n : Nat} {sl : Nat → Value} {nl : Nat → Nat} {k0 : Nat} (h : HdP w base v n sl nl k0) (k : Below w.heap.size w w') : HdP w' base v n sl nl k0 := h.mw (S := fun _ => False) (Mw.of_below k) (fun _ _ => id)
theorem OwP.lo {w : World} {base : Nat} {v : Value} {n : Nat} {f sl : Nat → Value} {nl : Nat → Nat} {xs : Nat → List Value} (h : OwP w base v n f sl nl xs) : ∀ x, bkP v n sl x → base ≤ x ∧ x < w.heap.size := by
 rintro x (q | ⟨j, hj, q⟩)
 ·exact h.row.lt x q
 ·exact (h.nest j hj).lt x q
set_option maxRecDepth 20000 in
set_option maxHeartbeats 8000000 in
theorem markP_at (base g n cap : Nat) (f sl : Nat → Value) (nl : Nat → Nat) (xs : Nat → List Value) (k0 : Nat) (w : World) (h : OwP w base (.slice (some ⟨g, 0, none⟩) n cap) n f sl nl xs) (hl : n ≤ 1048576) (hnl : ∀ j, j < n → nl j ≤ 1048576) (hk0 : k0 ≤ 100000000000000) :
  Calls Tryz.prog 57 #[.slice (some ⟨g, 0, none⟩) n cap, .int .i64 (k0 : Int)] w fun e w' => e = .returned (.int .i64 ((stoP nl k0 n : Nat) : Int)) ∧ HdP w' base (.slice (some ⟨g, 0, none⟩) n cap) n sl nl k0 ∧ Mw (bkP (.slice (some ⟨g, 0, none⟩) n cap) n sl) w w' := by
 go_enter Tryz.func57, Tryz.ntmps57
 go_wp2
 go_loopw [1, 5] (fun x i wr => ∃ k : Nat, k ≤ n ∧ i = .int .i64 k ∧ x = .int .i64 ((stoP nl k0 k : Nat) : Int) ∧ Mw (bkP (.slice (some ⟨g, 0, none⟩) n cap) n sl) w wr ∧ wr.ownsRow base 103 6 (.slice (some ⟨g, 0, none⟩) n cap) n (rv (fun i => if i < k * 6 then mkP sl nl k0 i else f i) (n * 6)) ∧ (∀ j, j < k → wr.ownsRow base 3 1 (sl j) (nl j) (rv (mkI (stoP nl k0 j + 5)) (nl j * 1))) ∧ (∀ j, k ≤ j → j < n → wr.ownsRow base 3 1 (sl j) (nl j) (xs j))) (fun _ i _ => n - (intOf i).toNat)
 case atStart => exact ⟨0, Nat.zero_le _, rfl, rfl, Mw.refl _ _, by simpa using h.row, fun j hj => by omega, fun j _ hj => h.nest j hj⟩
 case round =>
  obtain ⟨k, hk, rfl, rfl, hg, hr, hn1, hn2⟩ := hrel
  by_cases hlt : k < n
  ·have i0 : (0 : Int) ≤ (k : Int) := by omega
   have i1 : (k : Int) < (n : Int) := by omega
   have hsl := h.at_ k hlt
   have hap : ∀ j, j < n → j ≠ k → ∀ x, (sl j).ownBlock = some x → (sl k).ownBlock ≠ some x := fun j hj e => h.apart j k hj hlt e
   have hnk := hnl k hlt
   have hst := stoP_le (nl := nl) (k0 := k0) k (fun i hi => hnl i (by omega))
   have own := hn2 k (Nat.le_refl _) hlt
   have hnw := fun j (hj : k ≤ j) (hj2 : j < n) => (own_apart (hn2 j hj hj2) hr (by decide))
   have hno := fun j (hj : j < k) => (own_apart (hn1 j hj) hr (by decide))
   obtain ⟨K0, hK0⟩ : ∃ K0, Hid (stoP nl k0 k = K0) := ⟨_, rfl⟩
   have hrk := own_at hr (j := k * 6 + 5) (by omega)
   (try dsimp only at hrk)
   rw [if_neg (by omega), hsl] at hrk
   rw [hK0.out] at hst ⊢
   have c0 := own_at hr (j := k * 6) (by omega)
   have f0 := hr.frozenAt (k * 6)
   go_upto_region 5 with fail
   have r0 := own_put hr (k * 6) (.int .i64 ((K0 : Int)))
   have g0 := hg.set (b := g) (o := k * 6) (v := .int .i64 ((K0 : Int))) (.inl rfl)
   have y0 : Mw (fun x => x = g) wr (wr.setCell ⟨g, k * 6, none⟩ (.int .i64 ((K0 : Int)))) := (Mw.refl _ wr).set rfl
   generalize wr.setCell ⟨g, k * 6, none⟩ (.int .i64 ((K0 : Int))) = u0 at *
   clear c0 f0 hg
   have c1 := own_at r0 (j := k * 6 + 1) (by omega)
   have f1 := r0.frozenAt (k * 6 + 1)
   go_upto_region 7 with fail
   have r1 := own_put r0 (k * 6 + 1) (.int .i64 ((K0 : Int) + 1))
   have g1 := g0.set (b := g) (o := k * 6 + 1) (v := .int .i64 ((K0 : Int) + 1)) (.inl rfl)
   have y1 : Mw (fun x => x = g) wr (u0.setCell ⟨g, k * 6 + 1, none⟩ (.int .i64 ((K0 : Int) + 1))) := y0.set rfl
   generalize u0.setCell ⟨g, k * 6 + 1, none⟩ (.int .i64 ((K0 : Int) + 1)) = u1 at *
   clear c1 f1 r0 g0 y0
   have c2 := own_at r1 (j := k * 6 + 2) (by omega)
   have f2 := r1.frozenAt (k * 6 + 2)
   go_upto_region 9 with fail
   have r2 := own_put r1 (k * 6 + 2) (.int .i64 ((K0 : Int) + 1 + 1))
   have g2 := g1.set (b := g) (o := k * 6 + 2) (v := .int .i64 ((K0 : Int) + 1 + 1)) (.inl rfl)
   have y2 : Mw (fun x => x = g) wr (u1.setCell ⟨g, k * 6 + 2, none⟩ (.int .i64 ((K0 : Int) + 1 + 1))) := y1.set rfl
   generalize u1.setCell ⟨g, k * 6 + 2, none⟩ (.int .i64 ((K0 : Int) + 1 + 1)) = u2 at *
   clear c2 f2 r1 g1 y1
   have c3 := own_at r2 (j := k * 6 + 3) (by omega)
   have f3 := r2.frozenAt (k * 6 + 3)
   go_upto_region 11 with fail
   have r3 := own_put r2 (k * 6 + 3) (.int .i64 ((K0 : Int) + 1 + 1 + 1))
   have g3 := g2.set (b := g) (o := k * 6 + 3) (v := .int .i64 ((K0 : Int) + 1 + 1 + 1)) (.inl rfl)
   have y3 : Mw (fun x => x = g) wr (u2.setCell ⟨g, k * 6 + 3, none⟩ (.int .i64 ((K0 : Int) + 1 + 1 + 1))) := y2.set rfl
   generalize u2.setCell ⟨g, k * 6 + 3, none⟩ (.int .i64 ((K0 : Int) + 1 + 1 + 1)) = u3 at *
   clear c3 f3 r2 g2 y2
   have c4 := own_at r3 (j := k * 6 + 4) (by omega)
   have f4 := r3.frozenAt (k * 6 + 4)
   go_upto_region 13 with fail
   have r4 := own_put r3 (k * 6 + 4) (.int .i64 ((K0 : Int) + 1 + 1 + 1 + 1))
   have g4 := g3.set (b := g) (o := k * 6 + 4) (v := .int .i64 ((K0 : Int) + 1 + 1 + 1 + 1)) (.inl rfl)
   have y4 : Mw (fun x => x = g) wr (u3.setCell ⟨g, k * 6 + 4, none⟩ (.int .i64 ((K0 : Int) + 1 + 1 + 1 + 1))) := y3.set rfl
   generalize u3.setCell ⟨g, k * 6 + 4, none⟩ (.int .i64 ((K0 : Int) + 1 + 1 + 1 + 1)) = u4 at *
   clear c4 f4 r3 g3 y3
   have hc := own_at r4 (j := k * 6 + 5) (by omega)
   (try dsimp only at hc)
   rw [if_neg (by omega), if_neg (by omega), if_neg (by omega), if_neg (by omega), if_neg (by omega), if_neg (by omega), hsl] at hc
   clear hrk
   have own' := own_mw own y4 (fun x e q => by subst q; exact hnw k (Nat.le_refl _) hlt x e rfl)
   clear own
   obtain ⟨sa, cs, es, _⟩ := own_slice own'
   rw [es] at hc
   have own2 := own'
   rw [es] at own2
   obtain ⟨fx, hfx⟩ : ∃ fx : Nat → Value, xs k = rv fx (nl k * 1) := ⟨fun i => (xs k).getD i (.int .i64 0), rv_ext own'.1 (fun j hj => by rw [List.getD_eq_getElem?_getD]; rw [List.getElem?_eq_getElem (by rw [own'.1]; exact hj)]; rfl)⟩
   rw [hfx] at own2
   go_wp2_with fail
   have e9 : (K0 : Int) + 1 + 1 + 1 + 1 + 1 = ((K0 + 5 : Nat) : Int) := by omega
   rw [e9]
   refine (markI_own base (nl k) _ fx (K0 + 5) _ own2 hnk (by omega)).mono ?_
   rintro e w9 ⟨rfl, om, gm⟩
   rw [← es] at om gm
   have hK1 : stoP nl k0 (k + 1) = K0 + 5 + nl k := by rw [stoP, hK0.out]
   have mm : Mw (fun x => (sl k).ownBlock = some x) u4 w9 := Mw.grown gm (fun _ e => e)
   have z1 : w9.ownsRow base 103 6 (.slice (some ⟨g, 0, none⟩) n cap) n (rv (fun i => if i < (k + 1) * 6 then mkP sl nl k0 i else f i) (n * 6)) := by
    have q := own_mw r4 mm (fun x e q => by
     have := own_apart own' r4 (by decide) x q
     exact this e)
    rw [rv_congr (g := fun i => if i < (k + 1) * 6 then mkP sl nl k0 i else f i) (fun i _ => ?cg)] at q
    ·exact q
    case cg =>
     (try dsimp only)
     have hq : i < k * 6 ∨ i = k * 6 ∨ i = k * 6 + 1 ∨ i = k * 6 + 2 ∨ i = k * 6 + 3 ∨ i = k * 6 + 4 ∨ i = k * 6 + 5 ∨ k * 6 + 6 ≤ i := by omega
     rcases hq with q | q | q | q | q | q | q | q
     ·rw [if_neg (by omega), if_neg (by omega), if_neg (by omega), if_neg (by omega), if_neg (by omega), if_pos q, if_pos (by omega)]
     ·subst q
      rw [if_neg (by omega), if_neg (by omega), if_neg (by omega), if_neg (by omega), if_pos rfl, if_pos (by omega), mkP_0, hK0.out]
     ·subst q
      rw [if_neg (by omega), if_neg (by omega), if_neg (by omega), if_pos rfl, if_pos (by omega), mkP_1, hK0.out]
     ·subst q
      rw [if_neg (by omega), if_neg (by omega), if_pos rfl, if_pos (by omega), mkP_2, hK0.out]
     ·subst q
      rw [if_neg (by omega), if_pos rfl, if_pos (by omega), mkP_3, hK0.out]
     ·subst q
      rw [if_pos rfl, if_pos (by omega), mkP_4, hK0.out]
     ·subst q
      rw [if_neg (by omega), if_neg (by omega), if_neg (by omega), if_neg (by omega), if_neg (by omega), if_neg (by omega), if_pos (by omega), mkP_5, hsl]
     ·rw [if_neg (by omega), if_neg (by omega), if_neg (by omega), if_neg (by omega), if_neg (by omega), if_neg (by omega), if_neg (by omega)]
   have z2 : ∀ j, j < k + 1 → w9.ownsRow base 3 1 (sl j) (nl j) (rv (mkI (stoP nl k0 j + 5)) (nl j * 1)) := fun j hj => by
    by_cases e : j = k
    ·subst e
     rw [hK0.out]
     exact om
    ·exact own_mw (own_mw (hn1 j (by omega)) y4 (fun x e q => by subst q; exact hno j (by omega) x e rfl)) mm (fun x e' q => hap j (by omega) e x e' q)
   have z3 : ∀ j, k + 1 ≤ j → j < n → w9.ownsRow base 3 1 (sl j) (nl j) (xs j) := fun j hj hj2 =>
    own_mw (own_mw (hn2 j (by omega) hj2) y4 (fun x e q => by subst q; exact hnw j (by omega) hj2 x e rfl)) mm (fun x e' q => hap j hj2 (by omega) x e' q)
   have z4 := g4.trans (mm.mono (fun x e => .inr ⟨k, hlt, e⟩))
   clear own' own2 hn1 hn2 hnw hno r4 y4 g4 om gm mm hc hfx hap e9
   go_wp2
   go_roundw
   case rel => exact ⟨k + 1, by omega, by go_num, by rw [hK1]; exact congrArg (Value.int .i64) (by omega), z4, z1, z2, z3⟩
   case measure => simp [intOf]; omega
  ·go_wp2
   go_ret
   have e : k = n := by omega
   subst e
   rw [rv_congr (g := mkP sl nl k0) (fun i hi => if_pos (by omega))] at hr
   exact ⟨rfl, ⟨hr, hn1⟩, hg⟩
theorem markP_nil (k0 : Nat) (w : World) :
  Calls Tryz.prog 57 #[.slice none 0 0, .int .i64 (k0 : Int)] w fun e w' => e = .returned (.int .i64 (k0 : Int)) ∧ w' = w := by
 go_enter Tryz.func57, Tryz.ntmps57
 go_wp2
 refine wp_loop_rounds 1 ?_
 rw [rounds_succ]
 go_wp2
 go_ret
 exact ⟨rfl, rfl⟩
theorem markP_own (base n : Nat) (v : Value) (f sl : Nat → Value) (nl : Nat → Nat) (xs : Nat → List Value) (k0 : Nat) (w : World) (h : OwP w base v n f sl nl xs) (hl : n ≤ 1048576) (hnl : ∀ j, j < n → nl j ≤ 1048576) (hk0 : k0 ≤ 100000000000000) :
  Calls Tryz.prog 57 #[v, .int .i64 (k0 : Int)] w fun e w' => e = .returned (.int .i64 ((stoP nl k0 n : Nat) : Int)) ∧ HdP w' base v n sl nl k0 ∧ Mw (bkP v n sl) w w' := by
 rcases own_cases h.row with ⟨rfl, rfl⟩ | ⟨g, c, rfl, _⟩
 ·exact (markP_nil k0 w).mono (by rintro r w' ⟨rfl, rfl⟩; exact ⟨rfl, ⟨World.ownsRow_nil w' base 103 6, fun j hj => by omega⟩, Mw.refl _ _⟩)
 ·exact markP_at base g n c f sl nl xs k0 w h hl hnl hk0
set_option maxRecDepth 20000 in
set_option maxHeartbeats 8000000 in
theorem heldP_own (base n : Nat) (v : Value) (sl : Nat → Value) (nl : Nat → Nat) (k0 : Nat) (w : World) (h : HdP w base v n sl nl k0) (hl : n ≤ 1048576) (hnl : ∀ j, j < n → nl j ≤ 1048576) (hk0 : k0 ≤ 100000000000000) :
  Calls Tryz.prog 62 #[v, .int .i64 (k0 : Int)] w fun e w' => e = .returned (.int .i64 ((stoP nl k0 n : Nat) : Int)) ∧ w' = w := by
 obtain ⟨a, cap, rfl, _⟩ := own_slice h.row
 go_enter Tryz.func62, Tryz.ntmps62
 go_wp2
 go_loopw [1, 5] (fun x i wr => ∃ k : Nat, k ≤ n ∧ i = .int .i64 k ∧ x = .int .i64 ((stoP nl k0 k : Nat) : Int) ∧ wr = w) (fun _ i _ => n - (intOf i).toNat)
 case atStart => exact ⟨0, Nat.zero_le _, rfl, rfl, rfl⟩
 case round =>
  obtain ⟨k, hk, rfl, rfl, rfl⟩ := hrel
  by_cases hlt : k < n
  ·have i0 : (0 : Int) ≤ (k : Int) := by omega
   have i1 : (k : Int) < (n : Int) := by omega
   rcases own_cases h.row with ⟨_, e⟩ | ⟨g, c, e, _⟩
   ·omega
   obtain ⟨rfl, rfl⟩ : a = some ⟨g, 0, none⟩ ∧ cap = c := by simpa using e
   have own := h.nest k hlt
   have hnk := hnl k hlt
   have hst := stoP_le (nl := nl) (k0 := k0) k (fun i hi => hnl i (by omega))
   have hr := h.row
   have d0 := own_at hr (j := k * 6) (by omega)
   rw [mkP_0] at d0
   have d1 := own_at hr (j := k * 6 + 1) (by omega)
   rw [mkP_1] at d1
   have d2 := own_at hr (j := k * 6 + 2) (by omega)
   rw [mkP_2] at d2
   have d3 := own_at hr (j := k * 6 + 3) (by omega)
   rw [mkP_3] at d3
   have d4 := own_at hr (j := k * 6 + 4) (by omega)
   rw [mkP_4] at d4
   have d5 := own_at hr (j := k * 6 + 5) (by omega)
   rw [mkP_5] at d5
   have hK1 : stoP nl k0 (k + 1) = stoP nl k0 k + 5 + nl k := rfl
   obtain ⟨K0, hK0⟩ : ∃ K0, Hid (stoP nl k0 k = K0) := ⟨_, rfl⟩
   rw [hK0.out] at d0 d1 d2 d3 d4 hst hK1 own ⊢
   obtain ⟨sa, cs, es, _⟩ := own_slice own
   rw [es] at d5 own
   clear h hr e es
   go_wp2_with fail
   have e9 : (K0 : Int) + 1 + 1 + 1 + 1 + 1 = ((K0 + 5 : Nat) : Int) := by omega
   rw [e9]
   refine (heldI_own base (nl k) _ (K0 + 5) _ own hnk (by omega)).mono ?_
   rintro e w9 ⟨rfl, hw⟩
   obtain rfl := hw.symm
   have kk0 : ¬ (((K0 + 5 + nl k * 1 : Nat) : Int) < 0) := by omega
   clear d0 d1 d2 d3 d4 d5 own hw e9
   go_wp2
   go_roundw
   case rel => exact ⟨k + 1, by omega, by go_num, by rw [hK1]; exact congrArg (Value.int .i64) (by omega), by simp⟩
   case measure => simp [intOf]; omega
  ·go_wp2
   go_ret
   have e : k = n := by omega
   subst e
   exact ⟨rfl, rfl⟩
def stoO (nl : Nat → Nat) (k0 : Nat) : Nat → Nat
 | 0 => k0
 | j + 1 => stoO nl k0 j + 1 + nl j * 4
theorem stoO_le {nl : Nat → Nat} {k0 : Nat} : ∀ (j : Nat), (∀ i, i < j → nl i ≤ 1048576) → stoO nl k0 j ≤ k0 + j * 4194305
 | 0, _ => by simp [stoO]
 | j + 1, h => by
  have a := stoO_le (k0 := k0) j (fun i hi => h i (by omega))
  have b := h j (by omega)
  rw [stoO]
  omega
def mkO (sl : Nat → Value) (nl : Nat → Nat) (k0 i : Nat) : Value := if i % 2 = 1 then sl (i / 2) else .int .i64 ((stoO nl k0 (i / 2) : Int) + ((i % 2 : Nat) : Int))
theorem mkO_0 (sl : Nat → Value) (nl : Nat → Nat) (k0 k : Nat) : mkO sl nl k0 (k * 2) = .int .i64 ((stoO nl k0 k : Int)) := by
 have e1 : (k * 2) % 2 = 0 := by omega
 have e2 : (k * 2) / 2 = k := by omega
 unfold mkO
 rw [e1, e2, if_neg (by decide)]
 exact congrArg (Value.int .i64) (by omega)
theorem mkO_1 (sl : Nat → Value) (nl : Nat → Nat) (k0 k : Nat) : mkO sl nl k0 (k * 2 + 1) = sl k := by
 have e1 : (k * 2 + 1) % 2 = 1 := by omega
 have e2 : (k * 2 + 1) / 2 = k := by omega
 unfold mkO
 rw [e1, e2, if_pos rfl]
structure OwO (w : World) (base : Nat) (v : Value) (n : Nat) (f : Nat → Value) (sl : Nat → Value) (nl : Nat → Nat) (xs : Nat → List Value) : Prop where
 row : w.ownsRow base 123 2 v n (rv f (n * 2))
 at_ : ∀ j, j < n → f (j * 2 + 1) = sl j
 nest : ∀ j, j < n → w.ownsRow base 96 4 (sl j) (nl j) (xs j)
 apart : ∀ i j, i < n → j < n → i ≠ j → ∀ x, (sl i).ownBlock = some x → (sl j).ownBlock ≠ some x
def bkO (v : Value) (n : Nat) (sl : Nat → Value) (x : Nat) : Prop := v.ownBlock = some x ∨ ∃ j, j < n ∧ (sl j).ownBlock = some x
structure HdO (w : World) (base : Nat) (v : Value) (n : Nat) (sl : Nat → Value) (nl : Nat → Nat) (k0 : Nat) : Prop where
 row : w.ownsRow base 123 2 v n (rv (mkO sl nl k0) (n * 2))
 nest : ∀ j, j < n → w.ownsRow base 96 4 (sl j) (nl j) (rv (mkF (stoO nl k0 j + 1)) (nl j * 4))
theorem OwO.mw {S : Nat → Prop} {w w' : World} {base : Nat} {v : Value} {n : Nat} {f sl : Nat → Value} {nl : Nat → Nat} {xs : Nat → List Value} (h : OwO w base v n f sl nl xs) (k : Mw S w w') (q : ∀ x, bkO v n sl x → ¬ S x) : OwO w' base v n f sl nl xs :=
 ⟨own_mw h.row k fun x e => q x (.inl e), h.at_, fun j hj => own_mw (h.nest j hj) k fun x e => q x (.inr ⟨j, hj, e⟩), h.apart⟩
theorem HdO.mw {S : Nat → Prop} {w w' : World} {base : Nat} {v : Value} {n : Nat} {sl : Nat → Value} {nl : Nat → Nat} {k0 : Nat} (h : HdO w base v n sl nl k0) (k : Mw S w w') (q : ∀ x, bkO v n sl x → ¬ S x) : HdO w' base v n sl nl k0 :=
 ⟨own_mw h.row k fun x e => q x (.inl e), fun j hj => own_mw (h.nest j hj) k fun x e => q x (.inr ⟨j, hj, e⟩)⟩
theorem OwO.below {w w' : World} {base : Nat} {v : Value} {n : Nat} {f sl : Nat → Value} {nl : Nat → Nat} {xs : Nat → List Value} (h : OwO w base v n f sl nl xs) (k : Below w.heap.size w w') : OwO w' base v n f sl nl xs := h.mw (S := fun _ => False) (Mw.of_below k) (fun _ _ => id)
theorem HdO.below {w w' : World} {base : Nat} {v : Value} {n : Nat} {sl : Nat → Value} {nl : Nat → Nat} {k0 : Nat} (h : HdO w base v n sl nl k0) (k : Below w.heap.size w w') : HdO w' base v n sl nl k0 := h.mw (S := fun _ => False) (Mw.of_below k) (fun _ _ => id)
theorem OwO.lo {w : World} {base : Nat} {v : Value} {n : Nat} {f sl : Nat → Value} {nl : Nat → Nat} {xs : Nat → List Value} (h : OwO w base v n f sl nl xs) : ∀ x, bkO v n sl x → base ≤ x ∧ x < w.heap.size := by
 rintro x (q | ⟨j, hj, q⟩)
 ·exact h.row.lt x q
 ·exact (h.nest j hj).lt x q
set_option maxRecDepth 20000 in
set_option maxHeartbeats 8000000 in
theorem markO_at (base g n cap : Nat) (f sl : Nat → Value) (nl : Nat → Nat) (xs : Nat → List Value) (k0 : Nat) (w : World) (h : OwO w base (.slice (some ⟨g, 0, none⟩) n cap) n f sl nl xs) (hl : n ≤ 1048576) (hnl : ∀ j, j < n → nl j ≤ 1048576) (hk0 : k0 ≤ 100000000000000) :
  Calls Tryz.prog 58 #[.slice (some ⟨g, 0, none⟩) n cap, .int .i64 (k0 : Int)] w fun e w' => e = .returned (.int .i64 ((stoO nl k0 n : Nat) : Int)) ∧ HdO w' base (.slice (some ⟨g, 0, none⟩) n cap) n sl nl k0 ∧ Mw (bkO (.slice (some ⟨g, 0, none⟩) n cap) n sl) w w' := by
 go_enter Tryz.func58, Tryz.ntmps58
 go_wp2
 go_loopw [1, 5] (fun x i wr => ∃ k : Nat, k ≤ n ∧ i = .int .i64 k ∧ x = .int .i64 ((stoO nl k0 k : Nat) : Int) ∧ Mw (bkO (.slice (some ⟨g, 0, none⟩) n cap) n sl) w wr ∧ wr.ownsRow base 123 2 (.slice (some ⟨g, 0, none⟩) n cap) n (rv (fun i => if i < k * 2 then mkO sl nl k0 i else f i) (n * 2)) ∧ (∀ j, j < k → wr.ownsRow base 96 4 (sl j) (nl j) (rv (mkF (stoO nl k0 j + 1)) (nl j * 4))) ∧ (∀ j, k ≤ j → j < n → wr.ownsRow base 96 4 (sl j) (nl j) (xs j))) (fun _ i _ => n - (intOf i).toNat)
 case atStart => exact ⟨0, Nat.zero_le _, rfl, rfl, Mw.refl _ _, by simpa using h.row, fun j hj => by omega, fun j _ hj => h.nest j hj⟩
 case round =>
  obtain ⟨k, hk, rfl, rfl, hg, hr, hn1, hn2⟩ := hrel
  by_cases hlt : k < n
  ·have i0 : (0 : Int) ≤ (k : Int) := by omega
   have i1 : (k : Int) < (n : Int) := by omega
   have hsl := h.at_ k hlt
   have hap : ∀ j, j < n → j ≠ k → ∀ x, (sl j).ownBlock = some x → (sl k).ownBlock ≠ some x := fun j hj e => h.apart j k hj hlt e
   have hnk := hnl k hlt
   have hst := stoO_le (nl := nl) (k0 := k0) k (fun i hi => hnl i (by omega))
   have own := hn2 k (Nat.le_refl _) hlt
   have hnw := fun j (hj : k ≤ j) (hj2 : j < n) => (own_apart (hn2 j hj hj2) hr (by decide))
   have hno := fun j (hj : j < k) => (own_apart (hn1 j hj) hr (by decide))
   obtain ⟨K0, hK0⟩ : ∃ K0, Hid (stoO nl k0 k = K0) := ⟨_, rfl⟩
   have hrk := own_at hr (j := k * 2 + 1) (by omega)
   (try dsimp only at hrk)
   rw [if_neg (by omega), hsl] at hrk
   rw [hK0.out] at hst ⊢
   have c0 := own_at hr (j := k * 2) (by omega)
   have f0 := hr.frozenAt (k * 2)
   go_upto_region 5 with fail
   have r0 := own_put hr (k * 2) (.int .i64 ((K0 : Int)))
   have g0 := hg.set (b := g) (o := k * 2) (v := .int .i64 ((K0 : Int))) (.inl rfl)
   have y0 : Mw (fun x => x = g) wr (wr.setCell ⟨g, k * 2, none⟩ (.int .i64 ((K0 : Int)))) := (Mw.refl _ wr).set rfl
   generalize wr.setCell ⟨g, k * 2, none⟩ (.int .i64 ((K0 : Int))) = u0 at *
   clear c0 f0 hg
   have hc := own_at r0 (j := k * 2 + 1) (by omega)
   (try dsimp only at hc)
   rw [if_neg (by omega), if_neg (by omega), hsl] at hc
   clear hrk
   have own' := own_mw own y0 (fun x e q => by subst q; exact hnw k (Nat.le_refl _) hlt x e rfl)
   clear own
   obtain ⟨sa, cs, es, _⟩ := own_slice own'
   rw [es] at hc
   have own2 := own'
   rw [es] at own2
   obtain ⟨fx, hfx⟩ : ∃ fx : Nat → Value, xs k = rv fx (nl k * 4) := ⟨fun i => (xs k).getD i (.int .i64 0), rv_ext own'.1 (fun j hj => by rw [List.getD_eq_getElem?_getD]; rw [List.getElem?_eq_getElem (by rw [own'.1]; exact hj)]; rfl)⟩
   rw [hfx] at own2
   go_wp2_with fail
   have e9 : (K0 : Int) + 1 = ((K0 + 1 : Nat) : Int) := by omega
   rw [e9]
   refine (markF_own base (nl k) _ fx (K0 + 1) _ own2 hnk (by omega)).mono ?_
   rintro e w9 ⟨rfl, om, gm⟩
   rw [← es] at om gm
   have hK1 : stoO nl k0 (k + 1) = K0 + 1 + nl k * 4 := by rw [stoO, hK0.out]
   have mm : Mw (fun x => (sl k).ownBlock = some x) u0 w9 := Mw.grown gm (fun _ e => e)
   have z1 : w9.ownsRow base 123 2 (.slice (some ⟨g, 0, none⟩) n cap) n (rv (fun i => if i < (k + 1) * 2 then mkO sl nl k0 i else f i) (n * 2)) := by
    have q := own_mw r0 mm (fun x e q => by
     have := own_apart own' r0 (by decide) x q
     exact this e)
    rw [rv_congr (g := fun i => if i < (k + 1) * 2 then mkO sl nl k0 i else f i) (fun i _ => ?cg)] at q
    ·exact q
    case cg =>
     (try dsimp only)
     have hq : i < k * 2 ∨ i = k * 2 ∨ i = k * 2 + 1 ∨ k * 2 + 2 ≤ i := by omega
     rcases hq with q | q | q | q
     ·rw [if_neg (by omega), if_pos q, if_pos (by omega)]
     ·subst q
      rw [if_pos rfl, if_pos (by omega), mkO_0, hK0.out]
     ·subst q
      rw [if_neg (by omega), if_neg (by omega), if_pos (by omega), mkO_1, hsl]
     ·rw [if_neg (by omega), if_neg (by omega), if_neg (by omega)]
   have z2 : ∀ j, j < k + 1 → w9.ownsRow base 96 4 (sl j) (nl j) (rv (mkF (stoO nl k0 j + 1)) (nl j * 4)) := fun j hj => by
    by_cases e : j = k
    ·subst e
     rw [hK0.out]
     exact om
    ·exact own_mw (own_mw (hn1 j (by omega)) y0 (fun x e q => by subst q; exact hno j (by omega) x e rfl)) mm (fun x e' q => hap j (by omega) e x e' q)
   have z3 : ∀ j, k + 1 ≤ j → j < n → w9.ownsRow base 96 4 (sl j) (nl j) (xs j) := fun j hj hj2 =>
    own_mw (own_mw (hn2 j (by omega) hj2) y0 (fun x e q => by subst q; exact hnw j (by omega) hj2 x e rfl)) mm (fun x e' q => hap j hj2 (by omega) x e' q)
   have z4 := g0.trans (mm.mono (fun x e => .inr ⟨k, hlt, e⟩))
   clear own' own2 hn1 hn2 hnw hno r0 y0 g0 om gm mm hc hfx hap e9
   go_wp2
   go_roundw
   case rel => exact ⟨k + 1, by omega, by go_num, by rw [hK1]; exact congrArg (Value.int .i64) (by omega), z4, z1, z2, z3⟩
   case measure => simp [intOf]; omega
  ·go_wp2
   go_ret
   have e : k = n := by omega
   subst e
   rw [rv_congr (g := mkO sl nl k0) (fun i hi => if_pos (by omega))] at hr
   exact ⟨rfl, ⟨hr, hn1⟩, hg⟩
theorem markO_nil (k0 : Nat) (w : World) :
  Calls Tryz.prog 58 #[.slice none 0 0, .int .i64 (k0 : Int)] w fun e w' => e = .returned (.int .i64 (k0 : Int)) ∧ w' = w := by
 go_enter Tryz.func58, Tryz.ntmps58
 go_wp2
 refine wp_loop_rounds 1 ?_
 rw [rounds_succ]
 go_wp2
 go_ret
 exact ⟨rfl, rfl⟩
theorem markO_own (base n : Nat) (v : Value) (f sl : Nat → Value) (nl : Nat → Nat) (xs : Nat → List Value) (k0 : Nat) (w : World) (h : OwO w base v n f sl nl xs) (hl : n ≤ 1048576) (hnl : ∀ j, j < n → nl j ≤ 1048576) (hk0 : k0 ≤ 100000000000000) :
  Calls Tryz.prog 58 #[v, .int .i64 (k0 : Int)] w fun e w' => e = .returned (.int .i64 ((stoO nl k0 n : Nat) : Int)) ∧ HdO w' base v n sl nl k0 ∧ Mw (bkO v n sl) w w' := by
 rcases own_cases h.row with ⟨rfl, rfl⟩ | ⟨g, c, rfl, _⟩
 ·exact (markO_nil k0 w).mono (by rintro r w' ⟨rfl, rfl⟩; exact ⟨rfl, ⟨World.ownsRow_nil w' base 123 2, fun j hj => by omega⟩, Mw.refl _ _⟩)
 ·exact markO_at base g n c f sl nl xs k0 w h hl hnl hk0
set_option maxRecDepth 20000 in
set_option maxHeartbeats 8000000 in
theorem heldO_own (base n : Nat) (v : Value) (sl : Nat → Value) (nl : Nat → Nat) (k0 : Nat) (w : World) (h : HdO w base v n sl nl k0) (hl : n ≤ 1048576) (hnl : ∀ j, j < n → nl j ≤ 1048576) (hk0 : k0 ≤ 100000000000000) :
  Calls Tryz.prog 63 #[v, .int .i64 (k0 : Int)] w fun e w' => e = .returned (.int .i64 ((stoO nl k0 n : Nat) : Int)) ∧ w' = w := by
 obtain ⟨a, cap, rfl, _⟩ := own_slice h.row
 go_enter Tryz.func63, Tryz.ntmps63
 go_wp2
 go_loopw [1, 5] (fun x i wr => ∃ k : Nat, k ≤ n ∧ i = .int .i64 k ∧ x = .int .i64 ((stoO nl k0 k : Nat) : Int) ∧ wr = w) (fun _ i _ => n - (intOf i).toNat)
 case atStart => exact ⟨0, Nat.zero_le _, rfl, rfl, rfl⟩
 case round =>
  obtain ⟨k, hk, rfl, rfl, rfl⟩ := hrel
  by_cases hlt : k < n
  ·have i0 : (0 : Int) ≤ (k : Int) := by omega
   have i1 : (k : Int) < (n : Int) := by omega
   rcases own_cases h.row with ⟨_, e⟩ | ⟨g, c, e, _⟩
   ·omega
   obtain ⟨rfl, rfl⟩ : a = some ⟨g, 0, none⟩ ∧ cap = c := by simpa using e
   have own := h.nest k hlt
   have hnk := hnl k hlt
   have hst := stoO_le (nl := nl) (k0 := k0) k (fun i hi => hnl i (by omega))
   have hr := h.row
   have d0 := own_at hr (j := k * 2) (by omega)
   rw [mkO_0] at d0
   have d1 := own_at hr (j := k * 2 + 1) (by omega)
   rw [mkO_1] at d1
   have hK1 : stoO nl k0 (k + 1) = stoO nl k0 k + 1 + nl k * 4 := rfl
   obtain ⟨K0, hK0⟩ : ∃ K0, Hid (stoO nl k0 k = K0) := ⟨_, rfl⟩
   rw [hK0.out] at d0 hst hK1 own ⊢
   obtain ⟨sa, cs, es, _⟩ := own_slice own
   rw [es] at d1 own
   clear h hr e es
   go_wp2_with fail
   have e9 : (K0 : Int) + 1 = ((K0 + 1 : Nat) : Int) := by omega
   rw [e9]
   refine (heldF_own base (nl k) _ (K0 + 1) _ own hnk (by omega)).mono ?_
   rintro e w9 ⟨rfl, hw⟩
   obtain rfl := hw.symm
   have kk0 : ¬ (((K0 + 1 + nl k * 4 : Nat) : Int) < 0) := by omega
   clear d0 d1 own hw e9
   go_wp2
   go_roundw
   case rel => exact ⟨k + 1, by omega, by go_num, by rw [hK1]; exact congrArg (Value.int .i64) (by omega), by simp⟩
   case measure => simp [intOf]; omega
  ·go_wp2
   go_ret
   have e : k = n := by omega
   subst e
   exact ⟨rfl, rfl⟩
def stoW (nl : Nat → Nat) (k0 : Nat) : Nat → Nat
 | 0 => k0
 | j + 1 => stoW nl k0 j + 10 + nl j * 4
theorem stoW_le {nl : Nat → Nat} {k0 : Nat} : ∀ (j : Nat), (∀ i, i < j → nl i ≤ 1048576) → stoW nl k0 j ≤ k0 + j * 4194314
 | 0, _ => by simp [stoW]
 | j + 1, h => by
  have a := stoW_le (k0 := k0) j (fun i hi => h i (by omega))
  have b := h j (by omega)
  rw [stoW]
  omega
def mkW (sl : Nat → Value) (nl : Nat → Nat) (k0 i : Nat) : Value := if i % 11 = 10 then sl (i / 11) else .int .i64 ((stoW nl k0 (i / 11) : Int) + ((i % 11 : Nat) : Int))
theorem mkW_0 (sl : Nat → Value) (nl : Nat → Nat) (k0 k : Nat) : mkW sl nl k0 (k * 11) = .int .i64 ((stoW nl k0 k : Int)) := by
 have e1 : (k * 11) % 11 = 0 := by omega
 have e2 : (k * 11) / 11 = k := by omega
 unfold mkW
 rw [e1, e2, if_neg (by decide)]
 exact congrArg (Value.int .i64) (by omega)
theorem mkW_1 (sl : Nat → Value) (nl : Nat → Nat) (k0 k : Nat) : mkW sl nl k0 (k * 11 + 1) = .int .i64 ((stoW nl k0 k : Int) + 1) := by
 have e1 : (k * 11 + 1) % 11 = 1 := by omega
 have e2 : (k * 11 + 1) / 11 = k := by omega
 unfold mkW
 rw [e1, e2, if_neg (by decide)]
 exact congrArg (Value.int .i64) (by omega)
theorem mkW_2 (sl : Nat → Value) (nl : Nat → Nat) (k0 k : Nat) : mkW sl nl k0 (k * 11 + 2) = .int .i64 ((stoW nl k0 k : Int) + 1 + 1) := by
 have e1 : (k * 11 + 2) % 11 = 2 := by omega
 have e2 : (k * 11 + 2) / 11 = k := by omega
 unfold mkW
 rw [e1, e2, if_neg (by decide)]
 exact congrArg (Value.int .i64) (by omega)
theorem mkW_3 (sl : Nat → Value) (nl : Nat → Nat) (k0 k : Nat) : mkW sl nl k0 (k * 11 + 3) = .int .i64 ((stoW nl k0 k : Int) + 1 + 1 + 1) := by
 have e1 : (k * 11 + 3) % 11 = 3 := by omega
 have e2 : (k * 11 + 3) / 11 = k := by omega
 unfold mkW
 rw [e1, e2, if_neg (by decide)]
 exact congrArg (Value.int .i64) (by omega)
theorem mkW_4 (sl : Nat → Value) (nl : Nat → Nat) (k0 k : Nat) : mkW sl nl k0 (k * 11 + 4) = .int .i64 ((stoW nl k0 k : Int) + 1 + 1 + 1 + 1) := by
 have e1 : (k * 11 + 4) % 11 = 4 := by omega
 have e2 : (k * 11 + 4) / 11 = k := by omega
 unfold mkW
 rw [e1, e2, if_neg (by decide)]
 exact congrArg (Value.int .i64) (by omega)
theorem mkW_5 (sl : Nat → Value) (nl : Nat → Nat) (k0 k : Nat) : mkW sl nl k0 (k * 11 + 5) = .int .i64 ((stoW nl k0 k : Int) + 1 + 1 + 1 + 1 + 1) := by
 have e1 : (k * 11 + 5) % 11 = 5 := by omega
 have e2 : (k * 11 + 5) / 11 = k := by omega
 unfold mkW
 rw [e1, e2, if_neg (by decide)]
 exact congrArg (Value.int .i64) (by omega)
theorem mkW_6 (sl : Nat → Value) (nl : Nat → Nat) (k0 k : Nat) : mkW sl nl k0 (k * 11 + 6) = .int .i64 ((stoW nl k0 k : Int) + 1 + 1 + 1 + 1 + 1 + 1) := by
 have e1 : (k * 11 + 6) % 11 = 6 := by omega
 have e2 : (k * 11 + 6) / 11 = k := by omega
 unfold mkW
 rw [e1, e2, if_neg (by decide)]
 exact congrArg (Value.int .i64) (by omega)
theorem mkW_7 (sl : Nat → Value) (nl : Nat → Nat) (k0 k : Nat) : mkW sl nl k0 (k * 11 + 7) = .int .i64 ((stoW nl k0 k : Int) + 1 + 1 + 1 + 1 + 1 + 1 + 1) := by
 have e1 : (k * 11 + 7) % 11 = 7 := by omega
 have e2 : (k * 11 + 7) / 11 = k := by omega
 unfold mkW
 rw [e1, e2, if_neg (by decide)]
 exact congrArg (Value.int .i64) (by omega)
theorem mkW_8 (sl : Nat → Value) (nl : Nat → Nat) (k0 k : Nat) : mkW sl nl k0 (k * 11 + 8) = .int .i64 ((stoW nl k0 k : Int) + 1 + 1 + 1 + 1 + 1 + 1 + 1 + 1) := by
 have e1 : (k * 11 + 8) % 11 = 8 := by omega
 have e2 : (k * 11 + 8) / 11 = k := by omega
 unfold mkW
 rw [e1, e2, if_neg (by decide)]
 exact congrArg (Value.int .i64) (by omega)
theorem mkW_9 (sl : Nat → Value) (nl : Nat → Nat) (k0 k : Nat) : mkW sl nl k0 (k * 11 + 9) = .int .i64 ((stoW nl k0 k : Int) + 1 + 1 + 1 + 1 + 1 + 1 + 1 + 1 + 1) := by
 have e1 : (k * 11 + 9) % 11 = 9 := by omega
 have e2 : (k * 11 + 9) / 11 = k := by omega
 unfold mkW
 rw [e1, e2, if_neg (by decide)]
 exact congrArg (Value.int .i64) (by omega)
theorem mkW_10 (sl : Nat → Value) (nl : Nat → Nat) (k0 k : Nat) : mkW sl nl k0 (k * 11 + 10) = sl k := by
 have e1 : (k * 11 + 10) % 11 = 10 := by omega
 have e2 : (k * 11 + 10) / 11 = k := by omega
 unfold mkW
 rw [e1, e2, if_pos rfl]
structure OwW (w : World) (base : Nat) (v : Value) (n : Nat) (f : Nat → Value) (sl : Nat → Value) (nl : Nat → Nat) (xs : Nat → List Value) : Prop where
 row : w.ownsRow base 88 11 v n (rv f (n * 11))
 at_ : ∀ j, j < n → f (j * 11 + 10) = sl j
 nest : ∀ j, j < n → w.ownsRow base 96 4 (sl j) (nl j) (xs j)
 apart : ∀ i j, i < n → j < n → i ≠ j → ∀ x, (sl i).ownBlock = some x → (sl j).ownBlock ≠ some x
def bkW (v : Value) (n : Nat) (sl : Nat → Value) (x : Nat) : Prop := v.ownBlock = some x ∨ ∃ j, j < n ∧ (sl j).ownBlock = some x
structure HdW (w : World) (base : Nat) (v : Value) (n : Nat) (sl : Nat → Value) (nl : Nat → Nat) (k0 : Nat) : Prop where
 row : w.ownsRow base 88 11 v n (rv (mkW sl nl k0) (n * 11))
 nest : ∀ j, j < n → w.ownsRow base 96 4 (sl j) (nl j) (rv (mkF (stoW nl k0 j + 10)) (nl j * 4))
theorem OwW.mw {S : Nat → Prop} {w w' : World} {base : Nat} {v : Value} {n : Nat} {f sl : Nat → Value} {nl : Nat → Nat} {xs : Nat → List Value} (h : OwW w base v n f sl nl xs) (k : Mw S w w') (q : ∀ x, bkW v n sl x → ¬ S x) : OwW w' base v n f sl nl xs :=
 ⟨own_mw h.row k fun x e => q x (.inl e), h.at_, fun j hj => own_mw (h.nest j hj) k fun x e => q x (.inr ⟨j, hj, e⟩), h.apart⟩
theorem HdW.mw {S : Nat → Prop} {w w' : World} {base : Nat} {v : Value} {n : Nat} {sl : Nat → Value} {nl : Nat → Nat} {k0 : Nat} (h : HdW w base v n sl nl k0) (k : Mw S w w') (q : ∀ x, bkW v n sl x → ¬ S x) : HdW w' base v n sl nl k0 :=
 ⟨own_mw h.row k fun x e => q x (.inl e), fun j hj => own_mw (h.nest j hj) k fun x e => q x (.inr ⟨j, hj, e⟩)⟩
theorem OwW.below {w w' : World} {base : Nat} {v : Value} {n : Nat} {f sl : Nat → Value} {nl : Nat → Nat} {xs : Nat → List Value} (h : OwW w base v n f sl nl xs) (k : Below w.heap.size w w') : OwW w' base v n f sl nl xs := h.mw (S := fun _ => False) (Mw.of_below k) (fun _ _ => id)
theorem HdW.below {w w' : World} {base : Nat} {v : Value} {n : Nat} {sl : Nat → Value} {nl : Nat → Nat} {k0 : Nat} (h : HdW w base v n sl nl k0) (k : Below w.heap.size w w') : HdW w' base v n sl nl k0 := h.mw (S := fun _ => False) (Mw.of_below k) (fun _ _ => id)
theorem OwW.lo {w : World} {base : Nat} {v : Value} {n : Nat} {f sl : Nat → Value} {nl : Nat → Nat} {xs : Nat → List Value} (h : OwW w base v n f sl nl xs) : ∀ x, bkW v n sl x → base ≤ x ∧ x < w.heap.size := by
 rintro x (q | ⟨j, hj, q⟩)
 ·exact h.row.lt x q
 ·exact (h.nest j hj).lt x q
set_option maxRecDepth 20000 in
set_option maxHeartbeats 8000000 in
theorem markW_at (base g n cap : Nat) (f sl : Nat → Value) (nl : Nat → Nat) (xs : Nat → List Value) (k0 : Nat) (w : World) (h : OwW w base (.slice (some ⟨g, 0, none⟩) n cap) n f sl nl xs) (hl : n ≤ 1048576) (hnl : ∀ j, j < n → nl j ≤ 1048576) (hk0 : k0 ≤ 100000000000000) :
  Calls Tryz.prog 13 #[.slice (some ⟨g, 0, none⟩) n cap, .int .i64 (k0 : Int)] w fun e w' => e = .returned (.int .i64 ((stoW nl k0 n : Nat) : Int)) ∧ HdW w' base (.slice (some ⟨g, 0, none⟩) n cap) n sl nl k0 ∧ Mw (bkW (.slice (some ⟨g, 0, none⟩) n cap) n sl) w w' := by
 go_enter Tryz.func13, Tryz.ntmps13
 go_wp2
 go_loopw [1, 5] (fun x i wr => ∃ k : Nat, k ≤ n ∧ i = .int .i64 k ∧ x = .int .i64 ((stoW nl k0 k : Nat) : Int) ∧ Mw (bkW (.slice (some ⟨g, 0, none⟩) n cap) n sl) w wr ∧ wr.ownsRow base 88 11 (.slice (some ⟨g, 0, none⟩) n cap) n (rv (fun i => if i < k * 11 then mkW sl nl k0 i else f i) (n * 11)) ∧ (∀ j, j < k → wr.ownsRow base 96 4 (sl j) (nl j) (rv (mkF (stoW nl k0 j + 10)) (nl j * 4))) ∧ (∀ j, k ≤ j → j < n → wr.ownsRow base 96 4 (sl j) (nl j) (xs j))) (fun _ i _ => n - (intOf i).toNat)
 case atStart => exact ⟨0, Nat.zero_le _, rfl, rfl, Mw.refl _ _, by simpa using h.row, fun j hj => by omega, fun j _ hj => h.nest j hj⟩
 case round =>
  obtain ⟨k, hk, rfl, rfl, hg, hr, hn1, hn2⟩ := hrel
  by_cases hlt : k < n
  ·have i0 : (0 : Int) ≤ (k : Int) := by omega
   have i1 : (k : Int) < (n : Int) := by omega
   have hsl := h.at_ k hlt
   have hap : ∀ j, j < n → j ≠ k → ∀ x, (sl j).ownBlock = some x → (sl k).ownBlock ≠ some x := fun j hj e => h.apart j k hj hlt e
   have hnk := hnl k hlt
   have hst := stoW_le (nl := nl) (k0 := k0) k (fun i hi => hnl i (by omega))
   have own := hn2 k (Nat.le_refl _) hlt
   have hnw := fun j (hj : k ≤ j) (hj2 : j < n) => (own_apart (hn2 j hj hj2) hr (by decide))
   have hno := fun j (hj : j < k) => (own_apart (hn1 j hj) hr (by decide))
   obtain ⟨K0, hK0⟩ : ∃ K0, Hid (stoW nl k0 k = K0) := ⟨_, rfl⟩
   have hrk := own_at hr (j := k * 11 + 10) (by omega)
   (try dsimp only at hrk)
   rw [if_neg (by omega), hsl] at hrk
   rw [hK0.out] at hst ⊢
   have c0 := own_at hr (j := k * 11) (by omega)
   have f0 := hr.frozenAt (k * 11)
   go_upto_region 5 with fail
   have r0 := own_put hr (k * 11) (.int .i64 ((K0 : Int)))
   have g0 := hg.set (b := g) (o := k * 11) (v := .int .i64 ((K0 : Int))) (.inl rfl)
   have y0 : Mw (fun x => x = g) wr (wr.setCell ⟨g, k * 11, none⟩ (.int .i64 ((K0 : Int)))) := (Mw.refl _ wr).set rfl
   generalize wr.setCell ⟨g, k * 11, none⟩ (.int .i64 ((K0 : Int))) = u0 at *
   clear c0 f0 hg
   have c1 := own_at r0 (j := k * 11 + 1) (by omega)
   have f1 := r0.frozenAt (k * 11 + 1)
   go_upto_region 7 with fail
   have r1 := own_put r0 (k * 11 + 1) (.int .i64 ((K0 : Int) + 1))
   have g1 := g0.set (b := g) (o := k * 11 + 1) (v := .int .i64 ((K0 : Int) + 1)) (.inl rfl)
   have y1 : Mw (fun x => x = g) wr (u0.setCell ⟨g, k * 11 + 1, none⟩ (.int .i64 ((K0 : Int) + 1))) := y0.set rfl
   generalize u0.setCell ⟨g, k * 11 + 1, none⟩ (.int .i64 ((K0 : Int) + 1)) = u1 at *
   clear c1 f1 r0 g0 y0
   have c2 := own_at r1 (j := k * 11 + 2) (by omega)
   have f2 := r1.frozenAt (k * 11 + 2)
   go_upto_region 9 with fail
   have r2 := own_put r1 (k * 11 + 2) (.int .i64 ((K0 : Int) + 1 + 1))
   have g2 := g1.set (b := g) (o := k * 11 + 2) (v := .int .i64 ((K0 : Int) + 1 + 1)) (.inl rfl)
   have y2 : Mw (fun x => x = g) wr (u1.setCell ⟨g, k * 11 + 2, none⟩ (.int .i64 ((K0 : Int) + 1 + 1))) := y1.set rfl
   generalize u1.setCell ⟨g, k * 11 + 2, none⟩ (.int .i64 ((K0 : Int) + 1 + 1)) = u2 at *
   clear c2 f2 r1 g1 y1
   have c3 := own_at r2 (j := k * 11 + 3) (by omega)
   have f3 := r2.frozenAt (k * 11 + 3)
   go_upto_region 11 with fail
   have r3 := own_put r2 (k * 11 + 3) (.int .i64 ((K0 : Int) + 1 + 1 + 1))
   have g3 := g2.set (b := g) (o := k * 11 + 3) (v := .int .i64 ((K0 : Int) + 1 + 1 + 1)) (.inl rfl)
   have y3 : Mw (fun x => x = g) wr (u2.setCell ⟨g, k * 11 + 3, none⟩ (.int .i64 ((K0 : Int) + 1 + 1 + 1))) := y2.set rfl
   generalize u2.setCell ⟨g, k * 11 + 3, none⟩ (.int .i64 ((K0 : Int) + 1 + 1 + 1)) = u3 at *
   clear c3 f3 r2 g2 y2
   have c4 := own_at r3 (j := k * 11 + 4) (by omega)
   have f4 := r3.frozenAt (k * 11 + 4)
   go_upto_region 13 with fail
   have r4 := own_put r3 (k * 11 + 4) (.int .i64 ((K0 : Int) + 1 + 1 + 1 + 1))
   have g4 := g3.set (b := g) (o := k * 11 + 4) (v := .int .i64 ((K0 : Int) + 1 + 1 + 1 + 1)) (.inl rfl)
   have y4 : Mw (fun x => x = g) wr (u3.setCell ⟨g, k * 11 + 4, none⟩ (.int .i64 ((K0 : Int) + 1 + 1 + 1 + 1))) := y3.set rfl
   generalize u3.setCell ⟨g, k * 11 + 4, none⟩ (.int .i64 ((K0 : Int) + 1 + 1 + 1 + 1)) = u4 at *
   clear c4 f4 r3 g3 y3
   have c5 := own_at r4 (j := k * 11 + 5) (by omega)
   have f5 := r4.frozenAt (k * 11 + 5)
   go_upto_region 15 with fail
   have r5 := own_put r4 (k * 11 + 5) (.int .i64 ((K0 : Int) + 1 + 1 + 1 + 1 + 1))
   have g5 := g4.set (b := g) (o := k * 11 + 5) (v := .int .i64 ((K0 : Int) + 1 + 1 + 1 + 1 + 1)) (.inl rfl)
   have y5 : Mw (fun x => x = g) wr (u4.setCell ⟨g, k * 11 + 5, none⟩ (.int .i64 ((K0 : Int) + 1 + 1 + 1 + 1 + 1))) := y4.set rfl
   generalize u4.setCell ⟨g, k * 11 + 5, none⟩ (.int .i64 ((K0 : Int) + 1 + 1 + 1 + 1 + 1)) = u5 at *
   clear c5 f5 r4 g4 y4
   have c6 := own_at r5 (j := k * 11 + 6) (by omega)
   have f6 := r5.frozenAt (k * 11 + 6)
   go_upto_region 17 with fail
   have r6 := own_put r5 (k * 11 + 6) (.int .i64 ((K0 : Int) + 1 + 1 + 1 + 1 + 1 + 1))
   have g6 := g5.set (b := g) (o := k * 11 + 6) (v := .int .i64 ((K0 : Int) + 1 + 1 + 1 + 1 + 1 + 1)) (.inl rfl)
   have y6 : Mw (fun x => x = g) wr (u5.setCell ⟨g, k * 11 + 6, none⟩ (.int .i64 ((K0 : Int) + 1 + 1 + 1 + 1 + 1 + 1))) := y5.set rfl
   generalize u5.setCell ⟨g, k * 11 + 6, none⟩ (.int .i64 ((K0 : Int) + 1 + 1 + 1 + 1 + 1 + 1)) = u6 at *
   clear c6 f6 r5 g5 y5
   have c7 := own_at r6 (j := k * 11 + 7) (by omega)
   have f7 := r6.frozenAt (k * 11 + 7)
   go_upto_region 19 with fail
   have r7 := own_put r6 (k * 11 + 7) (.int .i64 ((K0 : Int) + 1 + 1 + 1 + 1 + 1 + 1 + 1))
   have g7 := g6.set (b := g) (o := k * 11 + 7) (v := .int .i64 ((K0 : Int) + 1 + 1 + 1 + 1 + 1 + 1 + 1)) (.inl rfl)
   have y7 : Mw (fun x => x = g) wr (u6.setCell ⟨g, k * 11 + 7, none⟩ (.int .i64 ((K0 : Int) + 1 + 1 + 1 + 1 + 1 + 1 + 1))) := y6.set rfl
   generalize u6.setCell ⟨g, k * 11 + 7, none⟩ (.int .i64 ((K0 : Int) + 1 + 1 + 1 + 1 + 1 + 1 + 1)) = u7 at *
   clear c7 f7 r6 g6 y6
   have c8 := own_at r7 (j := k * 11 + 8) (by omega)
   have f8 := r7.frozenAt (k * 11 + 8)
   go_upto_region 21 with fail
   have r8 := own_put r7 (k * 11 + 8) (.int .i64 ((K0 : Int) + 1 + 1 + 1 + 1 + 1 + 1 + 1 + 1))
   have g8 := g7.set (b := g) (o := k * 11 + 8) (v := .int .i64 ((K0 : Int) + 1 + 1 + 1 + 1 + 1 + 1 + 1 + 1)) (.inl rfl)
   have y8 : Mw (fun x => x = g) wr (u7.setCell ⟨g, k * 11 + 8, none⟩ (.int .i64 ((K0 : Int) + 1 + 1 + 1 + 1 + 1 + 1 + 1 + 1))) := y7.set rfl
   generalize u7.setCell ⟨g, k * 11 + 8, none⟩ (.int .i64 ((K0 : Int) + 1 + 1 + 1 + 1 + 1 + 1 + 1 + 1)) = u8 at *
   clear c8 f8 r7 g7 y7
   have c9 := own_at r8 (j := k * 11 + 9) (by omega)
   have f9 := r8.frozenAt (k * 11 + 9)
   go_upto_region 23 with fail
   have r9 := own_put r8 (k * 11 + 9) (.int .i64 ((K0 : Int) + 1 + 1 + 1 + 1 + 1 + 1 + 1 + 1 + 1))
   have g9 := g8.set (b := g) (o := k * 11 + 9) (v := .int .i64 ((K0 : Int) + 1 + 1 + 1 + 1 + 1 + 1 + 1 + 1 + 1)) (.inl rfl)
   have y9 : Mw (fun x => x = g) wr (u8.setCell ⟨g, k * 11 + 9, none⟩ (.int .i64 ((K0 : Int) + 1 + 1 + 1 + 1 + 1 + 1 + 1 + 1 + 1))) := y8.set rfl
   generalize u8.setCell ⟨g, k * 11 + 9, none⟩ (.int .i64 ((K0 : Int) + 1 + 1 + 1 + 1 + 1 + 1 + 1 + 1 + 1)) = u9 at *
   clear c9 f9 r8 g8 y8
   have hc := own_at r9 (j := k * 11 + 10) (by omega)
   (try dsimp only at hc)
   rw [if_neg (by omega), if_neg (by omega), if_neg (by omega), if_neg (by omega), if_neg (by omega), if_neg (by omega), if_neg (by omega), if_neg (by omega), if_neg (by omega), if_neg (by omega), if_neg (by omega), hsl] at hc
   clear hrk
   have own' := own_mw own y9 (fun x e q => by subst q; exact hnw k (Nat.le_refl _) hlt x e rfl)
   clear own
   obtain ⟨sa, cs, es, _⟩ := own_slice own'
   rw [es] at hc
   have own2 := own'
   rw [es] at own2
   obtain ⟨fx, hfx⟩ : ∃ fx : Nat → Value, xs k = rv fx (nl k * 4) := ⟨fun i => (xs k).getD i (.int .i64 0), rv_ext own'.1 (fun j hj => by rw [List.getD_eq_getElem?_getD]; rw [List.getElem?_eq_getElem (by rw [own'.1]; exact hj)]; rfl)⟩
   rw [hfx] at own2
   go_wp2_with fail
   have e9 : (K0 : Int) + 1 + 1 + 1 + 1 + 1 + 1 + 1 + 1 + 1 + 1 = ((K0 + 10 : Nat) : Int) := by omega
   rw [e9]
   refine (markF_own base (nl k) _ fx (K0 + 10) _ own2 hnk (by omega)).mono ?_
   rintro e w9 ⟨rfl, om, gm⟩
   rw [← es] at om gm
   have hK1 : stoW nl k0 (k + 1) = K0 + 10 + nl k * 4 := by rw [stoW, hK0.out]
   have mm : Mw (fun x => (sl k).ownBlock = some x) u9 w9 := Mw.grown gm (fun _ e => e)
   have z1 : w9.ownsRow base 88 11 (.slice (some ⟨g, 0, none⟩) n cap) n (rv (fun i => if i < (k + 1) * 11 then mkW sl nl k0 i else f i) (n * 11)) := by
    have q := own_mw r9 mm (fun x e q => by
     have := own_apart own' r9 (by decide) x q
     exact this e)
    rw [rv_congr (g := fun i => if i < (k + 1) * 11 then mkW sl nl k0 i else f i) (fun i _ => ?cg)] at q
    ·exact q
    case cg =>
     (try dsimp only)
     have hq : i < k * 11 ∨ i = k * 11 ∨ i = k * 11 + 1 ∨ i = k * 11 + 2 ∨ i = k * 11 + 3 ∨ i = k * 11 + 4 ∨ i = k * 11 + 5 ∨ i = k * 11 + 6 ∨ i = k * 11 + 7 ∨ i = k * 11 + 8 ∨ i = k * 11 + 9 ∨ i = k * 11 + 10 ∨ k * 11 + 11 ≤ i := by omega
     rcases hq with q | q | q | q | q | q | q | q | q | q | q | q | q
     ·rw [if_neg (by omega), if_neg (by omega), if_neg (by omega), if_neg (by omega), if_neg (by omega), if_neg (by omega), if_neg (by omega), if_neg (by omega), if_neg (by omega), if_neg (by omega), if_pos q, if_pos (by omega)]
     ·subst q
      rw [if_neg (by omega), if_neg (by omega), if_neg (by omega), if_neg (by omega), if_neg (by omega), if_neg (by omega), if_neg (by omega), if_neg (by omega), if_neg (by omega), if_pos rfl, if_pos (by omega), mkW_0, hK0.out]
     ·subst q
      rw [if_neg (by omega), if_neg (by omega), if_neg (by omega), if_neg (by omega), if_neg (by omega), if_neg (by omega), if_neg (by omega), if_neg (by omega), if_pos rfl, if_pos (by omega), mkW_1, hK0.out]
     ·subst q
      rw [if_neg (by omega), if_neg (by omega), if_neg (by omega), if_neg (by omega), if_neg (by omega), if_neg (by omega), if_neg (by omega), if_pos rfl, if_pos (by omega), mkW_2, hK0.out]
     ·subst q
      rw [if_neg (by omega), if_neg (by omega), if_neg (by omega), if_neg (by omega), if_neg (by omega), if_neg (by omega), if_pos rfl, if_pos (by omega), mkW_3, hK0.out]
     ·subst q
      rw [if_neg (by omega), if_neg (by omega), if_neg (by omega), if_neg (by omega), if_neg (by omega), if_pos rfl, if_pos (by omega), mkW_4, hK0.out]
     ·subst q
      rw [if_neg (by omega), if_neg (by omega), if_neg (by omega), if_neg (by omega), if_pos rfl, if_pos (by omega), mkW_5, hK0.out]
     ·subst q
      rw [if_neg (by omega), if_neg (by omega), if_neg (by omega), if_pos rfl, if_pos (by omega), mkW_6, hK0.out]
     ·subst q
      rw [if_neg (by omega), if_neg (by omega), if_pos rfl, if_pos (by omega), mkW_7, hK0.out]
     ·subst q
      rw [if_neg (by omega), if_pos rfl, if_pos (by omega), mkW_8, hK0.out]
     ·subst q
      rw [if_pos rfl, if_pos (by omega), mkW_9, hK0.out]
     ·subst q
      rw [if_neg (by omega), if_neg (by omega), if_neg (by omega), if_neg (by omega), if_neg (by omega), if_neg (by omega), if_neg (by omega), if_neg (by omega), if_neg (by omega), if_neg (by omega), if_neg (by omega), if_pos (by omega), mkW_10, hsl]
     ·rw [if_neg (by omega), if_neg (by omega), if_neg (by omega), if_neg (by omega), if_neg (by omega), if_neg (by omega), if_neg (by omega), if_neg (by omega), if_neg (by omega), if_neg (by omega), if_neg (by omega), if_neg (by omega)]
   have z2 : ∀ j, j < k + 1 → w9.ownsRow base 96 4 (sl j) (nl j) (rv (mkF (stoW nl k0 j + 10)) (nl j * 4)) := fun j hj => by
    by_cases e : j = k
    ·subst e
     rw [hK0.out]
     exact om
    ·exact own_mw (own_mw (hn1 j (by omega)) y9 (fun x e q => by subst q; exact hno j (by omega) x e rfl)) mm (fun x e' q => hap j (by omega) e x e' q)
   have z3 : ∀ j, k + 1 ≤ j → j < n → w9.ownsRow base 96 4 (sl j) (nl j) (xs j) := fun j hj hj2 =>
    own_mw (own_mw (hn2 j (by omega) hj2) y9 (fun x e q => by subst q; exact hnw j (by omega) hj2 x e rfl)) mm (fun x e' q => hap j hj2 (by omega) x e' q)
   have z4 := g9.trans (mm.mono (fun x e => .inr ⟨k, hlt, e⟩))
   clear own' own2 hn1 hn2 hnw hno r9 y9 g9 om gm mm hc hfx hap e9
   go_wp2
   go_roundw
   case rel => exact ⟨k + 1, by omega, by go_num, by rw [hK1]; exact congrArg (Value.int .i64) (by omega), z4, z1, z2, z3⟩
   case measure => simp [intOf]; omega
  ·go_wp2
   go_ret
   have e : k = n := by omega
   subst e
   rw [rv_congr (g := mkW sl nl k0) (fun i hi => if_pos (by omega))] at hr
   exact ⟨rfl, ⟨hr, hn1⟩, hg⟩
theorem markW_nil (k0 : Nat) (w : World) :
  Calls Tryz.prog 13 #[.slice none 0 0, .int .i64 (k0 : Int)] w fun e w' => e = .returned (.int .i64 (k0 : Int)) ∧ w' = w := by
 go_enter Tryz.func13, Tryz.ntmps13
 go_wp2
 refine wp_loop_rounds 1 ?_
 rw [rounds_succ]
 go_wp2
 go_ret
 exact ⟨rfl, rfl⟩
theorem markW_own (base n : Nat) (v : Value) (f sl : Nat → Value) (nl : Nat → Nat) (xs : Nat → List Value) (k0 : Nat) (w : World) (h : OwW w base v n f sl nl xs) (hl : n ≤ 1048576) (hnl : ∀ j, j < n → nl j ≤ 1048576) (hk0 : k0 ≤ 100000000000000) :
  Calls Tryz.prog 13 #[v, .int .i64 (k0 : Int)] w fun e w' => e = .returned (.int .i64 ((stoW nl k0 n : Nat) : Int)) ∧ HdW w' base v n sl nl k0 ∧ Mw (bkW v n sl) w w' := by
 rcases own_cases h.row with ⟨rfl, rfl⟩ | ⟨g, c, rfl, _⟩
 ·exact (markW_nil k0 w).mono (by rintro r w' ⟨rfl, rfl⟩; exact ⟨rfl, ⟨World.ownsRow_nil w' base 88 11, fun j hj => by omega⟩, Mw.refl _ _⟩)
 ·exact markW_at base g n c f sl nl xs k0 w h hl hnl hk0
set_option maxRecDepth 20000 in
set_option maxHeartbeats 8000000 in
theorem heldW_own (base n : Nat) (v : Value) (sl : Nat → Value) (nl : Nat → Nat) (k0 : Nat) (w : World) (h : HdW w base v n sl nl k0) (hl : n ≤ 1048576) (hnl : ∀ j, j < n → nl j ≤ 1048576) (hk0 : k0 ≤ 100000000000000) :
  Calls Tryz.prog 15 #[v, .int .i64 (k0 : Int)] w fun e w' => e = .returned (.int .i64 ((stoW nl k0 n : Nat) : Int)) ∧ w' = w := by
 obtain ⟨a, cap, rfl, _⟩ := own_slice h.row
 go_enter Tryz.func15, Tryz.ntmps15
 go_wp2
 go_loopw [1, 5] (fun x i wr => ∃ k : Nat, k ≤ n ∧ i = .int .i64 k ∧ x = .int .i64 ((stoW nl k0 k : Nat) : Int) ∧ wr = w) (fun _ i _ => n - (intOf i).toNat)
 case atStart => exact ⟨0, Nat.zero_le _, rfl, rfl, rfl⟩
 case round =>
  obtain ⟨k, hk, rfl, rfl, rfl⟩ := hrel
  by_cases hlt : k < n
  ·have i0 : (0 : Int) ≤ (k : Int) := by omega
   have i1 : (k : Int) < (n : Int) := by omega
   rcases own_cases h.row with ⟨_, e⟩ | ⟨g, c, e, _⟩
   ·omega
   obtain ⟨rfl, rfl⟩ : a = some ⟨g, 0, none⟩ ∧ cap = c := by simpa using e
   have own := h.nest k hlt
   have hnk := hnl k hlt
   have hst := stoW_le (nl := nl) (k0 := k0) k (fun i hi => hnl i (by omega))
   have hr := h.row
   have d0 := own_at hr (j := k * 11) (by omega)
   rw [mkW_0] at d0
   have d1 := own_at hr (j := k * 11 + 1) (by omega)
   rw [mkW_1] at d1
   have d2 := own_at hr (j := k * 11 + 2) (by omega)
   rw [mkW_2] at d2
   have d3 := own_at hr (j := k * 11 + 3) (by omega)
   rw [mkW_3] at d3
   have d4 := own_at hr (j := k * 11 + 4) (by omega)
   rw [mkW_4] at d4
   have d5 := own_at hr (j := k * 11 + 5) (by omega)
   rw [mkW_5] at d5
   have d6 := own_at hr (j := k * 11 + 6) (by omega)
   rw [mkW_6] at d6
   have d7 := own_at hr (j := k * 11 + 7) (by omega)
   rw [mkW_7] at d7
   have d8 := own_at hr (j := k * 11 + 8) (by omega)
   rw [mkW_8] at d8
   have d9 := own_at hr (j := k * 11 + 9) (by omega)
   rw [mkW_9] at d9
   have d10 := own_at hr (j := k * 11 + 10) (by omega)
   rw [mkW_10] at d10
   have hK1 : stoW nl k0 (k + 1) = stoW nl k0 k + 10 + nl k * 4 := rfl
   obtain ⟨K0, hK0⟩ : ∃ K0, Hid (stoW nl k0 k = K0) := ⟨_, rfl⟩
   rw [hK0.out] at d0 d1 d2 d3 d4 d5 d6 d7 d8 d9 hst hK1 own ⊢
   obtain ⟨sa, cs, es, _⟩ := own_slice own
   rw [es] at d10 own
   clear h hr e es
   go_wp2_with fail
   have e9 : (K0 : Int) + 1 + 1 + 1 + 1 + 1 + 1 + 1 + 1 + 1 + 1 = ((K0 + 10 : Nat) : Int) := by omega
   rw [e9]
   refine (heldF_own base (nl k) _ (K0 + 10) _ own hnk (by omega)).mono ?_
   rintro e w9 ⟨rfl, hw⟩
   obtain rfl := hw.symm
   have kk0 : ¬ (((K0 + 10 + nl k * 4 : Nat) : Int) < 0) := by omega
   clear d0 d1 d2 d3 d4 d5 d6 d7 d8 d9 d10 own hw e9
   go_wp2
   go_roundw
   case rel => exact ⟨k + 1, by omega, by go_num, by rw [hK1]; exact congrArg (Value.int .i64) (by omega), by simp⟩
   case measure => simp [intOf]; omega
  ·go_wp2
   go_ret
   have e : k = n := by omega
   subst e
   exact ⟨rfl, rfl⟩
end Go.Proofs.YtgcdcfjaeehnbaaGreat
namespace Go.Proofs.YtgcdcfjaeehnbaaGreat
open Go.ChangeShapes Go.WideShapes Go.ChangeAt Go.RowKit
structure Dd where
 n : Int
 i : Int
 s : Int
 bs : List Int
def Dd.zero : Dd := ⟨0, 0, 0, []⟩
structure Pd where
 n : Int
 x : Int
 y : Int
 h : Int
 e : Int
 ts : List Int
def Pd.zero : Pd := ⟨0, 0, 0, 0, 0, []⟩
structure Od where
 n : Int
 fs : List Fc
def Od.zero : Od := ⟨0, []⟩
structure Nod where
 me : Int
 up : Bool
 gone : Bool
 gate : Bool
 inc : Int
 now : Int
 sq : Int
 turn : Int
 T : List Fc
 C : List It
 pn : Int
 ps : Int
 pq : Int
 pa : Bool
 D : List Dd
 cx : Int
 cy : Int
 ch : Int
 ce : Int
 P : List Pd
 O : List Od
structure Loc where
 ta : Option Addr
 tc : Nat
 ca : Option Addr
 cc : Nat
 da : Option Addr
 dc : Nat
 dA : Nat → Option Addr
 dC : Nat → Nat
 pla : Option Addr
 plc : Nat
 pA : Nat → Option Addr
 pC : Nat → Nat
 oa : Option Addr
 oc : Nat
 oA : Nat → Option Addr
 oC : Nat → Nat
def Loc.none : Loc := ⟨.none, 0, .none, 0, .none, 0, fun _ => .none, fun _ => 0, .none, 0, fun _ => .none, fun _ => 0, .none, 0, fun _ => .none, fun _ => 0⟩
def tF (l : List Fc) (k : Nat) : Fc := l.getD k Fc.zero
def cF (l : List It) (k : Nat) : It := l.getD k It.zero
def iF (l : List Int) (k : Nat) : Int := l.getD k 0
def dF (l : List Dd) (a : Nat → Option Addr) (c : Nat → Nat) (k : Nat) : Dt := ⟨(l.getD k Dd.zero).n, (l.getD k Dd.zero).i, (l.getD k Dd.zero).s, a k, (l.getD k Dd.zero).bs.length, c k, iF (l.getD k Dd.zero).bs⟩
def pF (l : List Pd) (a : Nat → Option Addr) (c : Nat → Nat) (k : Nat) : Pl := ⟨(l.getD k Pd.zero).n, (l.getD k Pd.zero).x, (l.getD k Pd.zero).y, (l.getD k Pd.zero).h, (l.getD k Pd.zero).e, a k, (l.getD k Pd.zero).ts.length, c k, iF (l.getD k Pd.zero).ts⟩
def oF (l : List Od) (a : Nat → Option Addr) (c : Nat → Nat) (k : Nat) : Fg := ⟨(l.getD k Od.zero).n, a k, (l.getD k Od.zero).fs.length, c k, tF (l.getD k Od.zero).fs⟩
def ndV (n : Nod) (L : Loc) : Value := .agg #[.int .i64 n.me, .bool n.up, .bool n.gone, .bool n.gate, .int .i64 n.inc, .int .i64 n.now, .int .i64 n.sq, .int .i64 n.turn, .slice L.ta n.T.length L.tc, .slice L.ca n.C.length L.cc, .int .i64 n.pn, .int .i64 n.ps, .int .i64 n.pq, .bool n.pa, .slice L.da n.D.length L.dc, .int .i64 n.cx, .int .i64 n.cy, .int .i64 n.ch, .int .i64 n.ce, .slice L.pla n.P.length L.plc, .slice L.oa n.O.length L.oc]
def NdR (w : World) (n : Nod) (L : Loc) : Prop := NdIn w L.ta n.T.length (tF n.T) L.ca n.C.length (cF n.C) L.da n.D.length (dF n.D L.dA L.dC) L.pla n.P.length (pF n.P L.pA L.pC) L.oa n.O.length (oF n.O L.oA L.oC)
theorem NdR.below {w w' : World} {n : Nod} {L : Loc} (h : NdR w n L) (k : Below w.heap.size w w') : NdR w' n L := NdIn.below h k
def nodQ (n : Nod) : Bool := nodB n.me n.up n.gone n.gate n.inc n.now n.sq n.turn n.T.length (tF n.T) n.C.length (cF n.C) n.pn n.ps n.pq n.pa n.D.length (dF n.D (fun _ => none) fun _ => 0) n.cx n.cy n.ch n.ce n.P.length (pF n.P (fun _ => none) fun _ => 0) n.O.length (oF n.O (fun _ => none) fun _ => 0)
theorem dF_eq (l : List Dd) (a a' : Nat → Option Addr) (c c' : Nat → Nat) (j : Nat) : DtEq (dF l a c j) (dF l a' c' j) := ⟨rfl, rfl, rfl, rfl, rfl⟩
theorem pF_eq (l : List Pd) (a a' : Nat → Option Addr) (c c' : Nat → Nat) (j : Nat) : PlEq (pF l a c j) (pF l a' c' j) := ⟨rfl, rfl, rfl, rfl, rfl, rfl, rfl⟩
theorem oF_eq (l : List Od) (a a' : Nat → Option Addr) (c c' : Nat → Nat) (j : Nat) : FgEq (oF l a c j) (oF l a' c' j) := ⟨rfl, rfl, rfl⟩
theorem nodQ_at (n : Nod) (L : Loc) : nodB n.me n.up n.gone n.gate n.inc n.now n.sq n.turn n.T.length (tF n.T) n.C.length (cF n.C) n.pn n.ps n.pq n.pa n.D.length (dF n.D L.dA L.dC) n.cx n.cy n.ch n.ce n.P.length (pF n.P L.pA L.pC) n.O.length (oF n.O L.oA L.oC) = nodQ n :=
 nod_congr _ _ _ _ _ _ _ _ _ _ _ _ _ _ _ _ _ _ _ _ _ _ _ _ _ _ _ _ _ (fun _ => dF_eq _ _ _ _ _ _) (fun _ => pF_eq _ _ _ _ _ _) (fun _ => oF_eq _ _ _ _ _ _)
theorem okI_nod (n : Nod) (L : Loc) (w : World) (h : NdR w n L) : Calls Tryz.prog 38 #[ndV n L] w fun r w' => r = .returned (.bool (nodQ n)) ∧ Below w.heap.size w w' := by
 rw [← nodQ_at n L]
 exact nodeOk11_any _ _ _ _ _ _ _ _ _ _ _ _ _ _ _ _ _ _ _ _ _ _ _ _ _ _ _ _ _ _ _ _ _ _ _ _ w h
theorem okS_nod (n : Nod) (L : Loc) (w : World) (h : NdR w n L) : Calls Tryz.prog 28 #[ndV n L] w fun r w' => r = .returned (.bool (nodQ n)) ∧ Below w.heap.size w w' := by
 rw [← nodQ_at n L, nod_same]
 exact nodeOk9_any _ _ _ _ _ _ _ _ _ _ _ _ _ _ _ _ _ _ _ _ _ _ _ _ _ _ _ _ _ _ _ _ _ _ _ _ w h
theorem eqNod (n : Nod) (L L' : Loc) (w : World) (h : NdR w n L) (h' : NdR w n L') : Calls Tryz.prog 10 #[ndV n L, ndV n L'] w fun r w' => r = .returned (.bool true) ∧ Below w.heap.size w w' :=
 eqNode_same _ _ _ _ _ _ _ _ _ _ _ _ _ _ _ _ _ _ _ _ _ _ _ _ _ _ _ _ _ _ _ _ _ _ _ _ _ _ _ _ _ _ _ _ _ _ _ _ _ w h h' (fun _ => dF_eq _ _ _ _ _ _) (fun _ => pF_eq _ _ _ _ _ _) (fun _ => oF_eq _ _ _ _ _ _)
def dL (n : Nat) (G : Nat → Dt) : List Dd := (List.range n).map fun k => ⟨(G k).n, (G k).i, (G k).s, (List.range (G k).bl).map (G k).bf⟩
def pL (n : Nat) (G : Nat → Pl) : List Pd := (List.range n).map fun k => ⟨(G k).n, (G k).x, (G k).y, (G k).h, (G k).e, (List.range (G k).bl).map (G k).bf⟩
def oL (n : Nat) (G : Nat → Fg) : List Od := (List.range n).map fun k => ⟨(G k).n, seqF (G k).bf (G k).bl⟩
def cL (n : Nat) (G : Nat → It) : List It := (List.range n).map G
theorem tF_seq (F : Nat → Fc) (n k : Nat) (h : k < n) : tF (seqF F n) k = F k := by simp [tF, seqF, List.getD, h]
theorem cF_seq (F : Nat → It) (n k : Nat) (h : k < n) : cF (cL n F) k = F k := by simp [cF, cL, List.getD, h]
theorem iF_seq (f : Nat → Int) (n k : Nat) (h : k < n) : iF ((List.range n).map f) k = f k := by simp [iF, List.getD, h]
theorem dL_get (n : Nat) (G : Nat → Dt) (k : Nat) (h : k < n) : (dL n G).getD k Dd.zero = ⟨(G k).n, (G k).i, (G k).s, (List.range (G k).bl).map (G k).bf⟩ := by simp [dL, List.getD, h]
theorem pL_get (n : Nat) (G : Nat → Pl) (k : Nat) (h : k < n) : (pL n G).getD k Pd.zero = ⟨(G k).n, (G k).x, (G k).y, (G k).h, (G k).e, (List.range (G k).bl).map (G k).bf⟩ := by simp [pL, List.getD, h]
theorem oL_get (n : Nat) (G : Nat → Fg) (k : Nat) (h : k < n) : (oL n G).getD k Od.zero = ⟨(G k).n, seqF (G k).bf (G k).bl⟩ := by simp [oL, List.getD, h]
def nodOf (me : Int) (up gone gate : Bool) (inc now sq turn : Int) (tl : Nat) (F : Nat → Fc) (cl : Nat) (GI : Nat → It) (pn ps pq : Int) (pa : Bool) (dl : Nat) (GD : Nat → Dt) (cx cy ch ce : Int) (pll : Nat) (GP : Nat → Pl) (ol : Nat) (GO : Nat → Fg) : Nod := ⟨me, up, gone, gate, inc, now, sq, turn, seqF F tl, cL cl GI, pn, ps, pq, pa, dL dl GD, cx, cy, ch, ce, pL pll GP, oL ol GO⟩
def locOf (ta : Option Addr) (tc : Nat) (ca : Option Addr) (cc : Nat) (da : Option Addr) (dc : Nat) (GD : Nat → Dt) (pla : Option Addr) (plc : Nat) (GP : Nat → Pl) (oa : Option Addr) (oc : Nat) (GO : Nat → Fg) : Loc := ⟨ta, tc, ca, cc, da, dc, fun k => (GD k).ba, fun k => (GD k).bc, pla, plc, fun k => (GP k).ba, fun k => (GP k).bc, oa, oc, fun k => (GO k).ba, fun k => (GO k).bc⟩
theorem fslC {w : World} {a : Option Addr} {len : Nat} {F G : Nat → Fc} (h : FSl w a len F) (e : ∀ k, k < len → F k = G k) : FSl w a len G := fun hl => by
 obtain ⟨b, off, rfl, hb, hf⟩ := h hl
 exact ⟨b, off, rfl, hb, fun k hk => by rw [← e k hk]; exact hf k hk⟩
theorem islC {w : World} {a : Option Addr} {len : Nat} {F G : Nat → Int} (h : ISl w a len F) (e : ∀ k, k < len → F k = G k) : ISl w a len G := fun hl => by
 obtain ⟨b, off, rfl, hb, hf⟩ := h hl
 exact ⟨b, off, rfl, hb, fun k hk => by rw [← e k hk]; exact hf k hk⟩
theorem tslC {w : World} {a : Option Addr} {len : Nat} {F G : Nat → It} (h : TSl w a len F) (e : ∀ k, k < len → F k = G k) : TSl w a len G := fun hl => by
 obtain ⟨b, off, rfl, hb, hf⟩ := h hl
 exact ⟨b, off, rfl, hb, fun k hk => by rw [← e k hk]; exact hf k hk⟩
theorem dslC {w : World} {a : Option Addr} {len : Nat} {F G : Nat → Dt} (h : DtSl w a len F) (e : ∀ k, k < len → (F k).n = (G k).n ∧ (F k).i = (G k).i ∧ (F k).s = (G k).s ∧ (F k).ba = (G k).ba ∧ (F k).bl = (G k).bl ∧ (F k).bc = (G k).bc) : DtSl w a len G := fun hl => by
 obtain ⟨b, off, rfl, hb, hf⟩ := h hl
 refine ⟨b, off, rfl, hb, fun k hk => ?_⟩
 obtain ⟨e1, e2, e3, e4, e5, e6⟩ := e k hk
 rw [← e1, ← e2, ← e3, ← e4, ← e5, ← e6]
 exact hf k hk
theorem pslC {w : World} {a : Option Addr} {len : Nat} {F G : Nat → Pl} (h : PlSl w a len F) (e : ∀ k, k < len → (F k).n = (G k).n ∧ (F k).x = (G k).x ∧ (F k).y = (G k).y ∧ (F k).h = (G k).h ∧ (F k).e = (G k).e ∧ (F k).ba = (G k).ba ∧ (F k).bl = (G k).bl ∧ (F k).bc = (G k).bc) : PlSl w a len G := fun hl => by
 obtain ⟨b, off, rfl, hb, hf⟩ := h hl
 refine ⟨b, off, rfl, hb, fun k hk => ?_⟩
 obtain ⟨e1, e2, e3, e4, e5, e6, e7, e8⟩ := e k hk
 rw [← e1, ← e2, ← e3, ← e4, ← e5, ← e6, ← e7, ← e8]
 exact hf k hk
theorem oslC {w : World} {a : Option Addr} {len : Nat} {F G : Nat → Fg} (h : FgSl w a len F) (e : ∀ k, k < len → (F k).n = (G k).n ∧ (F k).ba = (G k).ba ∧ (F k).bl = (G k).bl ∧ (F k).bc = (G k).bc) : FgSl w a len G := fun hl => by
 obtain ⟨b, off, rfl, hb, hf⟩ := h hl
 refine ⟨b, off, rfl, hb, fun k hk => ?_⟩
 obtain ⟨e1, e2, e3, e4⟩ := e k hk
 rw [← e1, ← e2, ← e3, ← e4]
 exact hf k hk
theorem canon {w : World} (me : Int) (up gone gate : Bool) (inc now sq turn : Int) (ta : Option Addr) (tl tc : Nat) (ca : Option Addr) (cl cc : Nat) (pn ps pq : Int) (pa : Bool) (da : Option Addr) (dl dc : Nat) (cx cy ch ce : Int) (pla : Option Addr) (pll plc : Nat) (oa : Option Addr) (ol oc : Nat) (F : Nat → Fc) (GI : Nat → It) (GD : Nat → Dt) (GP : Nat → Pl) (GO : Nat → Fg) (h : NdIn w ta tl F ca cl GI da dl GD pla pll GP oa ol GO) :
  NdR w (nodOf me up gone gate inc now sq turn tl F cl GI pn ps pq pa dl GD cx cy ch ce pll GP ol GO) (locOf ta tc ca cc da dc GD pla plc GP oa oc GO) := by
 have l1 : (seqF F tl).length = tl := seqF_len F tl
 have l2 : (cL cl GI).length = cl := by simp [cL]
 have l3 : (dL dl GD).length = dl := by simp [dL]
 have l4 : (pL pll GP).length = pll := by simp [pL]
 have l5 : (oL ol GO).length = ol := by simp [oL]
 unfold NdR nodOf locOf
 dsimp only
 rw [l1, l2, l3, l4, l5]
 refine ⟨fslC h.f fun k hk => (tF_seq F tl k hk).symm, tslC h.i fun k hk => (cF_seq GI cl k hk).symm, dslC h.d fun k hk => ?_, fun k hk => ?_, pslC h.p fun k hk => ?_, fun k hk => ?_, oslC h.o fun k hk => ?_, fun k hk => ?_, h.hf, h.hi, h.hd, h.hp, h.ho⟩
 ·simp only [dF, dL_get dl GD k hk]; simp
 ·obtain ⟨q1, q2⟩ := h.db k hk
  have e : (dF (dL dl GD) (fun k => (GD k).ba) (fun k => (GD k).bc) k).bl = (GD k).bl := by simp only [dF, dL_get dl GD k hk]; simp
  refine ⟨?_, by rw [e]; exact q2⟩
  rw [e]
  refine islC q1 fun j hj => ?_
  simp only [dF, dL_get dl GD k hk]
  exact (iF_seq _ _ _ hj).symm
 ·simp only [pF, pL_get pll GP k hk]; simp
 ·obtain ⟨q1, q2⟩ := h.pb k hk
  have e : (pF (pL pll GP) (fun k => (GP k).ba) (fun k => (GP k).bc) k).bl = (GP k).bl := by simp only [pF, pL_get pll GP k hk]; simp
  refine ⟨?_, by rw [e]; exact q2⟩
  rw [e]
  refine islC q1 fun j hj => ?_
  simp only [pF, pL_get pll GP k hk]
  exact (iF_seq _ _ _ hj).symm
 ·simp only [oF, oL_get ol GO k hk]; simp [seqF_len]
 ·obtain ⟨q1, q2⟩ := h.ob k hk
  have e : (oF (oL ol GO) (fun k => (GO k).ba) (fun k => (GO k).bc) k).bl = (GO k).bl := by simp only [oF, oL_get ol GO k hk]; simp [seqF_len]
  refine ⟨?_, by rw [e]; exact q2⟩
  rw [e]
  refine fslC q1 fun j hj => ?_
  simp only [oF, oL_get ol GO k hk]
  exact (tF_seq _ _ _ hj).symm
def aOf : Value → Option Addr
 | .slice a _ _ => a
 | _ => none
def kOf : Value → Nat
 | .slice _ _ c => c
 | _ => 0
def dR (l : List Dd) (sl : Nat → Value) (i : Nat) : Value := if i % 4 = 0 then .int .i64 (l.getD (i / 4) Dd.zero).n else if i % 4 = 1 then .int .i64 (l.getD (i / 4) Dd.zero).i else if i % 4 = 2 then .int .i64 (l.getD (i / 4) Dd.zero).s else sl (i / 4)
def pR (l : List Pd) (sl : Nat → Value) (i : Nat) : Value := if i % 6 = 0 then .int .i64 (l.getD (i / 6) Pd.zero).n else if i % 6 = 1 then .int .i64 (l.getD (i / 6) Pd.zero).x else if i % 6 = 2 then .int .i64 (l.getD (i / 6) Pd.zero).y else if i % 6 = 3 then .int .i64 (l.getD (i / 6) Pd.zero).h else if i % 6 = 4 then .int .i64 (l.getD (i / 6) Pd.zero).e else sl (i / 6)
def oR (l : List Od) (sl : Nat → Value) (i : Nat) : Value := if i % 2 = 0 then .int .i64 (l.getD (i / 2) Od.zero).n else sl (i / 2)
theorem dR_at (l : List Dd) (sl : Nat → Value) (k : Nat) : dR l sl (k * 4) = .int .i64 (l.getD k Dd.zero).n ∧ dR l sl (k * 4 + 1) = .int .i64 (l.getD k Dd.zero).i ∧ dR l sl (k * 4 + 2) = .int .i64 (l.getD k Dd.zero).s ∧ dR l sl (k * 4 + 3) = sl k := by
 have a0 : k * 4 % 4 = 0 ∧ k * 4 / 4 = k := by omega
 have a1 : (k * 4 + 1) % 4 = 1 ∧ (k * 4 + 1) / 4 = k := by omega
 have a2 : (k * 4 + 2) % 4 = 2 ∧ (k * 4 + 2) / 4 = k := by omega
 have a3 : (k * 4 + 3) % 4 = 3 ∧ (k * 4 + 3) / 4 = k := by omega
 refine ⟨?_, ?_, ?_, ?_⟩
 ·unfold dR; rw [a0.1, a0.2, if_pos rfl]
 ·unfold dR; rw [a1.1, a1.2, if_neg (by decide), if_pos rfl]
 ·unfold dR; rw [a2.1, a2.2, if_neg (by decide), if_neg (by decide), if_pos rfl]
 ·unfold dR; rw [a3.1, a3.2, if_neg (by decide), if_neg (by decide), if_neg (by decide)]
theorem pR_at (l : List Pd) (sl : Nat → Value) (k : Nat) : pR l sl (k * 6) = .int .i64 (l.getD k Pd.zero).n ∧ pR l sl (k * 6 + 1) = .int .i64 (l.getD k Pd.zero).x ∧ pR l sl (k * 6 + 2) = .int .i64 (l.getD k Pd.zero).y ∧ pR l sl (k * 6 + 3) = .int .i64 (l.getD k Pd.zero).h ∧ pR l sl (k * 6 + 4) = .int .i64 (l.getD k Pd.zero).e ∧ pR l sl (k * 6 + 5) = sl k := by
 have a0 : k * 6 % 6 = 0 ∧ k * 6 / 6 = k := by omega
 have a1 : (k * 6 + 1) % 6 = 1 ∧ (k * 6 + 1) / 6 = k := by omega
 have a2 : (k * 6 + 2) % 6 = 2 ∧ (k * 6 + 2) / 6 = k := by omega
 have a3 : (k * 6 + 3) % 6 = 3 ∧ (k * 6 + 3) / 6 = k := by omega
 have a4 : (k * 6 + 4) % 6 = 4 ∧ (k * 6 + 4) / 6 = k := by omega
 have a5 : (k * 6 + 5) % 6 = 5 ∧ (k * 6 + 5) / 6 = k := by omega
 refine ⟨?_, ?_, ?_, ?_, ?_, ?_⟩
 ·unfold pR; rw [a0.1, a0.2, if_pos rfl]
 ·unfold pR; rw [a1.1, a1.2, if_neg (by decide), if_pos rfl]
 ·unfold pR; rw [a2.1, a2.2, if_neg (by decide), if_neg (by decide), if_pos rfl]
 ·unfold pR; rw [a3.1, a3.2, if_neg (by decide), if_neg (by decide), if_neg (by decide), if_pos rfl]
 ·unfold pR; rw [a4.1, a4.2, if_neg (by decide), if_neg (by decide), if_neg (by decide), if_neg (by decide), if_pos rfl]
 ·unfold pR; rw [a5.1, a5.2, if_neg (by decide), if_neg (by decide), if_neg (by decide), if_neg (by decide), if_neg (by decide)]
theorem oR_at (l : List Od) (sl : Nat → Value) (k : Nat) : oR l sl (k * 2) = .int .i64 (l.getD k Od.zero).n ∧ oR l sl (k * 2 + 1) = sl k := by
 have a0 : k * 2 % 2 = 0 ∧ k * 2 / 2 = k := by omega
 have a1 : (k * 2 + 1) % 2 = 1 ∧ (k * 2 + 1) / 2 = k := by omega
 refine ⟨?_, ?_⟩
 ·unfold oR; rw [a0.1, a0.2, if_pos rfl]
 ·unfold oR; rw [a1.1, a1.2, if_neg (by decide)]
def dN (l : List Dd) (j : Nat) : Nat := (l.getD j Dd.zero).bs.length
def pN (l : List Pd) (j : Nat) : Nat := (l.getD j Pd.zero).ts.length
def oN (l : List Od) (j : Nat) : Nat := (l.getD j Od.zero).fs.length
def dX (l : List Dd) (j : Nat) : List Value := rv (nv (iF (l.getD j Dd.zero).bs)) (dN l j * 1)
def pX (l : List Pd) (j : Nat) : List Value := rv (nv (iF (l.getD j Pd.zero).ts)) (pN l j * 1)
def oX (l : List Od) (j : Nat) : List Value := rv (fv (tF (l.getD j Od.zero).fs)) (oN l j * 4)
def Apt (v v' : Value) : Prop := ∀ x, v.ownBlock = some x → v'.ownBlock ≠ some x
structure NdO (w : World) (base : Nat) (n : Nod) (v1 v2 v3 v4 v5 : Value) (sD sP sO : Nat → Value) : Prop where
 t : w.ownsRow base 96 4 v1 n.T.length (rv (fv (tF n.T)) (n.T.length * 4))
 c : w.ownsRow base 127 5 v2 n.C.length (rv (tv (cF n.C)) (n.C.length * 5))
 d : OwD w base v3 n.D.length (dR n.D sD) sD (dN n.D) (dX n.D)
 p : OwP w base v4 n.P.length (pR n.P sP) sP (pN n.P) (pX n.P)
 o : OwO w base v5 n.O.length (oR n.O sO) sO (oN n.O) (oX n.O)
 dp : ∀ i j, i < n.D.length → j < n.P.length → Apt (sD i) (sP j)
 tO : ∀ j, j < n.O.length → Apt v1 (sO j)
 ht : n.T.length ≤ 1048576
 hc : n.C.length ≤ 1048576
 hd : n.D.length ≤ 1048576
 hp : n.P.length ≤ 1048576
 ho : n.O.length ≤ 1048576
 hdn : ∀ j, j < n.D.length → dN n.D j ≤ 1048576
 hpn : ∀ j, j < n.P.length → pN n.P j ≤ 1048576
 hon : ∀ j, j < n.O.length → oN n.O j ≤ 1048576
def ndW (n : Nod) (v1 v2 v3 v4 v5 : Value) : Value := .agg #[.int .i64 n.me, .bool n.up, .bool n.gone, .bool n.gate, .int .i64 n.inc, .int .i64 n.now, .int .i64 n.sq, .int .i64 n.turn, v1, v2, .int .i64 n.pn, .int .i64 n.ps, .int .i64 n.pq, .bool n.pa, v3, .int .i64 n.cx, .int .i64 n.cy, .int .i64 n.ch, .int .i64 n.ce, v4, v5]
def bkN (n : Nod) (v1 v2 v3 v4 v5 : Value) (sD sP sO : Nat → Value) (x : Nat) : Prop := v1.ownBlock = some x ∨ v2.ownBlock = some x ∨ bkD v3 n.D.length sD x ∨ bkP v4 n.P.length sP x ∨ bkO v5 n.O.length sO x
section
variable {S : Nat → Prop} {w w' : World} {base : Nat} {n : Nod} {v1 v2 v3 v4 v5 : Value} {sD sP sO : Nat → Value}
theorem NdO.mw (h : NdO w base n v1 v2 v3 v4 v5 sD sP sO) (k : Mw S w w') (q : ∀ x, bkN n v1 v2 v3 v4 v5 sD sP sO x → ¬ S x) : NdO w' base n v1 v2 v3 v4 v5 sD sP sO :=
 ⟨own_mw h.t k fun x e => q x (.inl e), own_mw h.c k fun x e => q x (.inr (.inl e)), h.d.mw k fun x e => q x (.inr (.inr (.inl e))), h.p.mw k fun x e => q x (.inr (.inr (.inr (.inl e)))), h.o.mw k fun x e => q x (.inr (.inr (.inr (.inr e)))), h.dp, h.tO, h.ht, h.hc, h.hd, h.hp, h.ho, h.hdn, h.hpn, h.hon⟩
theorem NdO.below (h : NdO w base n v1 v2 v3 v4 v5 sD sP sO) (k : Below w.heap.size w w') : NdO w' base n v1 v2 v3 v4 v5 sD sP sO := h.mw (S := fun _ => False) (Mw.of_below k) (fun _ _ => id)
theorem NdO.lo (h : NdO w base n v1 v2 v3 v4 v5 sD sP sO) : ∀ x, bkN n v1 v2 v3 v4 v5 sD sP sO x → base ≤ x ∧ x < w.heap.size := by
 rintro x (q | q | q | q | q)
 ·exact h.t.lt x q
 ·exact h.c.lt x q
 ·exact h.d.lo x q
 ·exact h.p.lo x q
 ·exact h.o.lo x q
theorem own_sl {e size m : Nat} {v : Value} {xs : List Value} (h : w.ownsRow base e size v m xs) : v = .slice (aOf v) m (kOf v) := by
 obtain ⟨a, c, rfl, _⟩ := own_slice h
 rfl
theorem own_fsl {v : Value} {m : Nat} {F : Nat → Fc} (h : w.ownsRow base 96 4 v m (rv (fv F) (m * 4))) : FSl w (aOf v) m F := fun hl => by
 rcases own_cases h with ⟨_, e⟩ | ⟨g, c, rfl, _, hg, _⟩
 ·omega
 ·refine ⟨g, 0, rfl, hg, fun k hk => ?_⟩
  have c0 := own_at h (j := k * 4) (by omega)
  have c1 := own_at h (j := k * 4 + 1) (by omega)
  have c2 := own_at h (j := k * 4 + 2) (by omega)
  have c3 := own_at h (j := k * 4 + 3) (by omega)
  have m1 : (k * 4 + 1) % 4 = 1 ∧ (k * 4 + 1) / 4 = k := by omega
  have m2 : (k * 4 + 2) % 4 = 2 ∧ (k * 4 + 2) / 4 = k := by omega
  have m3 : (k * 4 + 3) % 4 = 3 ∧ (k * 4 + 3) / 4 = k := by omega
  simp only [Nat.zero_add]
  simp [fv] at c0
  simp [fv, m1.1, m1.2] at c1
  simp [fv, m2.1, m2.2] at c2
  simp [fv, m3.1, m3.2] at c3
  exact ⟨c0, c1, c2, c3⟩
theorem own_tsl {v : Value} {m : Nat} {F : Nat → It} (h : w.ownsRow base 127 5 v m (rv (tv F) (m * 5))) : TSl w (aOf v) m F := fun hl => by
 rcases own_cases h with ⟨_, e⟩ | ⟨g, c, rfl, _, hg, _⟩
 ·omega
 ·refine ⟨g, 0, rfl, hg, fun k hk => ?_⟩
  have c0 := own_at h (j := k * 5) (by omega)
  have c1 := own_at h (j := k * 5 + 1) (by omega)
  have c2 := own_at h (j := k * 5 + 2) (by omega)
  have c3 := own_at h (j := k * 5 + 3) (by omega)
  have c4 := own_at h (j := k * 5 + 4) (by omega)
  have m1 : (k * 5 + 1) % 5 = 1 ∧ (k * 5 + 1) / 5 = k := by omega
  have m2 : (k * 5 + 2) % 5 = 2 ∧ (k * 5 + 2) / 5 = k := by omega
  have m3 : (k * 5 + 3) % 5 = 3 ∧ (k * 5 + 3) / 5 = k := by omega
  have m4 : (k * 5 + 4) % 5 = 4 ∧ (k * 5 + 4) / 5 = k := by omega
  simp only [Nat.zero_add]
  simp [tv] at c0
  simp [tv, m1.1, m1.2] at c1
  simp [tv, m2.1, m2.2] at c2
  simp [tv, m3.1, m3.2] at c3
  simp [tv, m4.1, m4.2] at c4
  exact ⟨c0, c1, c2, c3, c4⟩
theorem own_isl {v : Value} {m : Nat} {f : Nat → Int} (h : w.ownsRow base 3 1 v m (rv (nv f) (m * 1))) : ISl w (aOf v) m f := fun hl => by
 rcases own_cases h with ⟨_, e⟩ | ⟨g, c, rfl, _, hg, _⟩
 ·omega
 ·refine ⟨g, 0, rfl, hg, fun k hk => ?_⟩
  have c0 := own_at h (j := k) (by omega)
  simp only [Nat.zero_add]
  exact c0
theorem OwD.sl_of {v : Value} {l : List Dd} {sl : Nat → Value} (h : OwD w base v l.length (dR l sl) sl (dN l) (dX l)) : DtSl w (aOf v) l.length (dF l (fun j => aOf (sl j)) fun j => kOf (sl j)) := fun hl => by
 rcases own_cases h.row with ⟨_, e⟩ | ⟨g, c, rfl, _, hg, _⟩
 ·omega
 ·refine ⟨g, 0, rfl, hg, fun k hk => ?_⟩
  obtain ⟨d0, d1, d2, d3⟩ := dR_at l sl k
  have c0 := own_at h.row (j := k * 4) (by omega)
  have c1 := own_at h.row (j := k * 4 + 1) (by omega)
  have c2 := own_at h.row (j := k * 4 + 2) (by omega)
  have c3 := own_at h.row (j := k * 4 + 3) (by omega)
  rw [d0] at c0
  rw [d1] at c1
  rw [d2] at c2
  rw [d3, own_sl (h.nest k hk)] at c3
  simp only [Nat.zero_add]
  exact ⟨c0, c1, c2, c3⟩
theorem OwP.sl_of {v : Value} {l : List Pd} {sl : Nat → Value} (h : OwP w base v l.length (pR l sl) sl (pN l) (pX l)) : PlSl w (aOf v) l.length (pF l (fun j => aOf (sl j)) fun j => kOf (sl j)) := fun hl => by
 rcases own_cases h.row with ⟨_, e⟩ | ⟨g, c, rfl, _, hg, _⟩
 ·omega
 ·refine ⟨g, 0, rfl, hg, fun k hk => ?_⟩
  obtain ⟨d0, d1, d2, d3, d4, d5⟩ := pR_at l sl k
  have c0 := own_at h.row (j := k * 6) (by omega)
  have c1 := own_at h.row (j := k * 6 + 1) (by omega)
  have c2 := own_at h.row (j := k * 6 + 2) (by omega)
  have c3 := own_at h.row (j := k * 6 + 3) (by omega)
  have c4 := own_at h.row (j := k * 6 + 4) (by omega)
  have c5 := own_at h.row (j := k * 6 + 5) (by omega)
  rw [d0] at c0
  rw [d1] at c1
  rw [d2] at c2
  rw [d3] at c3
  rw [d4] at c4
  rw [d5, own_sl (h.nest k hk)] at c5
  simp only [Nat.zero_add]
  exact ⟨c0, c1, c2, c3, c4, c5⟩
theorem OwO.sl_of {v : Value} {l : List Od} {sl : Nat → Value} (h : OwO w base v l.length (oR l sl) sl (oN l) (oX l)) : FgSl w (aOf v) l.length (oF l (fun j => aOf (sl j)) fun j => kOf (sl j)) := fun hl => by
 rcases own_cases h.row with ⟨_, e⟩ | ⟨g, c, rfl, _, hg, _⟩
 ·omega
 ·refine ⟨g, 0, rfl, hg, fun k hk => ?_⟩
  obtain ⟨d0, d1⟩ := oR_at l sl k
  have c0 := own_at h.row (j := k * 2) (by omega)
  have c1 := own_at h.row (j := k * 2 + 1) (by omega)
  rw [d0] at c0
  rw [d1, own_sl (h.nest k hk)] at c1
  simp only [Nat.zero_add]
  exact ⟨c0, c1⟩
def locW (v1 v2 v3 v4 v5 : Value) (sD sP sO : Nat → Value) : Loc := ⟨aOf v1, kOf v1, aOf v2, kOf v2, aOf v3, kOf v3, fun j => aOf (sD j), fun j => kOf (sD j), aOf v4, kOf v4, fun j => aOf (sP j), fun j => kOf (sP j), aOf v5, kOf v5, fun j => aOf (sO j), fun j => kOf (sO j)⟩
theorem NdO.val (h : NdO w base n v1 v2 v3 v4 v5 sD sP sO) : ndW n v1 v2 v3 v4 v5 = ndV n (locW v1 v2 v3 v4 v5 sD sP sO) := by
 unfold ndW ndV locW
 dsimp only
 rw [← own_sl h.t, ← own_sl h.c, ← own_sl h.d.row, ← own_sl h.p.row, ← own_sl h.o.row]
theorem NdO.toR (h : NdO w base n v1 v2 v3 v4 v5 sD sP sO) : NdR w n (locW v1 v2 v3 v4 v5 sD sP sO) :=
 ⟨own_fsl h.t, own_tsl h.c, h.d.sl_of, fun k hk => ⟨own_isl (h.d.nest k hk), h.hdn k hk⟩, h.p.sl_of, fun k hk => ⟨own_isl (h.p.nest k hk), h.hpn k hk⟩, h.o.sl_of, fun k hk => ⟨own_fsl (h.o.nest k hk), h.hon k hk⟩, h.ht, h.hc, h.hd, h.hp, h.ho⟩
end
end Go.Proofs.YtgcdcfjaeehnbaaGreat
namespace Go.Proofs.YtgcdcfjaeehnbaaGreat
open Go.ChangeShapes Go.WideShapes Go.ChangeAt Go.RowKit
attribute [local go_sem ↓] Go.wp_at_zero Go.wp_at_succ
theorem Ws.mw {S : Nat → Prop} {w w' : World} {b : Nat} {xs : List Value} (h : Ws w b xs) (k : Mw S w w') (q : ¬ S b) : Ws w' b xs :=
 ⟨Nat.lt_of_lt_of_le h.lt k.size, fun i v hv => k.cell (h.c i v hv) q, fun o => (World.frozen?_of_block (a := ⟨b, o, none⟩) (k.block b h.lt q)).trans (h.z o)⟩
def kT (n : Nod) (k0 : Nat) : Nat := k0 + n.T.length * 4
def kD (n : Nod) (k0 : Nat) : Nat := kT n k0 + n.C.length * 5
def kP (n : Nod) (k0 : Nat) : Nat := stoD (dN n.D) (kD n k0) n.D.length
def kO (n : Nod) (k0 : Nat) : Nat := stoP (pN n.P) (kP n k0) n.P.length
def kE (n : Nod) (k0 : Nat) : Nat := stoO (oN n.O) (kO n k0) n.O.length
structure HdN (w : World) (base : Nat) (n : Nod) (v1 v2 v3 v4 v5 : Value) (sD sP sO : Nat → Value) (k0 : Nat) : Prop where
 t : w.ownsRow base 96 4 v1 n.T.length (rv (mkF k0) (n.T.length * 4))
 c : w.ownsRow base 127 5 v2 n.C.length (rv (mkT (kT n k0)) (n.C.length * 5))
 d : HdD w base v3 n.D.length sD (dN n.D) (kD n k0)
 p : HdP w base v4 n.P.length sP (pN n.P) (kP n k0)
 o : HdO w base v5 n.O.length sO (oN n.O) (kO n k0)
section
variable {S : Nat → Prop} {w w' : World} {base : Nat} {n : Nod} {v1 v2 v3 v4 v5 : Value} {sD sP sO : Nat → Value} {k0 : Nat}
theorem HdN.mw (h : HdN w base n v1 v2 v3 v4 v5 sD sP sO k0) (k : Mw S w w') (q : ∀ x, bkN n v1 v2 v3 v4 v5 sD sP sO x → ¬ S x) : HdN w' base n v1 v2 v3 v4 v5 sD sP sO k0 :=
 ⟨own_mw h.t k fun x e => q x (.inl e), own_mw h.c k fun x e => q x (.inr (.inl e)), h.d.mw k fun x e => q x (.inr (.inr (.inl e))), h.p.mw k fun x e => q x (.inr (.inr (.inr (.inl e)))), h.o.mw k fun x e => q x (.inr (.inr (.inr (.inr e))))⟩
theorem HdN.below (h : HdN w base n v1 v2 v3 v4 v5 sD sP sO k0) (k : Below w.heap.size w w') : HdN w' base n v1 v2 v3 v4 v5 sD sP sO k0 := h.mw (S := fun _ => False) (Mw.of_below k) (fun _ _ => id)
theorem NdO.a12 (h : NdO w base n v1 v2 v3 v4 v5 sD sP sO) : ∀ x, v1.ownBlock = some x → v2.ownBlock ≠ some x := own_apart h.t h.c (by decide)
theorem NdO.a1D (h : NdO w base n v1 v2 v3 v4 v5 sD sP sO) : ∀ x, v1.ownBlock = some x → ¬ bkD v3 n.D.length sD x := by
 rintro x e (q | ⟨j, hj, q⟩)
 ·exact own_apart h.t h.d.row (by decide) x e q
 ·exact own_apart h.t (h.d.nest j hj) (by decide) x e q
theorem NdO.a1P (h : NdO w base n v1 v2 v3 v4 v5 sD sP sO) : ∀ x, v1.ownBlock = some x → ¬ bkP v4 n.P.length sP x := by
 rintro x e (q | ⟨j, hj, q⟩)
 ·exact own_apart h.t h.p.row (by decide) x e q
 ·exact own_apart h.t (h.p.nest j hj) (by decide) x e q
theorem NdO.a1O (h : NdO w base n v1 v2 v3 v4 v5 sD sP sO) : ∀ x, v1.ownBlock = some x → ¬ bkO v5 n.O.length sO x := by
 rintro x e (q | ⟨j, hj, q⟩)
 ·exact own_apart h.t h.o.row (by decide) x e q
 ·exact h.tO j hj x e q
theorem NdO.a2D (h : NdO w base n v1 v2 v3 v4 v5 sD sP sO) : ∀ x, v2.ownBlock = some x → ¬ bkD v3 n.D.length sD x := by
 rintro x e (q | ⟨j, hj, q⟩)
 ·exact own_apart h.c h.d.row (by decide) x e q
 ·exact own_apart h.c (h.d.nest j hj) (by decide) x e q
theorem NdO.a2P (h : NdO w base n v1 v2 v3 v4 v5 sD sP sO) : ∀ x, v2.ownBlock = some x → ¬ bkP v4 n.P.length sP x := by
 rintro x e (q | ⟨j, hj, q⟩)
 ·exact own_apart h.c h.p.row (by decide) x e q
 ·exact own_apart h.c (h.p.nest j hj) (by decide) x e q
theorem NdO.a2O (h : NdO w base n v1 v2 v3 v4 v5 sD sP sO) : ∀ x, v2.ownBlock = some x → ¬ bkO v5 n.O.length sO x := by
 rintro x e (q | ⟨j, hj, q⟩)
 ·exact own_apart h.c h.o.row (by decide) x e q
 ·exact own_apart h.c (h.o.nest j hj) (by decide) x e q
theorem NdO.aDP (h : NdO w base n v1 v2 v3 v4 v5 sD sP sO) : ∀ x, bkD v3 n.D.length sD x → ¬ bkP v4 n.P.length sP x := by
 rintro x (e | ⟨i, hi, e⟩) (q | ⟨j, hj, q⟩)
 ·exact own_apart h.d.row h.p.row (by decide) x e q
 ·exact own_apart h.d.row (h.p.nest j hj) (by decide) x e q
 ·exact own_apart (h.d.nest i hi) h.p.row (by decide) x e q
 ·exact h.dp i j hi hj x e q
theorem NdO.aDO (h : NdO w base n v1 v2 v3 v4 v5 sD sP sO) : ∀ x, bkD v3 n.D.length sD x → ¬ bkO v5 n.O.length sO x := by
 rintro x (e | ⟨i, hi, e⟩) (q | ⟨j, hj, q⟩)
 ·exact own_apart h.d.row h.o.row (by decide) x e q
 ·exact own_apart h.d.row (h.o.nest j hj) (by decide) x e q
 ·exact own_apart (h.d.nest i hi) h.o.row (by decide) x e q
 ·exact own_apart (h.d.nest i hi) (h.o.nest j hj) (by decide) x e q
theorem NdO.aPO (h : NdO w base n v1 v2 v3 v4 v5 sD sP sO) : ∀ x, bkP v4 n.P.length sP x → ¬ bkO v5 n.O.length sO x := by
 rintro x (e | ⟨i, hi, e⟩) (q | ⟨j, hj, q⟩)
 ·exact own_apart h.p.row h.o.row (by decide) x e q
 ·exact own_apart h.p.row (h.o.nest j hj) (by decide) x e q
 ·exact own_apart (h.p.nest i hi) h.o.row (by decide) x e q
 ·exact own_apart (h.p.nest i hi) (h.o.nest j hj) (by decide) x e q
end
theorem bnd {w : World} {base : Nat} {n : Nod} {v1 v2 v3 v4 v5 : Value} {sD sP sO : Nat → Value} (k0 : Nat) (h : NdO w base n v1 v2 v3 v4 v5 sD sP sO) (hk0 : k0 ≤ 10000000000000) : kT n k0 ≤ 20000000000000 ∧ kD n k0 ≤ 20000000000000 ∧ kP n k0 ≤ 20000000000000 ∧ kO n k0 ≤ 20000000000000 ∧ kE n k0 ≤ 30000000000000 := by
 have z1 : kT n k0 ≤ 20000000000000 := by have := h.ht; unfold kT; omega
 have z2 : kD n k0 ≤ 20000000000000 := by have := h.ht; have := h.hc; unfold kD kT; omega
 have z3 : kP n k0 ≤ 20000000000000 := by
  have := h.ht; have := h.hc; have := h.hd
  have e := stoD_le (nl := dN n.D) (k0 := kD n k0) n.D.length h.hdn
  unfold kP
  unfold kD kT at e ⊢
  omega
 have z4 : kO n k0 ≤ 20000000000000 := by
  have := h.ht; have := h.hc; have := h.hd; have := h.hp
  have e := stoD_le (nl := dN n.D) (k0 := kD n k0) n.D.length h.hdn
  have e2 := stoP_le (nl := pN n.P) (k0 := kP n k0) n.P.length h.hpn
  unfold kO
  unfold kP at e2 ⊢
  unfold kD kT at e e2 ⊢
  omega
 refine ⟨z1, z2, z3, z4, ?_⟩
 have := h.ho
 have e := stoO_le (nl := oN n.O) (k0 := kO n k0) n.O.length h.hon
 unfold kE
 omega
set_option maxRecDepth 20000 in
set_option maxHeartbeats 8000000 in
theorem markN_any (base : Nat) (n : Nod) (v1 v2 v3 v4 v5 : Value) (sD sP sO : Nat → Value) (k0 : Nat) (w : World) (h : NdO w base n v1 v2 v3 v4 v5 sD sP sO) (hk0 : k0 ≤ 10000000000000) :
  Calls Tryz.prog 12 #[ndW n v1 v2 v3 v4 v5, .int .i64 (k0 : Int)] w fun r w' => r = .returned (.int .i64 ((kE n k0 : Nat) : Int)) ∧ HdN w' base n v1 v2 v3 v4 v5 sD sP sO k0 ∧ Mw (bkN n v1 v2 v3 v4 v5 sD sP sO) w w' := by
 have bd := bnd k0 h hk0
 have lo := h.lo
 have b12 := h.a12
 have b1D := h.a1D
 have b1P := h.a1P
 have b1O := h.a1O
 have b2D := h.a2D
 have b2P := h.a2P
 have b2O := h.a2O
 have bDP := h.aDP
 have bDO := h.aDO
 have bPO := h.aPO
 obtain ⟨q1, q2, q3, q4, q5⟩ := bd
 obtain ⟨K1, hK1⟩ : ∃ K, Hid (kT n k0 = K) := ⟨_, rfl⟩
 obtain ⟨K2, hK2⟩ : ∃ K, Hid (kD n k0 = K) := ⟨_, rfl⟩
 obtain ⟨K3, hK3⟩ : ∃ K, Hid (kP n k0 = K) := ⟨_, rfl⟩
 obtain ⟨K4, hK4⟩ : ∃ K, Hid (kO n k0 = K) := ⟨_, rfl⟩
 obtain ⟨K5, hK5⟩ : ∃ K, Hid (kE n k0 = K) := ⟨_, rfl⟩
 have f1 : Hid (k0 + n.T.length * 4 = K1) := hK1.out
 have f2 : Hid (K1 + n.C.length * 5 = K2) := by have := hK2.out; unfold kD at this; rw [hK1.out] at this; exact this
 have f3 : Hid (stoD (dN n.D) K2 n.D.length = K3) := by have := hK3.out; unfold kP at this; rw [hK2.out] at this; exact this
 have f4 : Hid (stoP (pN n.P) K3 n.P.length = K4) := by have := hK4.out; unfold kO at this; rw [hK3.out] at this; exact this
 have f5 : Hid (stoO (oN n.O) K4 n.O.length = K5) := by have := hK5.out; unfold kE at this; rw [hK4.out] at this; exact this
 rw [hK1.out] at q1
 rw [hK2.out] at q2
 rw [hK3.out] at q3
 rw [hK4.out] at q4
 rw [hK5.out] at q5 ⊢
 have HF : Hid (∀ w', w'.ownsRow base 96 4 v1 n.T.length (rv (mkF k0) (n.T.length * 4)) → w'.ownsRow base 127 5 v2 n.C.length (rv (mkT K1) (n.C.length * 5)) → HdD w' base v3 n.D.length sD (dN n.D) K2 → HdP w' base v4 n.P.length sP (pN n.P) K3 → HdO w' base v5 n.O.length sO (oN n.O) K4 → HdN w' base n v1 v2 v3 v4 v5 sD sP sO k0) := fun w' t c d p o => ⟨t, by rw [hK1.out]; exact c, by rw [hK2.out]; exact d, by rw [hK3.out]; exact p, by rw [hK4.out]; exact o⟩
 clear hK1 hK2 hK3 hK4 hK5
 obtain ⟨BK, hBK⟩ : ∃ B : Nat → Prop, Hid (bkN n v1 v2 v3 v4 v5 sD sP sO = B) := ⟨_, rfl⟩
 have s1 : Hid (∀ x, v1.ownBlock = some x → BK x) := fun x e => by rw [← hBK.out]; exact .inl e
 have s2 : Hid (∀ x, v2.ownBlock = some x → BK x) := fun x e => by rw [← hBK.out]; exact .inr (.inl e)
 have s3 : Hid (∀ x, bkD v3 n.D.length sD x → BK x) := fun x e => by rw [← hBK.out]; exact .inr (.inr (.inl e))
 have s4 : Hid (∀ x, bkP v4 n.P.length sP x → BK x) := fun x e => by rw [← hBK.out]; exact .inr (.inr (.inr (.inl e)))
 have s5 : Hid (∀ x, bkO v5 n.O.length sO x → BK x) := fun x e => by rw [← hBK.out]; exact .inr (.inr (.inr (.inr e)))
 have nb : Hid (∀ x, BK x → x ≠ w.heap.size) := fun x e => by rw [← hBK.out] at e; have := (lo x e).2; omega
 rw [hBK.out]
 clear hBK lo
 obtain ⟨me, up, gone, gate, inc, now, sq, turn, T, C, pn, ps, pq, pa, D, cx, cy, ch, ce, P, O⟩ := n
 unfold ndW
 dsimp only at *
 go_enter Tryz.func12, Tryz.ntmps12
 go_upto_region 1 with fail
 generalize hu : w.alloc (.cells _ _) = u
 obtain ⟨X, b0⟩ := box1 hu
 clear hu
 have r := h.below b0
 have M0 : Mw BK w u := Mw.of_below b0
 have d8 := X.c 8 v1 rfl
 obtain ⟨KB, hKB⟩ : ∃ K, Hid (w.heap.size = K) := ⟨_, rfl⟩
 rw [hKB.out] at X d8 nb
 rw [hKB.out]
 clear b0 h
 have rt := r.t
 have rc := r.c
 have rd := r.d
 have rp := r.p
 have ro := r.o
 have x1 := r.ht
 have x2 := r.hc
 have x3 := r.hd
 have x4 := r.hp
 have x5 := r.ho
 have y3 := r.hdn
 have y4 := r.hpn
 have y5 := r.hon
 clear r
 dsimp only at rt rc rd rp ro x1 x2 x3 x4 x5 y3 y4 y5
 go_wp2_with fail
 refine (markF_own base T.length v1 _ k0 _ rt x1 (by omega)).mono ?_
 rintro e w1 ⟨rfl, om, gm⟩
 have mm : Mw (fun x => v1.ownBlock = some x) u w1 := Mw.grown gm (fun _ e => e)
 have X1 := X.mw mm (fun e => nb.out _ (s1.out _ e) rfl)
 have ot := om
 replace rc := own_mw rc mm (fun x e q => b12 x q e)
 replace rd := rd.mw mm (fun x e q => b1D x q e)
 replace rp := rp.mw mm (fun x e q => b1P x q e)
 replace ro := ro.mw mm (fun x e q => b1O x q e)
 have M1 := M0.trans (mm.mono s1.out)
 clear om gm mm X d8 M0 rt
 rw [f1.out]
 have d9 := X1.c 9 v2 rfl
 go_wp2_with fail
 refine (markT_own base C.length v2 _ K1 _ rc x2 (by omega)).mono ?_
 rintro e w2 ⟨rfl, om, gm⟩
 have mm : Mw (fun x => v2.ownBlock = some x) w1 w2 := Mw.grown gm (fun _ e => e)
 have X2 := X1.mw mm (fun e => nb.out _ (s2.out _ e) rfl)
 replace ot := own_mw ot mm (fun x e q => b12 x e q)
 have oc := om
 replace rd := rd.mw mm (fun x e q => b2D x q e)
 replace rp := rp.mw mm (fun x e q => b2P x q e)
 replace ro := ro.mw mm (fun x e q => b2O x q e)
 have M2 := M1.trans (mm.mono s2.out)
 clear om gm mm X1 d9 M1 rc
 rw [f2.out]
 have d14 := X2.c 14 v3 rfl
 go_wp2_with fail
 refine (markD_own base D.length v3 _ sD _ _ K2 _ rd x3 y3 (by omega)).mono ?_
 rintro e w3 ⟨rfl, od, mm⟩
 have X3 := X2.mw mm (fun e => nb.out _ (s3.out _ e) rfl)
 replace ot := own_mw ot mm (fun x e q => b1D x e q)
 replace oc := own_mw oc mm (fun x e q => b2D x e q)
 replace rp := rp.mw mm (fun x e q => bDP x q e)
 replace ro := ro.mw mm (fun x e q => bDO x q e)
 have M3 := M2.trans (mm.mono s3.out)
 clear mm X2 d14 M2 rd
 rw [f3.out]
 have d19 := X3.c 19 v4 rfl
 go_wp2_with fail
 refine (markP_own base P.length v4 _ sP _ _ K3 _ rp x4 y4 (by omega)).mono ?_
 rintro e w4 ⟨rfl, op, mm⟩
 have X4 := X3.mw mm (fun e => nb.out _ (s4.out _ e) rfl)
 replace ot := own_mw ot mm (fun x e q => b1P x e q)
 replace oc := own_mw oc mm (fun x e q => b2P x e q)
 replace od := od.mw mm (fun x e q => bDP x e q)
 replace ro := ro.mw mm (fun x e q => bPO x q e)
 have M4 := M3.trans (mm.mono s4.out)
 clear mm X3 d19 M3 rp
 rw [f4.out]
 have d20 := X4.c 20 v5 rfl
 go_wp2_with fail
 refine (markO_own base O.length v5 _ sO _ _ K4 _ ro x5 y5 (by omega)).mono ?_
 rintro e w5 ⟨rfl, oo, mm⟩
 replace ot := own_mw ot mm (fun x e q => b1O x e q)
 replace oc := own_mw oc mm (fun x e q => b2O x e q)
 replace od := od.mw mm (fun x e q => bDO x e q)
 replace op := op.mw mm (fun x e q => bPO x e q)
 have M5 := M4.trans (mm.mono s5.out)
 clear mm X4 d20 M4 ro b12 b1D b1P b1O b2D b2P b2O bDP bDO bPO
 rw [f5.out]
 have hfin := HF.out _ ot oc od op oo
 clear ot oc od op oo HF
 go_wp2
 go_ret
 exact ⟨rfl, hfin, M5⟩
set_option maxRecDepth 20000 in
set_option maxHeartbeats 8000000 in
theorem heldN_any (base : Nat) (n : Nod) (v1 v2 v3 v4 v5 : Value) (sD sP sO : Nat → Value) (k0 : Nat) (w w0 : World) (h0 : NdO w0 base n v1 v2 v3 v4 v5 sD sP sO) (h : HdN w base n v1 v2 v3 v4 v5 sD sP sO k0) (hk0 : k0 ≤ 10000000000000) :
  Calls Tryz.prog 14 #[ndW n v1 v2 v3 v4 v5, .int .i64 (k0 : Int)] w fun r w' => r = .returned (.int .i64 ((kE n k0 : Nat) : Int)) ∧ Below w.heap.size w w' := by
 have bd := bnd k0 h0 hk0
 obtain ⟨q1, q2, q3, q4, q5⟩ := bd
 obtain ⟨K1, hK1⟩ : ∃ K, Hid (kT n k0 = K) := ⟨_, rfl⟩
 obtain ⟨K2, hK2⟩ : ∃ K, Hid (kD n k0 = K) := ⟨_, rfl⟩
 obtain ⟨K3, hK3⟩ : ∃ K, Hid (kP n k0 = K) := ⟨_, rfl⟩
 obtain ⟨K4, hK4⟩ : ∃ K, Hid (kO n k0 = K) := ⟨_, rfl⟩
 obtain ⟨K5, hK5⟩ : ∃ K, Hid (kE n k0 = K) := ⟨_, rfl⟩
 have f1 : Hid (k0 + n.T.length * 4 = K1) := hK1.out
 have f2 : Hid (K1 + n.C.length * 5 = K2) := by have := hK2.out; unfold kD at this; rw [hK1.out] at this; exact this
 have f3 : Hid (stoD (dN n.D) K2 n.D.length = K3) := by have := hK3.out; unfold kP at this; rw [hK2.out] at this; exact this
 have f4 : Hid (stoP (pN n.P) K3 n.P.length = K4) := by have := hK4.out; unfold kO at this; rw [hK3.out] at this; exact this
 have f5 : Hid (stoO (oN n.O) K4 n.O.length = K5) := by have := hK5.out; unfold kE at this; rw [hK4.out] at this; exact this
 obtain ⟨rt, rc, rd, rp, ro⟩ := h
 rw [hK1.out] at q1 rc
 rw [hK2.out] at q2 rd
 rw [hK3.out] at q3 rp
 rw [hK4.out] at q4 ro
 rw [hK5.out] at q5 ⊢
 clear hK1 hK2 hK3 hK4 hK5
 have x1 := h0.ht
 have x2 := h0.hc
 have x3 := h0.hd
 have x4 := h0.hp
 have x5 := h0.ho
 have y3 := h0.hdn
 have y4 := h0.hpn
 have y5 := h0.hon
 clear h0
 obtain ⟨me, up, gone, gate, inc, now, sq, turn, T, C, pn, ps, pq, pa, D, cx, cy, ch, ce, P, O⟩ := n
 unfold ndW
 dsimp only at *
 go_enter Tryz.func14, Tryz.ntmps14
 go_upto_region 1 with fail
 generalize hu : w.alloc (.cells _ _) = u
 obtain ⟨X, b0⟩ := box1 hu
 clear hu
 replace rt := own_below rt b0
 replace rc := own_below rc b0
 replace rd := rd.below b0
 replace rp := rp.below b0
 replace ro := ro.below b0
 have d8 := X.c 8 v1 rfl
 have d9 := X.c 9 v2 rfl
 have d14 := X.c 14 v3 rfl
 have d19 := X.c 19 v4 rfl
 have d20 := X.c 20 v5 rfl
 obtain ⟨KB, hKB⟩ : ∃ K, Hid (w.heap.size = K) := ⟨_, rfl⟩
 rw [hKB.out] at d8 d9 d14 d19 d20
 rw [hKB.out]
 clear X hKB
 go_wp2_with fail
 refine (heldF_own base T.length v1 k0 _ rt x1 (by omega)).mono ?_
 rintro e w1 ⟨rfl, hw⟩
 obtain rfl := hw.symm
 clear hw rt d8
 rw [f1.out]
 have n1 : ¬ ((K1 : Int) < 0) := by omega
 go_wp2_with fail
 refine (heldT_own base C.length v2 K1 _ rc x2 (by omega)).mono ?_
 rintro e w1 ⟨rfl, hw⟩
 obtain rfl := hw.symm
 clear hw rc d9 n1
 rw [f2.out]
 have n2 : ¬ ((K2 : Int) < 0) := by omega
 go_wp2_with fail
 refine (heldD_own base D.length v3 sD _ K2 _ rd x3 y3 (by omega)).mono ?_
 rintro e w1 ⟨rfl, hw⟩
 obtain rfl := hw.symm
 clear hw rd d14 n2
 rw [f3.out]
 have n3 : ¬ ((K3 : Int) < 0) := by omega
 go_wp2_with fail
 refine (heldP_own base P.length v4 sP _ K3 _ rp x4 y4 (by omega)).mono ?_
 rintro e w1 ⟨rfl, hw⟩
 obtain rfl := hw.symm
 clear hw rp d19 n3
 rw [f4.out]
 have n4 : ¬ ((K4 : Int) < 0) := by omega
 go_wp2_with fail
 refine (heldO_own base O.length v5 sO _ K4 _ ro x5 y5 (by omega)).mono ?_
 rintro e w1 ⟨rfl, hw⟩
 obtain rfl := hw.symm
 clear hw ro d20 n4
 rw [f5.out]
 have n5 : ¬ ((K5 : Int) < 0) := by omega
 go_wp2
 go_ret
 exact ⟨rfl, b0⟩
end Go.Proofs.YtgcdcfjaeehnbaaGreat
namespace Go.Proofs.YtgcdcfjaeehnbaaGreat
open Go.ChangeShapes Go.WideShapes Go.ChangeAt Go.RowKit
attribute [local go_sem ↓] Go.wp_at_zero Go.wp_at_succ
theorem enter2 (w : World) (c : Array Value) (t : TypeId) (z : Array Value) (t' : TypeId) : ∃ u, Hid (u = (w.alloc (.cells c t)).alloc (.cells z t')) ∧ Ws u w.heap.size c.toList ∧ Ws u (w.heap.size + 1) z.toList ∧ Below w.heap.size w u ∧ u.heap.size = w.heap.size + 1 + 1 := by
 have hs1 : (w.alloc (.cells c t)).heap.size = w.heap.size + 1 := by simp [go_sem]
 have R := Ws.box (w := w.alloc (.cells c t)) z t'
 rw [hs1] at R
 exact ⟨_, rfl, (Ws.box (w := w) c t).alloc (.cells z t'), R, balloc (.cells z t') (balloc (.cells c t) (Below.refl w.heap.size w)), by simp [go_sem]⟩
theorem src_cells {w : World} {b off k : Nat} {f : Nat → Value} (h : ∀ j, j < k → w.cell? ⟨b, off + j, none⟩ = some (f j)) : ∀ j u, (rv f k)[j]? = some u → w.cell? ((⟨b, off, none⟩ : Addr).add j) = some u := by
 intro j u hj
 have e : (⟨b, off, none⟩ : Addr).add j = ⟨b, off + j, none⟩ := by unfold Addr.add; split <;> simp_all
 have hlt : j < k := by
  have := (List.getElem?_eq_some_iff.1 hj).1
  rwa [rv_len] at this
 rw [rv_get hlt] at hj
 rw [e, h j hlt]
 exact hj
theorem rv_one {k : Nat} {f : Nat → Value} (h : ∀ j, j < k → (f j).oneCell' = true) : ∀ u ∈ rv f k, u.oneCell' = true := by
 intro u hu
 obtain ⟨j, hj, rfl⟩ := List.mem_map.1 hu
 exact h j (List.mem_range.1 hj)
theorem infF : (Tryz.prog.info? 96).map (fun i => (i.zero, i.size, i.bytes)) = some (some (.agg #[.int .i64 0, .int .i64 0, .int .i64 0, .bool false]), 4, 32) := by kernel_rfl
theorem cpnF_any (w : World) : Calls Tryz.prog 132 #[.slice none 0 0] w fun r w' => r = .returned (.slice none 0 0) ∧ w' = w := by
 go_enter Tryz.func132, Tryz.ntmps132
 go_wp2
 go_ret
 exact ⟨rfl, rfl⟩
set_option maxHeartbeats 1000000 in
theorem cpsF_any (b off cap n : Nat) (f : Nat → Value) (w : World) (h : ∀ j, j < n * 4 → w.cell? ⟨b, off + j, none⟩ = some (f j)) (h1 : ∀ j, j < n * 4 → (f j).oneCell' = true) (hn : n ≤ 1048576) :
  Calls Tryz.prog 132 #[.slice (some ⟨b, off, none⟩) n cap] w fun r w' => ∃ v', r = .returned v' ∧ w'.ownsRow w.heap.size 96 4 v' n (rv f (n * 4)) ∧ Below w.heap.size w w' := by
 obtain ⟨ti, hi, hz0, hz1, hz2⟩ := info_parts infF
 have hc := src_cells h
 have ho := rv_one h1
 clear h h1
 go_enter Tryz.func132, Tryz.ntmps132
 go_wp2_with (at_builtin; refine wpList_append_own _ rfl _ _ 34 rfl w.heap.size 96 ti (.agg #[.int .i64 0, .int .i64 0, .int .i64 0, .bool false]) 4 32 Tryz.underlying34 hi hz0 hz1 hz2 rfl (by decide) _ _ _ rfl (World.ownsRow_nil w w.heap.size 96 4) ⟨b, off, none⟩ n cap (rv f (n * 4)) rfl (rv_len _ _) hc ho ?c3 ?c4 ?c5 ?_)
 case c3 => unfold maxLen; omega
 case c4 => omega
 case c5 => exact Nat.le_refl _
 ·intro v' w2 hown' hgrow _
  have B2 := (Below.refl w.heap.size w).grown hgrow (Nat.le_refl _) (fun k hk => by cases hk)
  have own2 : w2.ownsRow w.heap.size 96 4 v' n (rv f (n * 4)) := by simpa using hown'
  clear hown' hgrow
  go_wp2
  go_ret
  exact ⟨_, rfl, own2, B2⟩
theorem cpF_any (v : Value) (n : Nat) (f : Nat → Value) (w : World) (h : Src w v n (n * 4) f) (h1 : ∀ j, j < n * 4 → (f j).oneCell' = true) (hn : n ≤ 1048576) :
  Calls Tryz.prog 132 #[v] w fun r w' => ∃ v', r = .returned v' ∧ w'.ownsRow w.heap.size 96 4 v' n (rv f (n * 4)) ∧ Below w.heap.size w w' := by
 rcases h with ⟨rfl, rfl⟩ | ⟨b, off, cap, rfl, _, hc⟩
 ·refine (cpnF_any w).mono ?_
  rintro r w' ⟨rfl, rfl⟩
  exact ⟨_, rfl, World.ownsRow_nil _ _ _ _, Below.refl _ _⟩
 ·exact cpsF_any b off cap n f w hc h1 hn
theorem infT : (Tryz.prog.info? 127).map (fun i => (i.zero, i.size, i.bytes)) = some (some (.agg #[.int .i64 0, .int .i64 0, .int .i64 0, .bool false, .int .i64 0]), 5, 40) := by kernel_rfl
theorem cpnT_any (w : World) : Calls Tryz.prog 177 #[.slice none 0 0] w fun r w' => r = .returned (.slice none 0 0) ∧ w' = w := by
 go_enter Tryz.func177, Tryz.ntmps177
 go_wp2
 go_ret
 exact ⟨rfl, rfl⟩
set_option maxHeartbeats 1000000 in
theorem cpsT_any (b off cap n : Nat) (f : Nat → Value) (w : World) (h : ∀ j, j < n * 5 → w.cell? ⟨b, off + j, none⟩ = some (f j)) (h1 : ∀ j, j < n * 5 → (f j).oneCell' = true) (hn : n ≤ 1048576) :
  Calls Tryz.prog 177 #[.slice (some ⟨b, off, none⟩) n cap] w fun r w' => ∃ v', r = .returned v' ∧ w'.ownsRow w.heap.size 127 5 v' n (rv f (n * 5)) ∧ Below w.heap.size w w' := by
 obtain ⟨ti, hi, hz0, hz1, hz2⟩ := info_parts infT
 have hc := src_cells h
 have ho := rv_one h1
 clear h h1
 go_enter Tryz.func177, Tryz.ntmps177
 go_wp2_with (at_builtin; refine wpList_append_own _ rfl _ _ 35 rfl w.heap.size 127 ti (.agg #[.int .i64 0, .int .i64 0, .int .i64 0, .bool false, .int .i64 0]) 5 40 Tryz.underlying35 hi hz0 hz1 hz2 rfl (by decide) _ _ _ rfl (World.ownsRow_nil w w.heap.size 127 5) ⟨b, off, none⟩ n cap (rv f (n * 5)) rfl (rv_len _ _) hc ho ?c3 ?c4 ?c5 ?_)
 case c3 => unfold maxLen; omega
 case c4 => omega
 case c5 => exact Nat.le_refl _
 ·intro v' w2 hown' hgrow _
  have B2 := (Below.refl w.heap.size w).grown hgrow (Nat.le_refl _) (fun k hk => by cases hk)
  have own2 : w2.ownsRow w.heap.size 127 5 v' n (rv f (n * 5)) := by simpa using hown'
  clear hown' hgrow
  go_wp2
  go_ret
  exact ⟨_, rfl, own2, B2⟩
theorem cpT_any (v : Value) (n : Nat) (f : Nat → Value) (w : World) (h : Src w v n (n * 5) f) (h1 : ∀ j, j < n * 5 → (f j).oneCell' = true) (hn : n ≤ 1048576) :
  Calls Tryz.prog 177 #[v] w fun r w' => ∃ v', r = .returned v' ∧ w'.ownsRow w.heap.size 127 5 v' n (rv f (n * 5)) ∧ Below w.heap.size w w' := by
 rcases h with ⟨rfl, rfl⟩ | ⟨b, off, cap, rfl, _, hc⟩
 ·refine (cpnT_any w).mono ?_
  rintro r w' ⟨rfl, rfl⟩
  exact ⟨_, rfl, World.ownsRow_nil _ _ _ _, Below.refl _ _⟩
 ·exact cpsT_any b off cap n f w hc h1 hn
theorem infD : (Tryz.prog.info? 121).map (fun i => (i.zero, i.size, i.bytes)) = some (some (.agg #[.int .i64 0, .int .i64 0, .int .i64 0, .slice none 0 0]), 4, 48) := by kernel_rfl
theorem cpnD_any (w : World) : Calls Tryz.prog 178 #[.slice none 0 0] w fun r w' => r = .returned (.slice none 0 0) ∧ w' = w := by
 go_enter Tryz.func178, Tryz.ntmps178
 go_wp2
 go_ret
 exact ⟨rfl, rfl⟩
set_option maxHeartbeats 1000000 in
theorem cpsD_any (b off cap n : Nat) (f : Nat → Value) (w : World) (h : ∀ j, j < n * 4 → w.cell? ⟨b, off + j, none⟩ = some (f j)) (h1 : ∀ j, j < n * 4 → (f j).oneCell' = true) (hn : n ≤ 1048576) :
  Calls Tryz.prog 178 #[.slice (some ⟨b, off, none⟩) n cap] w fun r w' => ∃ v', r = .returned v' ∧ w'.ownsRow w.heap.size 121 4 v' n (rv f (n * 4)) ∧ Below w.heap.size w w' := by
 obtain ⟨ti, hi, hz0, hz1, hz2⟩ := info_parts infD
 have hc := src_cells h
 have ho := rv_one h1
 clear h h1
 go_enter Tryz.func178, Tryz.ntmps178
 go_wp2_with (at_builtin; refine wpList_append_own _ rfl _ _ 37 rfl w.heap.size 121 ti (.agg #[.int .i64 0, .int .i64 0, .int .i64 0, .slice none 0 0]) 4 48 Tryz.underlying37 hi hz0 hz1 hz2 rfl (by decide) _ _ _ rfl (World.ownsRow_nil w w.heap.size 121 4) ⟨b, off, none⟩ n cap (rv f (n * 4)) rfl (rv_len _ _) hc ho ?c3 ?c4 ?c5 ?_)
 case c3 => unfold maxLen; omega
 case c4 => omega
 case c5 => exact Nat.le_refl _
 ·intro v' w2 hown' hgrow _
  have B2 := (Below.refl w.heap.size w).grown hgrow (Nat.le_refl _) (fun k hk => by cases hk)
  have own2 : w2.ownsRow w.heap.size 121 4 v' n (rv f (n * 4)) := by simpa using hown'
  clear hown' hgrow
  go_wp2
  go_ret
  exact ⟨_, rfl, own2, B2⟩
theorem cpD_any (v : Value) (n : Nat) (f : Nat → Value) (w : World) (h : Src w v n (n * 4) f) (h1 : ∀ j, j < n * 4 → (f j).oneCell' = true) (hn : n ≤ 1048576) :
  Calls Tryz.prog 178 #[v] w fun r w' => ∃ v', r = .returned v' ∧ w'.ownsRow w.heap.size 121 4 v' n (rv f (n * 4)) ∧ Below w.heap.size w w' := by
 rcases h with ⟨rfl, rfl⟩ | ⟨b, off, cap, rfl, _, hc⟩
 ·refine (cpnD_any w).mono ?_
  rintro r w' ⟨rfl, rfl⟩
  exact ⟨_, rfl, World.ownsRow_nil _ _ _ _, Below.refl _ _⟩
 ·exact cpsD_any b off cap n f w hc h1 hn
theorem infI : (Tryz.prog.info? 3).map (fun i => (i.zero, i.size, i.bytes)) = some (some (.int .i64 0), 1, 8) := by kernel_rfl
theorem cpnI_any (w : World) : Calls Tryz.prog 179 #[.slice none 0 0] w fun r w' => r = .returned (.slice none 0 0) ∧ w' = w := by
 go_enter Tryz.func179, Tryz.ntmps179
 go_wp2
 go_ret
 exact ⟨rfl, rfl⟩
set_option maxHeartbeats 1000000 in
theorem cpsI_any (b off cap n : Nat) (f : Nat → Value) (w : World) (h : ∀ j, j < n * 1 → w.cell? ⟨b, off + j, none⟩ = some (f j)) (h1 : ∀ j, j < n * 1 → (f j).oneCell' = true) (hn : n ≤ 1048576) :
  Calls Tryz.prog 179 #[.slice (some ⟨b, off, none⟩) n cap] w fun r w' => ∃ v', r = .returned v' ∧ w'.ownsRow w.heap.size 3 1 v' n (rv f (n * 1)) ∧ Below w.heap.size w w' := by
 obtain ⟨ti, hi, hz0, hz1, hz2⟩ := info_parts infI
 have hc := src_cells h
 have ho := rv_one h1
 clear h h1
 go_enter Tryz.func179, Tryz.ntmps179
 go_wp2_with (at_builtin; refine wpList_append_own _ rfl _ _ 54 rfl w.heap.size 3 ti (.int .i64 0) 1 8 Tryz.underlying54 hi hz0 hz1 hz2 rfl (by decide) _ _ _ rfl (World.ownsRow_nil w w.heap.size 3 1) ⟨b, off, none⟩ n cap (rv f (n * 1)) rfl (rv_len _ _) hc ho ?c3 ?c4 ?c5 ?_)
 case c3 => unfold maxLen; omega
 case c4 => omega
 case c5 => exact Nat.le_refl _
 ·intro v' w2 hown' hgrow _
  have B2 := (Below.refl w.heap.size w).grown hgrow (Nat.le_refl _) (fun k hk => by cases hk)
  have own2 : w2.ownsRow w.heap.size 3 1 v' n (rv f (n * 1)) := by simpa using hown'
  clear hown' hgrow
  go_wp2
  go_ret
  exact ⟨_, rfl, own2, B2⟩
theorem cpI_any (v : Value) (n : Nat) (f : Nat → Value) (w : World) (h : Src w v n (n * 1) f) (h1 : ∀ j, j < n * 1 → (f j).oneCell' = true) (hn : n ≤ 1048576) :
  Calls Tryz.prog 179 #[v] w fun r w' => ∃ v', r = .returned v' ∧ w'.ownsRow w.heap.size 3 1 v' n (rv f (n * 1)) ∧ Below w.heap.size w w' := by
 rcases h with ⟨rfl, rfl⟩ | ⟨b, off, cap, rfl, _, hc⟩
 ·refine (cpnI_any w).mono ?_
  rintro r w' ⟨rfl, rfl⟩
  exact ⟨_, rfl, World.ownsRow_nil _ _ _ _, Below.refl _ _⟩
 ·exact cpsI_any b off cap n f w hc h1 hn
theorem infP : (Tryz.prog.info? 103).map (fun i => (i.zero, i.size, i.bytes)) = some (some (.agg #[.int .i64 0, .int .i64 0, .int .i64 0, .int .i64 0, .int .i64 0, .slice none 0 0]), 6, 64) := by kernel_rfl
theorem cpnP_any (w : World) : Calls Tryz.prog 134 #[.slice none 0 0] w fun r w' => r = .returned (.slice none 0 0) ∧ w' = w := by
 go_enter Tryz.func134, Tryz.ntmps134
 go_wp2
 go_ret
 exact ⟨rfl, rfl⟩
set_option maxHeartbeats 1000000 in
theorem cpsP_any (b off cap n : Nat) (f : Nat → Value) (w : World) (h : ∀ j, j < n * 6 → w.cell? ⟨b, off + j, none⟩ = some (f j)) (h1 : ∀ j, j < n * 6 → (f j).oneCell' = true) (hn : n ≤ 1048576) :
  Calls Tryz.prog 134 #[.slice (some ⟨b, off, none⟩) n cap] w fun r w' => ∃ v', r = .returned v' ∧ w'.ownsRow w.heap.size 103 6 v' n (rv f (n * 6)) ∧ Below w.heap.size w w' := by
 obtain ⟨ti, hi, hz0, hz1, hz2⟩ := info_parts infP
 have hc := src_cells h
 have ho := rv_one h1
 clear h h1
 go_enter Tryz.func134, Tryz.ntmps134
 go_wp2_with (at_builtin; refine wpList_append_own _ rfl _ _ 39 rfl w.heap.size 103 ti (.agg #[.int .i64 0, .int .i64 0, .int .i64 0, .int .i64 0, .int .i64 0, .slice none 0 0]) 6 64 Tryz.underlying39 hi hz0 hz1 hz2 rfl (by decide) _ _ _ rfl (World.ownsRow_nil w w.heap.size 103 6) ⟨b, off, none⟩ n cap (rv f (n * 6)) rfl (rv_len _ _) hc ho ?c3 ?c4 ?c5 ?_)
 case c3 => unfold maxLen; omega
 case c4 => omega
 case c5 => exact Nat.le_refl _
 ·intro v' w2 hown' hgrow _
  have B2 := (Below.refl w.heap.size w).grown hgrow (Nat.le_refl _) (fun k hk => by cases hk)
  have own2 : w2.ownsRow w.heap.size 103 6 v' n (rv f (n * 6)) := by simpa using hown'
  clear hown' hgrow
  go_wp2
  go_ret
  exact ⟨_, rfl, own2, B2⟩
theorem cpP_any (v : Value) (n : Nat) (f : Nat → Value) (w : World) (h : Src w v n (n * 6) f) (h1 : ∀ j, j < n * 6 → (f j).oneCell' = true) (hn : n ≤ 1048576) :
  Calls Tryz.prog 134 #[v] w fun r w' => ∃ v', r = .returned v' ∧ w'.ownsRow w.heap.size 103 6 v' n (rv f (n * 6)) ∧ Below w.heap.size w w' := by
 rcases h with ⟨rfl, rfl⟩ | ⟨b, off, cap, rfl, _, hc⟩
 ·refine (cpnP_any w).mono ?_
  rintro r w' ⟨rfl, rfl⟩
  exact ⟨_, rfl, World.ownsRow_nil _ _ _ _, Below.refl _ _⟩
 ·exact cpsP_any b off cap n f w hc h1 hn
theorem infO : (Tryz.prog.info? 123).map (fun i => (i.zero, i.size, i.bytes)) = some (some (.agg #[.int .i64 0, .slice none 0 0]), 2, 32) := by kernel_rfl
theorem cpnO_any (w : World) : Calls Tryz.prog 180 #[.slice none 0 0] w fun r w' => r = .returned (.slice none 0 0) ∧ w' = w := by
 go_enter Tryz.func180, Tryz.ntmps180
 go_wp2
 go_ret
 exact ⟨rfl, rfl⟩
set_option maxHeartbeats 1000000 in
theorem cpsO_any (b off cap n : Nat) (f : Nat → Value) (w : World) (h : ∀ j, j < n * 2 → w.cell? ⟨b, off + j, none⟩ = some (f j)) (h1 : ∀ j, j < n * 2 → (f j).oneCell' = true) (hn : n ≤ 1048576) :
  Calls Tryz.prog 180 #[.slice (some ⟨b, off, none⟩) n cap] w fun r w' => ∃ v', r = .returned v' ∧ w'.ownsRow w.heap.size 123 2 v' n (rv f (n * 2)) ∧ Below w.heap.size w w' := by
 obtain ⟨ti, hi, hz0, hz1, hz2⟩ := info_parts infO
 have hc := src_cells h
 have ho := rv_one h1
 clear h h1
 go_enter Tryz.func180, Tryz.ntmps180
 go_wp2_with (at_builtin; refine wpList_append_own _ rfl _ _ 40 rfl w.heap.size 123 ti (.agg #[.int .i64 0, .slice none 0 0]) 2 32 Tryz.underlying40 hi hz0 hz1 hz2 rfl (by decide) _ _ _ rfl (World.ownsRow_nil w w.heap.size 123 2) ⟨b, off, none⟩ n cap (rv f (n * 2)) rfl (rv_len _ _) hc ho ?c3 ?c4 ?c5 ?_)
 case c3 => unfold maxLen; omega
 case c4 => omega
 case c5 => exact Nat.le_refl _
 ·intro v' w2 hown' hgrow _
  have B2 := (Below.refl w.heap.size w).grown hgrow (Nat.le_refl _) (fun k hk => by cases hk)
  have own2 : w2.ownsRow w.heap.size 123 2 v' n (rv f (n * 2)) := by simpa using hown'
  clear hown' hgrow
  go_wp2
  go_ret
  exact ⟨_, rfl, own2, B2⟩
theorem cpO_any (v : Value) (n : Nat) (f : Nat → Value) (w : World) (h : Src w v n (n * 2) f) (h1 : ∀ j, j < n * 2 → (f j).oneCell' = true) (hn : n ≤ 1048576) :
  Calls Tryz.prog 180 #[v] w fun r w' => ∃ v', r = .returned v' ∧ w'.ownsRow w.heap.size 123 2 v' n (rv f (n * 2)) ∧ Below w.heap.size w w' := by
 rcases h with ⟨rfl, rfl⟩ | ⟨b, off, cap, rfl, _, hc⟩
 ·refine (cpnO_any w).mono ?_
  rintro r w' ⟨rfl, rfl⟩
  exact ⟨_, rfl, World.ownsRow_nil _ _ _ _, Below.refl _ _⟩
 ·exact cpsO_any b off cap n f w hc h1 hn
theorem fv_one (F : Nat → Fc) (j : Nat) : (fv F j).oneCell' = true := by
 unfold fv
 repeat' split
 all_goals rfl
theorem tv_one (F : Nat → It) (j : Nat) : (tv F j).oneCell' = true := by
 unfold tv
 repeat' split
 all_goals rfl
theorem nv_one (f : Nat → Int) (j : Nat) : (nv f j).oneCell' = true := rfl
theorem sl_one {v : Value} {n : Nat} (h : v = .slice (aOf v) n (kOf v)) : v.oneCell' = true := by rw [h]; rfl
def Fine (a : Option Addr) (n c : Nat) : Prop := (a = none ∧ n = 0 ∧ c = 0) ∨ ∃ b off, a = some ⟨b, off, none⟩
theorem own_fine {w : World} {base e size n : Nat} {v : Value} {xs : List Value} (h : w.ownsRow base e size v n xs) : Fine (aOf v) n (kOf v) := by
 rcases own_cases h with ⟨rfl, rfl⟩ | ⟨g, c, rfl, _⟩
 ·exact .inl ⟨rfl, rfl, rfl⟩
 ·exact .inr ⟨g, 0, rfl⟩
structure LocF (n : Nod) (L : Loc) : Prop where
 t : Fine L.ta n.T.length L.tc
 c : Fine L.ca n.C.length L.cc
 d : Fine L.da n.D.length L.dc
 db : ∀ j, j < n.D.length → Fine (L.dA j) (dN n.D j) (L.dC j)
 p : Fine L.pla n.P.length L.plc
 pb : ∀ j, j < n.P.length → Fine (L.pA j) (pN n.P j) (L.pC j)
 o : Fine L.oa n.O.length L.oc
 ob : ∀ j, j < n.O.length → Fine (L.oA j) (oN n.O j) (L.oC j)
theorem NdO.fine {w : World} {base : Nat} {n : Nod} {v1 v2 v3 v4 v5 : Value} {sD sP sO : Nat → Value} (h : NdO w base n v1 v2 v3 v4 v5 sD sP sO) : LocF n (locW v1 v2 v3 v4 v5 sD sP sO) :=
 ⟨own_fine h.t, own_fine h.c, own_fine h.d.row, fun j hj => own_fine (h.d.nest j hj), own_fine h.p.row, fun j hj => own_fine (h.p.nest j hj), own_fine h.o.row, fun j hj => own_fine (h.o.nest j hj)⟩
theorem src_of {w : World} {a : Option Addr} {n c k : Nat} {f : Nat → Value} (hf : Fine a n c) (hk : n = 0 → k = 0) (h : 0 < n → ∃ b off, a = some ⟨b, off, none⟩ ∧ b < w.heap.size ∧ ∀ j, j < k → w.cell? ⟨b, off + j, none⟩ = some (f j)) : Src w (.slice a n c) n k f := by
 rcases hf with ⟨rfl, rfl, rfl⟩ | ⟨b, off, rfl⟩
 ·exact .inl ⟨rfl, rfl⟩
 ·rcases Nat.eq_zero_or_pos n with e | e
  ·have := hk e
   subst this
   exact .inr ⟨b, off, c, rfl, fun q => by omega, fun j hj => by omega⟩
  ·obtain ⟨b', off', e', hl, hc⟩ := h e
   simp only [Option.some.injEq, Addr.mk.injEq, and_true] at e'
   obtain ⟨rfl, rfl⟩ := e'
   exact .inr ⟨b, off, c, rfl, fun _ => hl, hc⟩
theorem fsl_src {w : World} {a : Option Addr} {n c : Nat} {F : Nat → Fc} (h : FSl w a n F) (hf : Fine a n c) : Src w (.slice a n c) n (n * 4) (fv F) := src_of hf (by omega) fun hl => by
 obtain ⟨b, off, e, hb, hc⟩ := h hl
 refine ⟨b, off, e, hb, fun j hj => ?_⟩
 obtain ⟨c0, c1, c2, c3⟩ := hc (j / 4) (by omega)
 have : j % 4 = 0 ∨ j % 4 = 1 ∨ j % 4 = 2 ∨ j % 4 = 3 := by omega
 rcases this with hr | hr | hr | hr
 ·rw [show off + j / 4 * 4 = off + j by omega] at c0; rw [c0, fv, if_pos hr]
 ·rw [show off + j / 4 * 4 + 1 = off + j by omega] at c1; rw [c1, fv, if_neg (by omega), if_pos hr]
 ·rw [show off + j / 4 * 4 + 2 = off + j by omega] at c2; rw [c2, fv, if_neg (by omega), if_neg (by omega), if_pos hr]
 ·rw [show off + j / 4 * 4 + 3 = off + j by omega] at c3; rw [c3, fv, if_neg (by omega), if_neg (by omega), if_neg (by omega)]
theorem tsl_src {w : World} {a : Option Addr} {n c : Nat} {F : Nat → It} (h : TSl w a n F) (hf : Fine a n c) : Src w (.slice a n c) n (n * 5) (tv F) := src_of hf (by omega) fun hl => by
 obtain ⟨b, off, e, hb, hc⟩ := h hl
 refine ⟨b, off, e, hb, fun j hj => ?_⟩
 obtain ⟨c0, c1, c2, c3, c4⟩ := hc (j / 5) (by omega)
 have : j % 5 = 0 ∨ j % 5 = 1 ∨ j % 5 = 2 ∨ j % 5 = 3 ∨ j % 5 = 4 := by omega
 rcases this with hr | hr | hr | hr | hr
 ·rw [show off + j / 5 * 5 = off + j by omega] at c0; rw [c0, tv, if_pos hr]
 ·rw [show off + j / 5 * 5 + 1 = off + j by omega] at c1; rw [c1, tv, if_neg (by omega), if_pos hr]
 ·rw [show off + j / 5 * 5 + 2 = off + j by omega] at c2; rw [c2, tv, if_neg (by omega), if_neg (by omega), if_pos hr]
 ·rw [show off + j / 5 * 5 + 3 = off + j by omega] at c3; rw [c3, tv, if_neg (by omega), if_neg (by omega), if_neg (by omega), if_pos hr]
 ·rw [show off + j / 5 * 5 + 4 = off + j by omega] at c4; rw [c4, tv, if_neg (by omega), if_neg (by omega), if_neg (by omega), if_neg (by omega)]
theorem isl_src {w : World} {a : Option Addr} {n c : Nat} {f : Nat → Int} (h : ISl w a n f) (hf : Fine a n c) : Src w (.slice a n c) n (n * 1) (nv f) := src_of hf (by omega) fun hl => by
 obtain ⟨b, off, e, hb, hc⟩ := h hl
 exact ⟨b, off, e, hb, fun j hj => hc j (by omega)⟩
theorem dsl_src {w : World} {a : Option Addr} {c : Nat} {l : List Dd} {A : Nat → Option Addr} {C : Nat → Nat} (h : DtSl w a l.length (dF l A C)) (hf : Fine a l.length c) : Src w (.slice a l.length c) l.length (l.length * 4) (dR l fun j => .slice (A j) (dN l j) (C j)) := src_of hf (by omega) fun hl => by
 obtain ⟨b, off, e, hb, hc⟩ := h hl
 refine ⟨b, off, e, hb, fun j hj => ?_⟩
 obtain ⟨c0, c1, c2, c3⟩ := hc (j / 4) (by omega)
 have : j % 4 = 0 ∨ j % 4 = 1 ∨ j % 4 = 2 ∨ j % 4 = 3 := by omega
 rcases this with hr | hr | hr | hr
 ·rw [show off + j / 4 * 4 = off + j by omega] at c0; rw [c0, dR, if_pos hr]; rfl
 ·rw [show off + j / 4 * 4 + 1 = off + j by omega] at c1; rw [c1, dR, if_neg (by omega), if_pos hr]; rfl
 ·rw [show off + j / 4 * 4 + 2 = off + j by omega] at c2; rw [c2, dR, if_neg (by omega), if_neg (by omega), if_pos hr]; rfl
 ·rw [show off + j / 4 * 4 + 3 = off + j by omega] at c3; rw [c3, dR, if_neg (by omega), if_neg (by omega), if_neg (by omega)]; rfl
theorem psl_src {w : World} {a : Option Addr} {c : Nat} {l : List Pd} {A : Nat → Option Addr} {C : Nat → Nat} (h : PlSl w a l.length (pF l A C)) (hf : Fine a l.length c) : Src w (.slice a l.length c) l.length (l.length * 6) (pR l fun j => .slice (A j) (pN l j) (C j)) := src_of hf (by omega) fun hl => by
 obtain ⟨b, off, e, hb, hc⟩ := h hl
 refine ⟨b, off, e, hb, fun j hj => ?_⟩
 obtain ⟨c0, c1, c2, c3, c4, c5⟩ := hc (j / 6) (by omega)
 have : j % 6 = 0 ∨ j % 6 = 1 ∨ j % 6 = 2 ∨ j % 6 = 3 ∨ j % 6 = 4 ∨ j % 6 = 5 := by omega
 rcases this with hr | hr | hr | hr | hr | hr
 ·rw [show off + j / 6 * 6 = off + j by omega] at c0; rw [c0, pR, if_pos hr]; rfl
 ·rw [show off + j / 6 * 6 + 1 = off + j by omega] at c1; rw [c1, pR, if_neg (by omega), if_pos hr]; rfl
 ·rw [show off + j / 6 * 6 + 2 = off + j by omega] at c2; rw [c2, pR, if_neg (by omega), if_neg (by omega), if_pos hr]; rfl
 ·rw [show off + j / 6 * 6 + 3 = off + j by omega] at c3; rw [c3, pR, if_neg (by omega), if_neg (by omega), if_neg (by omega), if_pos hr]; rfl
 ·rw [show off + j / 6 * 6 + 4 = off + j by omega] at c4; rw [c4, pR, if_neg (by omega), if_neg (by omega), if_neg (by omega), if_neg (by omega), if_pos hr]; rfl
 ·rw [show off + j / 6 * 6 + 5 = off + j by omega] at c5; rw [c5, pR, if_neg (by omega), if_neg (by omega), if_neg (by omega), if_neg (by omega), if_neg (by omega)]; rfl
theorem osl_src {w : World} {a : Option Addr} {c : Nat} {l : List Od} {A : Nat → Option Addr} {C : Nat → Nat} (h : FgSl w a l.length (oF l A C)) (hf : Fine a l.length c) : Src w (.slice a l.length c) l.length (l.length * 2) (oR l fun j => .slice (A j) (oN l j) (C j)) := src_of hf (by omega) fun hl => by
 obtain ⟨b, off, e, hb, hc⟩ := h hl
 refine ⟨b, off, e, hb, fun j hj => ?_⟩
 obtain ⟨c0, c1⟩ := hc (j / 2) (by omega)
 have : j % 2 = 0 ∨ j % 2 = 1 := by omega
 rcases this with hr | hr
 ·rw [show off + j / 2 * 2 = off + j by omega] at c0; rw [c0, oR, if_pos hr]; rfl
 ·rw [show off + j / 2 * 2 + 1 = off + j by omega] at c1; rw [c1, oR, if_neg (by omega)]; rfl
end Go.Proofs.YtgcdcfjaeehnbaaGreat
