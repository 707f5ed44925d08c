/- Leaving: regions whose orders fork in the midst. -/
import Derived.Test.YtgcdcfjaeehnbaaGreatLv5
namespace Go.Proofs.YtgcdcfjaeehnbaaGreat
open Go.ChangeShapes Go.WideShapes Go.ChangeAt Go.RowKit
attribute [local go_sem ↓] Go.wp_at_zero Go.wp_at_succ
section
variable {P : Program} {md : Region.Mode} {ops : Array Oper} {n : Nat} {Q : Exit → Act → World → Prop} {S : Nat → Prop}
theorem any_w (hF : FreeN md ops n) (hQ : ∀ (d : Option Nat) (v : Value) c a w, Q (.panic c) (a.put d v) w → Q (.panic c) a w) {m : Nat} (L : List Stp) (sch : List (Nat × Nat)) {w0 : World} {a : Act} {w : World} (hB : schedB md ops n m sch = true) (hL : stpsOf ops sch = some L) (hb : Mw S w0 w) (h : wpM P Q (fun _ => Q .normal) S w0 L a w) : wpAnyH P md ops Q (fun w' => Mw S w0 w') sch.length (bits n m) a w := by
 have ff := schedB_E sch m hB
 have tail : ∀ (w0 : World) (a : Act) (w : World), Mw S w0 w → Q .normal a w → wpAnyH P md ops Q (fun w' => Mw S w0 w') 0 (bits n (endS m sch)) a w := fun w0 a w _ q => ⟨List.isEmpty_iff.1 ff.2, q⟩
 rw [← Nat.zero_add sch.length]
 exact wpM_sound (R := fun _ => Q .normal) hF hQ sch L m w0 a w 0 tail hL ff.1 hb h
theorem fork_r {i j m fuel : Nat} {si sj : Stp} {w0 : World} {a : Act} {w : World}
  (hr : Region.ready md ops (bits n m) = [i, j]) (hi : i < n) (hj : j < n) (hsi : stpOf ops i 1 = some si) (hsj : stpOf ops j 1 = some sj) (hg1 : si.g = none) (hg2 : sj.g = none)
  (h1 : wpM P Q (fun w0 a w => Mw S w0 w → wpAnyH P md ops Q (fun w' => Mw S w0 w') fuel (bits n (m ||| (1 <<< i))) a w) S w0 [si] a w) (h2 : wpM P Q (fun w0 a w => Mw S w0 w → wpAnyH P md ops Q (fun w' => Mw S w0 w') fuel (bits n (m ||| (1 <<< j))) a w) S w0 [sj] a w) : wpAnyH P md ops Q (fun w' => Mw S w0 w') (fuel + 1) (bits n m) a w := by
 have key : ∀ (k : Nat) (s : Stp), k < n → stpOf ops k 1 = some s → s.g = none → wpM P Q (fun w0 a w => Mw S w0 w → wpAnyH P md ops Q (fun w' => Mw S w0 w') fuel (bits n (m ||| (1 <<< k))) a w) S w0 [s] a w →
   ∃ o, ops[k]? = some o ∧ ∀ K : Act → World → Prop, Shut (∀ a' w', Mw S w0 w' → ((Mw S w0 w') → wpAnyH P md ops Q (fun w' => Mw S w0 w') fuel ((bits n m).setIfInBounds k true) a' w') → K a' w') → (if Region.wanted o (yielded ops a.tmps) = true then Oper.wp P o a w K Q else K (a.put o.dst undef) w) := by
  intro k s hk hs hg h
  obtain ⟨o, ho, hd, hc, hw, he⟩ := stpOf_spec hs
  have hwt : wantG s.g a.tmps = true := by rw [hg]; rfl
  refine ⟨o, ho, fun K hK => ?_⟩
  rw [if_pos (by rw [hw]; exact hwt)]
  rw [bits_set hk] at hK
  unfold wpM at h
  rcases h with ⟨q1, q2⟩ | ⟨q1, q2, q3⟩ | ⟨q1, q2, q3⟩
  ·rw [hwt] at q1; cases q1
  ·exact absurd hc q2
  ·have h4 := q3 K (fun a' w' hb' hor => hK.out a' w' hb' (fun _ => by
    rcases hor with q | q
    ·unfold wpM at q
     exact q hb'
    ·unfold wpM at q
     exact wpAnyH_mono' (fun x hx => hb'.trans hx) _ _ _ _ (q (Mw.refl _ _))))
   unfold Oper.wp at h4 ⊢
   rw [he]
   have e5 : ∀ r, o.upon P a K Q r = s.op.upon P a K Q r := fun r => by
    unfold Oper.upon
    simp only [hd, Stp.op]
   rw [e5]
   exact h4
 obtain ⟨o1, ho1, k1⟩ := key i si hi hsi hg1 h1
 obtain ⟨o2, ho2, k2⟩ := key j sj hj hsj hg2 h2
 exact wpAnyH_ready hr (by simp) (AllReadyH.cons ho1 k1 (AllReadyH.cons ho2 k2 AllReadyH.nil))
end
theorem wp_region_wr {P : Program} {ops : Array Oper} {Q : Exit → Act → World → Prop} (S : Nat → Prop) {id : Nat} {a : Act} {w : World} (L : List Stp) (sch : List (Nat × Nat)) (rem : Nat)
  (h : FreeN .any ops ops.size → (∀ (d : Option Nat) (v : Value) c a w, Q (.panic c) (a.put d v) w → Q (.panic c) a w) → Mw S w w.drew → wpM P Q (fun w0 a w => Mw S w0 w → wpAnyH P .any ops Q (fun w' => Mw S w0 w') rem (bits ops.size (endS 0 sch)) a w) S w L a w.drew)
  (hs : rem + sch.length = ops.size ∧ freeAll .any ops = true ∧ stpsOf ops sch = some L ∧ schedE .any ops ops.size 0 sch = true := by (refine ⟨?_, ?_, ?_, ?_⟩ <;> kernel_rfl)) (hm : P.follows .mixedOrders = true := by kernel_rfl)
  (hQ : ∀ (d : Option Nat) (v : Value) c a w, Q (.panic c) (a.put d v) w → Q (.panic c) a w := by (intro d v c a w h; cases d <;> exact h)) : (Code.region id ops true).wp P Q a w :=
 wp_region_held_drew (S := fun w' => Mw S w w') hm (Mw.refl _ _).drew (fun hh => by
  obtain ⟨z0, z1, z2, z3⟩ := hs
  rw [bits_zero]
  have hF : FreeN .any ops ops.size := ⟨⟨z1⟩, rfl⟩
  have := wpM_sound (n := ops.size) hF hQ sch L 0 w a w.drew rem (fun w0 a w hb q => q hb) z2 z3 hh (h hF hQ hh)
  rw [z0] at this
  exact this)
theorem mLD {Q : Exit → Act → World → Prop} {R : World → Act → World → Prop} {S : Nat → Prop} {w0 w : World} {d : Option Nat} {g : Option (Nat × Bool)} {rs : List Stp} {a a' : Act} {b : Nat} {xs : List Value} {x : Operand} (hr : w.rangeAt b 0 xs) (hx : xs.length = 21) (hb : Mw S w0 w) (h : wpM Tryz.prog Q R S w0 rs a' w) (e1 : a.eval x = .pointer (some ⟨b, 0, none⟩) := by rfl) (ha : a.put d (.agg xs.toArray) = a' := by (simp only [putQ]; try rfl)) (hw : wantG g a.tmps = true := by kernel_rfl) : wpM Tryz.prog Q R S w0 (⟨d, .load 42 x, 42, g, 1⟩ :: rs) a w := by
 subst ha
 obtain ⟨dd, hu, hd⟩ := row43
 refine mC (fun K hK => ?_) hw
 exact wp_load_mid 42 x rfl b 0 e1 xs dd hr hu hd (hx ▸ size43) (hK.out _ _ hb (.inl h))
set_option maxRecDepth 20000 in
theorem mBW {Q : Exit → Act → World → Prop} {R : World → Act → World → Prop} {S : Nat → Prop} {w0 w : World} {d i : Nat} {rs : List Stp} {a a' : Act} {x : Wo} {af : Option Addr} {m cf : Nat} (hb : Mw S w0 w) (e : a.tmps[i]?.getD undef = .agg (woC x (.slice af m cf)).toArray) (ha : a.put (some d) (.slice (some ⟨w.heap.size, 0, none⟩) 1 1) = a') (h : ∀ w', w' = w.alloc (.cells (woC x (.slice af m cf)).toArray 88) → wpM Tryz.prog Q R S w0 rs a' w') (hw : wantG none a.tmps = true := by kernel_rfl) : wpM Tryz.prog Q R S w0 (⟨some d, .buildSlice 43 1 #[(0, .tmp i)], 43, none, 1⟩ :: rs) a w := by
 subst ha
 refine mC (fun K hK => ?_) hw
 have h2 := h _ rfl
 unfold woC at e h2
 clear h
 go_simp
 exact hK.out _ _ (hb.alloc _) (.inl h2)
end Go.Proofs.YtgcdcfjaeehnbaaGreat
