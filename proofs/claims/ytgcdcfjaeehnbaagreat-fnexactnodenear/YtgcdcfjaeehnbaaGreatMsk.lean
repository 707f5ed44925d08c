/- Walks of great regions, one short line a step: what has come up is a number's bits. -/
import Derived.Test.YtgcdcfjaeehnbaaGreatQuick
import Derived.Test.YtgcdcfjaeehnbaaGreatFact
import Derived.Deep.QuietTactic
namespace Go.Proofs.YtgcdcfjaeehnbaaGreat
def bits (n m : Nat) : Array Bool := Array.ofFn (n := n) fun i => m.testBit i.val
theorem bits_get {n m i : Nat} (h : i < n) : (bits n m)[i]? = some (m.testBit i) := by
  unfold bits
  rw [Array.getElem?_ofFn]
  simp [h]
theorem bits_none {n m i : Nat} (h : ¬ i < n) : (bits n m)[i]? = none := by
  unfold bits
  rw [Array.getElem?_ofFn]
  simp [h]
theorem bits_zero (n : Nat) : Array.replicate n false = bits n 0 := by
  apply Array.ext_getElem?
  intro i
  by_cases h : i < n
  · rw [bits_get h]; simp [h]
  · rw [bits_none h]; simp [h]
theorem bits_set {n m i : Nat} (hi : i < n) : (bits n m).setIfInBounds i true = bits n (m ||| (1 <<< i)) := by
  apply Array.ext_getElem?
  intro j
  have hs : (bits n m).size = n := by simp [bits]
  by_cases h : j < n
  · rw [bits_get h]
    by_cases e : i = j
    · subst e
      rw [Array.getElem?_setIfInBounds_self_of_lt (by rw [hs]; exact hi)]
      simp [Nat.testBit_or, Nat.shiftLeft_eq, Nat.testBit_two_pow_self]
    · rw [Array.getElem?_setIfInBounds_ne e, bits_get h]
      simp [Nat.testBit_or, Nat.shiftLeft_eq, e]
  · rw [bits_none h, Array.getElem?_eq_none (by simp [hs]; omega)]
/-- an operation may come up -/
def readyM (md : Region.Mode) (ops : Array Oper) (n m i : Nat) : Bool :=
  Nat.blt i n && !m.testBit i && ((ops[i]?).map (·.after.all fun e => !Region.binds md e || (Nat.blt e.on n && m.testBit e.on))).getD false
structure FreeN (md : Region.Mode) (ops : Array Oper) (n : Nat) : Prop where
  fa : FreeAll md ops
  sz : ops.size = n
section
variable {P : Program} {ops : Array Oper} {Q : Exit → Act → World → Prop} {md : Region.Mode} {S : World → Prop} {n m i fuel : Nat} {a : Act} {w : World} {oi : Oper}
theorem ready_of_m (h : readyM md ops n m i = true) : readyAt md ops (bits n m) i = true := by
  unfold readyM at h
  rw [Bool.and_eq_true, Bool.and_eq_true] at h
  obtain ⟨⟨h1, h2⟩, h3⟩ := h
  have hi : i < n := by simpa [Nat.blt_eq] using h1
  unfold readyAt
  rw [Array.getD_eq_getD_getElem?, bits_get hi, Option.getD_some, h2, Bool.true_and]
  cases e : ops[i]? with
  | none => rw [e] at h3; exact h3
  | some o =>
    rw [e] at h3
    simp only [Option.map_some, Option.getD_some] at h3 ⊢
    rw [Array.all_eq_true_iff_forall_mem] at h3 ⊢
    intro x hx
    have := h3 x hx
    rw [Bool.or_eq_true] at this ⊢
    rcases this with q | q
    · exact .inl q
    · rw [Bool.and_eq_true] at q
      have hon : x.on < n := by simpa [Nat.blt_eq] using q.1
      refine .inr ?_
      rw [Array.getD_eq_getD_getElem?, bits_get hon, Option.getD_some]
      exact q.2
theorem lt_of_m (h : readyM md ops n m i = true) : i < n := by
  unfold readyM at h
  rw [Bool.and_eq_true, Bool.and_eq_true] at h
  simpa [Nat.blt_eq] using h.1.1
theorem mstep {v : Value} (hF : FreeN md ops n) (hi : ops[i]? = some oi) (m' : Nat) (hy : YieldsIf P ops S oi v a)
    (h : wpAnyH P md ops Q S fuel (bits n m') (a.put oi.dst v) w) (hr : readyM md ops n m i = true) (hm : m ||| (1 <<< i) = m')
    (hQ : ∀ c a w, Q (.panic c) (a.put oi.dst v) w → Q (.panic c) a w) (hS : S w) : wpAnyH P md ops Q S (fuel + 1) (bits n m) a w :=
  wpAnyH_quick hF.fa (bits n m') hi (ready_of_m hr) ((bits_set (lt_of_m hr)).trans (by rw [hm])) hQ hy hS h
/-- an operation that yields -/
theorem stY {v : Value} (hF : FreeN md ops n) (hi : ops[i]? = some oi) (m' : Nat) (h : wpAnyH P md ops Q S fuel (bits n m') (a.put oi.dst v) w)
    (hy : ∀ w, S w → (execOp a.eval oi).run P w = .ok (.value v) w := by (intro w hSw; (try dsimp only at hSw); go_simp; try with_reducible rfl))
    (hr : readyM md ops n m i = true := by kernel_rfl) (hm : m ||| (1 <<< i) = m' := by kernel_rfl)
    (hQ : ∀ c a w, Q (.panic c) (a.put oi.dst v) w → Q (.panic c) a w := by exact fun _ _ _ h => h) (hw : Region.wanted oi (yielded ops a.tmps) = true := by kernel_rfl) (hS : S w := by assumption) :
    wpAnyH P md ops Q S (fuel + 1) (bits n m) a w := mstep hF hi m' (Or.inl ⟨hw, hy⟩) h hr hm hQ hS
/-- an operation that yields a given value -/
theorem stV (v : Value) (hF : FreeN md ops n) (hi : ops[i]? = some oi) (m' : Nat) (hy : ∀ w, S w → (execOp a.eval oi).run P w = .ok (.value v) w) (h : wpAnyH P md ops Q S fuel (bits n m') (a.put oi.dst v) w)
    (hr : readyM md ops n m i = true := by kernel_rfl) (hm : m ||| (1 <<< i) = m' := by kernel_rfl)
    (hQ : ∀ c a w, Q (.panic c) (a.put oi.dst v) w → Q (.panic c) a w := by exact fun _ _ _ h => h) (hw : Region.wanted oi (yielded ops a.tmps) = true := by kernel_rfl) (hS : S w := by assumption) :
    wpAnyH P md ops Q S (fuel + 1) (bits n m) a w := mstep hF hi m' (Or.inl ⟨hw, hy⟩) h hr hm hQ hS
/-- an operation that yields by a law of its own -/
theorem stW (v : Value) (hF : FreeN md ops n) (hi : ops[i]? = some oi) (m' : Nat) (hy : YieldsIf P ops S oi v a) (h : wpAnyH P md ops Q S fuel (bits n m') (a.put oi.dst v) w)
    (hr : readyM md ops n m i = true := by kernel_rfl) (hm : m ||| (1 <<< i) = m' := by kernel_rfl)
    (hQ : ∀ c a w, Q (.panic c) (a.put oi.dst v) w → Q (.panic c) a w := by exact fun _ _ _ h => h) (hS : S w := by assumption) :
    wpAnyH P md ops Q S (fuel + 1) (bits n m) a w := mstep hF hi m' hy h hr hm hQ hS
/-- an operation that is passed over -/
theorem stN (hF : FreeN md ops n) (hi : ops[i]? = some oi) (m' : Nat) (h : wpAnyH P md ops Q S fuel (bits n m') (a.put oi.dst undef) w)
    (hr : readyM md ops n m i = true := by kernel_rfl) (hm : m ||| (1 <<< i) = m' := by kernel_rfl)
    (hQ : ∀ c a w, Q (.panic c) (a.put oi.dst undef) w → Q (.panic c) a w := by exact fun _ _ _ h => h) (hw : Region.wanted oi (yielded ops a.tmps) = false := by kernel_rfl) (hS : S w := by assumption) :
    wpAnyH P md ops Q S (fuel + 1) (bits n m) a w := mstep hF hi m' (Or.inr ⟨hw, rfl⟩) h hr hm hQ hS
/-- an operation that is carried out -/
theorem stC (hF : FreeN md ops n) (hi : ops[i]? = some oi) (m' : Nat)
    (h : ∀ K' : Act → World → Prop, Shut (∀ a w, S w → (S w → wpAnyH P md ops Q S fuel (bits n m') a w) → K' a w) → Oper.wp P oi a w K' Q)
    (hr : Region.ready md ops (bits n m) = [i] := by kernel_rfl) (hm : m ||| (1 <<< i) = m' := by kernel_rfl) (hw : Region.wanted oi (yielded ops a.tmps) = true := by kernel_rfl) :
    wpAnyH P md ops Q S (fuel + 1) (bits n m) a w :=
  wpAnyH_ready hr (by simp) (AllReadyH.cons hi (fun K hK => by
    rw [if_pos hw]
    have hlt : i < n := by rw [← hF.sz]; exact (Array.getElem?_eq_some_iff.1 hi).1
    rw [bits_set hlt, hm] at hK
    exact h K hK) AllReadyH.nil)
theorem wp_region_m {id : Nat} (ops : Array Oper) (n : Nat) (hF : FreeN .any ops n) (hS : S w.drew) (h : S w.drew → wpAnyH P .any ops Q S n (bits n 0) a w.drew) (hm : P.follows .mixedOrders = true := by kernel_rfl) : (Code.region id ops true).wp P Q a w :=
  wp_region_held_drew hm hS (fun hh => by rw [hF.sz, bits_zero]; exact h hh)
/-- a region in its order, from a place on -/
def wpFrom (P : Program) (ops : Array Oper) (Q : Exit → Act → World → Prop) (k : Nat) (a : Act) (w : World) : Prop := wpList P ops Q (ops.toList.drop k) a w
theorem drop_at {k : Nat} (hi : ops[k]? = some oi) : ops.toList.drop k = oi :: ops.toList.drop (k + 1) := by
  rw [← Array.getElem?_toList] at hi
  obtain ⟨h1, h2⟩ := List.getElem?_eq_some_iff.1 hi
  rw [← h2]
  exact List.drop_eq_getElem_cons h1
theorem wp_region_p {id : Nat} (ops : Array Oper) (h : wpFrom P ops Q 0 a w) : (Code.region id ops false).wp P Q a w := by
  unfold wpFrom at h
  exact wp_region_list (by simpa using h)
theorem lsE {k : Nat} (h : Q .normal a w) (hk : ops.toList.drop k = [] := by kernel_rfl) : wpFrom P ops Q k a w := by
  unfold wpFrom
  rw [hk]
  exact h
end
theorem putQ : (∀ (t : Array Value) (d) (i : Nat) (v : Value), (Act.mk t d).put (some i) v = Act.mk (t.setIfInBounds i v) d) ∧ (∀ (a : Act) (v : Value), a.put none v = a) ∧ (∀ (l : List Value) (i : Nat) (x : Value), l.toArray.setIfInBounds i x = (l.set i x).toArray) ∧ (∀ (x y : Value) (l : List Value), (x :: l).set 0 y = y :: l) ∧ (∀ (x y : Value) (n : Nat) (l : List Value), (x :: l).set (n + 1) y = x :: l.set n y) := ⟨fun _ _ _ _ => rfl, fun _ _ => rfl, fun _ _ _ => by simp, fun _ _ _ => rfl, fun _ _ _ _ => rfl⟩
end Go.Proofs.YtgcdcfjaeehnbaaGreat
