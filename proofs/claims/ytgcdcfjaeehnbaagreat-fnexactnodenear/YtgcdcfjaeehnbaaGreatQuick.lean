/- A region that draws its order: steps that are cheap to check. -/
import Derived.Deep.RegionHeld3
import Derived.OrdersHeld
namespace Go.Proofs.YtgcdcfjaeehnbaaGreat
/-- every two operations wait for one another, or are apart -/
def freeAll (md : Region.Mode) (ops : Array Oper) : Bool :=
  Region.noSelect ops && (List.range ops.size).all fun i => (List.range ops.size).all fun j => j == i || match ops[i]?, ops[j]? with
    | some oi, some oj => oj.after.any (fun e => Region.binds md e && e.on == i) || oi.after.any (fun e => Region.binds md e && e.on == j) || oi.apart ops oj
    | _, _ => true
/-- an operation may come up -/
def readyAt (md : Region.Mode) (ops : Array Oper) (listed : Array Bool) (i : Nat) : Bool :=
  !listed.getD i true && ((ops[i]?).map (·.after.all fun e => !Region.binds md e || listed.getD e.on false)).getD false
structure FreeAll (md : Region.Mode) (ops : Array Oper) : Prop where
  out : freeAll md ops = true
section
variable {P : Program} {ops : Array Oper} {Q : Exit → Act → World → Prop} {md : Region.Mode} {S : World → Prop}
theorem ready_of_at {listed : Array Bool} {i : Nat} (h : readyAt md ops listed i = true) : (Region.ready md ops listed).contains i = true := by
  have hlt : i < ops.size := by
    rcases Nat.lt_or_ge i ops.size with q | q
    · exact q
    · unfold readyAt at h
      rw [Array.getElem?_eq_none q] at h
      simp at h
  unfold Region.ready
  rw [List.contains_iff_mem, List.mem_filter, List.mem_range]
  exact ⟨hlt, h⟩
theorem getD_other {listed : Array Bool} {j : Nat} (h : listed.getD j false = true) : listed.getD j true = true := by
  rw [Array.getD_eq_getD_getElem?] at h ⊢
  cases e : listed[j]? with
  | none => rfl
  | some b => rw [e] at h; exact h
theorem free_of_all {listed : Array Bool} {i : Nat} (hA : freeAll md ops = true) (h : readyAt md ops listed i = true) : Region.free md ops listed i = true := by
  unfold freeAll at hA
  rw [Bool.and_eq_true] at hA
  have hA := hA.2
  rw [List.all_eq_true] at hA
  have hlt : i < ops.size := by
    rcases Nat.lt_or_ge i ops.size with q | q
    · exact q
    · unfold readyAt at h
      rw [Array.getElem?_eq_none q] at h
      simp at h
  have hi : ops[i]? = some ops[i] := Array.getElem?_eq_getElem hlt
  unfold Region.free
  rw [hi]
  rw [List.all_eq_true]
  intro j hj
  have q := hA i (List.mem_range.2 hlt)
  rw [List.all_eq_true] at q
  have q := q j hj
  have hjl : j < ops.size := List.mem_range.1 hj
  have ho : ops[j]? = some ops[j] := Array.getElem?_eq_getElem hjl
  rw [hi, ho] at q
  rw [ho]
  dsimp only at q ⊢
  unfold readyAt at h
  rw [hi, Bool.and_eq_true] at h
  have h2 := h.2
  simp only [Option.map_some, Option.getD_some] at h2
  rw [Array.all_eq_true_iff_forall_mem] at h2
  simp only [Bool.or_eq_true] at q ⊢
  rcases q with q | (q | q) | q
  · exact .inl (.inl q)
  · exact .inr (.inl q)
  · obtain ⟨e, he, hb⟩ := Array.any_eq_true'.1 q
    rw [Bool.and_eq_true, beq_iff_eq] at hb
    have h3 := h2 e he
    rw [hb.1, hb.2] at h3
    exact .inl (.inr (getD_other (by simpa using h3)))
  · exact .inr (.inr q)
theorem wpAnyH_quick {i : Nat} {oi : Oper} {v : Value} {fuel : Nat} {listed : Array Bool} {a : Act} {w : World} (hF : FreeAll md ops) (L : Array Bool) (hi : ops[i]? = some oi)
    (hr : readyAt md ops listed i = true) (hL : listed.setIfInBounds i true = L)
    (hQ : ∀ c a w, Q (.panic c) (a.put oi.dst v) w → Q (.panic c) a w) (hy : YieldsIf P ops S oi v a) (hS : S w)
    (h : wpAnyH P md ops Q S fuel L (a.put oi.dst v) w) : wpAnyH P md ops Q S (fuel + 1) listed a w :=
  wpAnyH_take hi (by have hA := hF.out; unfold freeAll at hA; rw [Bool.and_eq_true] at hA; exact hA.1) (free_of_all hF.out hr) (ready_of_at hr) hQ hy hS (hL ▸ h)
/-- operations that are passed over, one behind another: each may come up -/
def skipsB (md : Region.Mode) (ops : Array Oper) : List Nat → Array Bool → Bool
  | [], _ => true
  | i :: is, listed => readyAt md ops listed i && skipsB md ops is (listed.setIfInBounds i true)
def skipsL : List Nat → Array Bool → Array Bool
  | [], listed => listed
  | i :: is, listed => skipsL is (listed.setIfInBounds i true)
/-- none of them is wanted -/
def skipsP (ops : Array Oper) : Act → List Nat → Act → Prop
  | a, [], a' => a = a'
  | a, i :: is, a' => ∃ oi, ops[i]? = some oi ∧ Region.wanted oi (yielded ops a.tmps) = false ∧ skipsP ops (a.put oi.dst undef) is a'
end
end Go.Proofs.YtgcdcfjaeehnbaaGreat
