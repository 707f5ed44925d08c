/- Each fact is told just as often as it is to be: what one turn leaves (no program in this text). -/
import Derived.Test.YthfafmafhodlkaaITm
namespace Go.Proofs.Ythfafmafhodlkaa.I
/-- how often a node is still to be told -/
def lft (L : List It) (k : Int) : Int := match tget L k with
  | some x => x.l
  | none => 0
def tot (L : List It) : Nat := (L.map fun x => x.l.toNat).sum
theorem leftI_n {q : It → Bool} {x y : It} (h : leftI q x = some y) : y.n = x.n ∧ itF y = itF x ∧ 0 < y.l ∧ y.l = x.l - (if q x = true then 1 else 0) := by
  unfold leftI at h
  split at h
  · rename_i hq
    split at h
    · cases h
      refine ⟨rfl, rfl, by simp only [lessI]; omega, by simp [lessI, hq]⟩
    · cases h
  · rename_i hq
    split at h
    · cases h
      exact ⟨rfl, rfl, by assumption, by simp [hq]⟩
    · cases h
theorem leftI_none {q : It → Bool} {x : It} (h : leftI q x = none) : x.l - (if q x = true then 1 else 0) ≤ 0 := by
  unfold leftI at h
  split at h
  · rename_i hq
    split at h
    · cases h
    · simp [hq]; omega
  · rename_i hq
    split at h
    · cases h
    · simp [hq]; omega
theorem gL_mem {q : It → Bool} {L : List It} {y : It} (h : y ∈ gL q L) : ∃ x ∈ L, leftI q x = some y := by
  unfold gL at h
  obtain ⟨x, hx, e⟩ := List.mem_filterMap.1 h
  exact ⟨x, hx, e⟩
theorem gL_asc {q : It → Bool} : ∀ {L : List It}, Asc L → Asc (gL q L)
  | [], _ => List.Pairwise.nil
  | a :: r, h => by
    obtain ⟨h1, h2⟩ := asc_cons.1 h
    have ih := gL_asc (q := q) h2
    unfold gL at ih ⊢
    rw [List.filterMap_cons]
    split
    · exact ih
    · rename_i b hb
      refine asc_cons.2 ⟨fun y hy => ?_, ih⟩
      obtain ⟨x, hx, e⟩ := List.mem_filterMap.1 hy
      have := (leftI_n e).1
      have := (leftI_n hb).1
      have := h1 x hx
      omega
theorem gL_get {q : It → Bool} : ∀ {L : List It}, Asc L → ∀ k, tget (gL q L) k = match tget L k with | none => none | some x => leftI q x
  | [], _, k => rfl
  | a :: r, h, k => by
    obtain ⟨h1, h2⟩ := asc_cons.1 h
    have ih := gL_get (q := q) h2 k
    have hlow : a.n = k → tget (gL q r) k = none := fun e => tget_low (fun g hg => by
      obtain ⟨x, hx, e'⟩ := gL_mem hg
      have := (leftI_n e').1
      have := h1 x hx
      omega)
    rw [tget_cons]
    unfold gL at ih hlow ⊢
    rw [List.filterMap_cons]
    by_cases e : a.n = k
    · rw [if_pos e]
      split
      · rename_i hn
        rw [hlow e]
        simp [hn]
      · rename_i b hb
        rw [tget_cons, if_pos ((leftI_n hb).1.trans e)]
        simp [hb]
    · rw [if_neg e]
      split
      · exact ih
      · rename_i b hb
        rw [tget_cons, if_neg (fun e' => e ((leftI_n hb).1.symm.trans e'))]
        exact ih
theorem gL_tot {q : It → Bool} : ∀ {L : List It}, (∀ x ∈ L, 1 ≤ x.l) → tot (gL q L) + (gF q L).length = tot L
  | [], _ => rfl
  | a :: r, h => by
    have ih := gL_tot (q := q) (fun x hx => h x (List.mem_cons_of_mem _ hx))
    have ha := h a (List.mem_cons_self ..)
    have e1 : gF q (a :: r) = (if q a = true then [itF a] else []) ++ gF q r := by
      unfold gF
      rw [List.filter_cons]
      by_cases hq : q a = true <;> simp [hq]
    have e2 : gL q (a :: r) = (leftI q a).toList ++ gL q r := by
      unfold gL
      rw [List.filterMap_cons]
      cases leftI q a <;> rfl
    rw [e1, e2]
    have e3 : tot ((leftI q a).toList ++ gL q r) = tot (leftI q a).toList + tot (gL q r) := by simp [tot]
    have e4 : tot (a :: r) = a.l.toNat + tot r := by simp [tot]
    rw [e3, e4, List.length_append]
    have e5 : tot (leftI q a).toList + (if q a = true then [itF a] else []).length = a.l.toNat := by
      cases hl : leftI q a with
      | none =>
        have := leftI_none hl
        by_cases hq : q a = true <;> simp [hq, tot] at this ⊢ <;> omega
      | some b =>
        obtain ⟨_, _, hp, hb⟩ := leftI_n hl
        by_cases hq : q a = true <;> simp [hq, tot] at hb ⊢ <;> omega
    omega
theorem exists_min : ∀ l : List It, l ≠ [] → ∃ x ∈ l, ∀ y ∈ l, rk x ≤ rk y
  | [], h => absurd rfl h
  | [a], _ => ⟨a, by simp, by simp⟩
  | a :: b :: r, _ => by
    obtain ⟨x, hx, hm⟩ := exists_min (b :: r) (by simp)
    by_cases h : rk a ≤ rk x
    · refine ⟨a, by simp, fun y hy => ?_⟩
      rcases List.mem_cons.1 hy with rfl | hy
      · exact Int.le_refl _
      · have := hm y hy; omega
    · refine ⟨x, List.mem_cons_of_mem _ hx, fun y hy => ?_⟩
      rcases List.mem_cons.1 hy with rfl | hy
      · omega
      · exact hm y hy
theorem some_taken {L : List It} {most : Int} (hm : 1 ≤ most) (h : L ≠ []) : 0 < (gF (tk L most) L).length := by
  obtain ⟨x, hx, hmin⟩ := exists_min L h
  have : tk L most x = true := by
    unfold tk
    rw [decide_eq_true_iff, filter_none _ L (fun y hy => by have := hmin y hy; simp; omega)]
    simp
    omega
  unfold gF
  rw [List.length_map]
  exact List.length_pos_iff_exists_mem.2 ⟨x, List.mem_filter.2 ⟨hx, this⟩⟩
theorem cok_of' {T : List It} (hA : Asc T) (hT : ∀ g ∈ T, iokB g = true) : cokB T.length (fun k => T.getD k It.zero) = true := by
  unfold cokB callB tascB risB
  rw [Bool.and_eq_true]
  refine ⟨decide_eq_true (fun k hk => hT _ (by simp [List.getD, hk])), decide_eq_true (fun k hk h0 => ?_)⟩
  have := List.pairwise_iff_getElem.1 hA (k - 1) k (by omega) hk (by omega)
  simpa [List.getD, hk, show k - 1 < T.length by omega] using this
theorem cok_iok {L : List It} (h : cokB L.length (fun k => L.getD k It.zero) = true) : ∀ x ∈ L, iokB x = true := fun x hx => by
  obtain ⟨k, hk, e⟩ := List.getElem_of_mem hx
  unfold cokB callB at h
  rw [Bool.and_eq_true] at h
  have := (of_decide_eq_true h.1) k hk
  dsimp only at this
  rwa [show L.getD k It.zero = x by simp [List.getD, hk, e]] at this
/-- what one turn leaves is ok again -/
theorem takL_cok {L : List It} {most : Int} (h : cokB L.length (fun k => L.getD k It.zero) = true) : cokB (takL L most).length (fun k => (takL L most).getD k It.zero) = true := by
  obtain ⟨hL, -⟩ := cok_okL h
  have e : takL L most = gL (tk L most) L := by unfold takL; rw [if_pos h]
  rw [e]
  refine cok_of' (gL_asc hL.2) (fun y hy => ?_)
  obtain ⟨x, hx, hl⟩ := gL_mem hy
  obtain ⟨h1, h2, h3, h4⟩ := leftI_n hl
  have hi := cok_iok h x hx
  unfold itF at h2
  obtain ⟨z1, z2, z3, z4⟩ := Fc.mk.inj h2
  unfold iokB at hi ⊢
  rw [Bool.and_eq_true] at hi ⊢
  rw [z1, z2, z3]
  refine ⟨hi.1, ?_⟩
  have := hi.2
  unfold inb at this ⊢
  simp at this ⊢
  split at h4 <;> omega
/-- what one turn tells, and what it leaves of each node -/
theorem takL_lft {L : List It} {most : Int} (h : cokB L.length (fun k => L.getD k It.zero) = true) (k : Int) : lft (takL L most) k + (if ∃ f ∈ takF L most, f.n = k then 1 else 0) = lft L k := by
  obtain ⟨hL, -⟩ := cok_okL h
  have e : takL L most = gL (tk L most) L := by unfold takL; rw [if_pos h]
  have e' : takF L most = gF (tk L most) L := by unfold takF; rw [if_pos h]
  rw [e, e']
  unfold lft
  rw [gL_get hL.2]
  cases hg : tget L k with
  | none =>
    have hno : ¬ ∃ f ∈ gF (tk L most) L, f.n = k := by
      rintro ⟨f, hf, rfl⟩
      unfold gF at hf
      obtain ⟨x, hx, rfl⟩ := List.mem_map.1 hf
      exact tget_none hg x (List.mem_filter.1 hx).1 rfl
    simp [hno]
  | some x =>
    obtain ⟨hx, hxn⟩ := tget_mem hg
    have hiff : (∃ f ∈ gF (tk L most) L, f.n = k) ↔ tk L most x = true := by
      constructor
      · rintro ⟨f, hf, rfl⟩
        unfold gF at hf
        obtain ⟨z, hz, rfl⟩ := List.mem_map.1 hf
        obtain ⟨hz1, hz2⟩ := List.mem_filter.1 hz
        have := ok_inj hL z hz1 x hx hxn.symm
        rw [← this]; exact hz2
      · exact fun ht => ⟨itF x, List.mem_map.2 ⟨x, List.mem_filter.2 ⟨hx, ht⟩, rfl⟩, hxn⟩
    simp only [hiff]
    cases hl : leftI (tk L most) x with
    | none =>
      have h1 := leftI_none hl
      have h2 := (hL.1 x hx).1
      by_cases hq : tk L most x = true <;> simp [hq] at h1 ⊢ <;> omega
    | some b =>
      have h4 := (leftI_n hl).2.2.2
      by_cases hq : tk L most x = true <;> simp [hq] at h4 ⊢ <;> omega
theorem takL_tot {L : List It} {most : Int} (h : cokB L.length (fun k => L.getD k It.zero) = true) (hm : 1 ≤ most) : tot (takL L most) < tot L ∨ L = [] := by
  obtain ⟨hL, -⟩ := cok_okL h
  have e : takL L most = gL (tk L most) L := by unfold takL; rw [if_pos h]
  by_cases h0 : L = []
  · exact .inr h0
  · left
    have h1 := some_taken hm h0
    have h2 := gL_tot (q := tk L most) (fun x hx => (hL.1 x hx).1)
    rw [e]
    omega
theorem tot_le {L : List It} (h : ∀ x ∈ L, okI x) : tot L ≤ 4 * L.length := by
  induction L with
  | nil => simp [tot]
  | cons a r ih =>
    have h1 := ih (fun x hx => h x (List.mem_cons_of_mem _ hx))
    have h2 := (h a (List.mem_cons_self ..)).2.1
    have e4 : tot (a :: r) = a.l.toNat + tot r := by simp [tot]
    rw [e4, List.length_cons]
    omega
theorem takF_nodup {L : List It} {most : Int} (h : cokB L.length (fun k => L.getD k It.zero) = true) : (takF L most).Pairwise fun f g => f.n < g.n := by
  obtain ⟨hL, -⟩ := cok_okL h
  unfold takF
  rw [if_pos h]
  unfold gF
  rw [List.pairwise_map]
  exact (hL.2.filter _).imp (fun {a b} hab => hab)
theorem takF_rng {L : List It} {most : Int} (h : cokB L.length (fun k => L.getD k It.zero) = true) : ∀ f ∈ takF L most, 0 ≤ f.n ∧ f.n ≤ 7 := by
  obtain ⟨hL, -⟩ := cok_okL h
  unfold takF
  rw [if_pos h]
  unfold gF
  intro f hf
  obtain ⟨x, hx, rfl⟩ := List.mem_map.1 hf
  have := hL.1 x (List.mem_filter.1 hx).1
  exact ⟨this.2.2.1, this.2.2.2⟩
end Go.Proofs.Ythfafmafhodlkaa.I
