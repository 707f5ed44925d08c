/- What was told least is told first: the law, walked. -/
import Derived.Test.YthfafmafhodlkaaIDrawCT
namespace Go.Proofs.Ythfafmafhodlkaa.I
open Go.ChangeShapes Go.WideShapes Go.ChangeAt Go.RowKit
attribute [local go_sem ↓] Go.wp_at_zero Go.wp_at_succ
set_option maxRecDepth 20000 in
theorem eq_run (a b c : Int) (d : Bool) (a' b' c' : Int) (d' : Bool) (w : World) : (binOp BinOp.eql 34 (.agg #[.int .i64 a, .int .i64 b, .int .i64 c, .bool d]) (.agg #[.int .i64 a', .int .i64 b', .int .i64 c', .bool d'])).run Try.prog w = .ok (.bool (decide (a = a' ∧ b = b' ∧ c = c' ∧ d = d'))) w := by
  by_cases h0 : a = a'
  · by_cases h1 : b = b'
    · by_cases h2 : c = c'
      · by_cases h3 : d = d'
        · subst h0 h1 h2 h3
          simp [go_sem]
        · have z : (d == d') = false := by simpa using h3
          subst h0 h1 h2
          simp [go_sem, z, h3]
      · have z : (c == c') = false := by simpa using h2
        subst h0 h1
        simp [go_sem, z, h2]
    · have z : (b == b') = false := by simpa using h1
      subst h0
      simp [go_sem, z, h1]
  · have z : (a == a') = false := by simpa using h0
    simp [go_sem, z, h0]
set_option maxRecDepth 20000 in
theorem ne_run (a b c : Int) (d : Bool) (a' b' c' : Int) (d' : Bool) (w : World) : (binOp BinOp.neq 34 (.agg #[.int .i64 a, .int .i64 b, .int .i64 c, .bool d]) (.agg #[.int .i64 a', .int .i64 b', .int .i64 c', .bool d'])).run Try.prog w = .ok (.bool (!decide (a = a' ∧ b = b' ∧ c = c' ∧ d = d'))) w := by
  by_cases h0 : a = a'
  · by_cases h1 : b = b'
    · by_cases h2 : c = c'
      · by_cases h3 : d = d'
        · subst h0 h1 h2 h3
          simp [go_sem]
        · have z : (d == d') = false := by simpa using h3
          subst h0 h1 h2
          simp [go_sem, z, h3]
      · have z : (c == c') = false := by simpa using h2
        subst h0 h1
        simp [go_sem, z, h2]
    · have z : (b == b') = false := by simpa using h1
      subst h0
      simp [go_sem, z, h1]
  · have z : (a == a') = false := by simpa using h0
    simp [go_sem, z, h0]
theorem takF_len (L : List It) (most : Int) : (takF L most).length ≤ 8 := by
  unfold takF
  split
  · rename_i h
    have := gF_len (tk L most) L
    have := (cok_okL h).2
    omega
  · simp
theorem takL_len (L : List It) (most : Int) : (takL L most).length ≤ 8 := by
  unfold takL
  split
  · rename_i h
    have := gL_len (tk L most) L
    have := (cok_okL h).2
    omega
  · simp
theorem cntf_mono (L : List It) {a b : Int} (h : a ≤ b) : (L.filter fun y => decide (rk y < a)).length ≤ (L.filter fun y => decide (rk y < b)).length := by
  rw [← List.countP_eq_length_filter, ← List.countP_eq_length_filter]
  exact List.countP_mono_left (fun x _ hx => by simp at hx ⊢; omega)
theorem itF_n {x y : It} (h : itF x = itF y) : x.n = y.n := by
  unfold itF at h
  exact (Fc.mk.inj h).1
theorem mem_takF {L : List It} {most : Int} (hL : okL L) (hc : cokB L.length (fun k => L.getD k It.zero) = true) {x : It} (hx : x ∈ L) : itF x ∈ takF L most ↔ tk L most x = true := by
  unfold takF
  rw [if_pos hc]
  unfold gF
  constructor
  · intro h
    obtain ⟨z, hz, e⟩ := List.mem_map.1 h
    obtain ⟨h1, h2⟩ := List.mem_filter.1 hz
    have := ok_inj hL z h1 x hx (itF_n e)
    rw [← this]; exact h2
  · exact fun h => List.mem_map.2 ⟨x, List.mem_filter.2 ⟨hx, h⟩, rfl⟩
theorem first_law {L : List It} {most : Int} (hc : cokB L.length (fun k => L.getD k It.zero) = true) {x y : It} (hx : x ∈ L) (hy : y ∈ L) (h1 : itF x ∈ takF L most) (h2 : ¬ itF y ∈ takF L most) : ¬ x.l < y.l := by
  obtain ⟨hL, -⟩ := cok_okL hc
  rw [mem_takF hL hc hx] at h1
  rw [mem_takF hL hc hy] at h2
  intro hlt
  apply h2
  unfold tk at h1 ⊢
  rw [decide_eq_true_iff] at h1 ⊢
  have hrk : rk y ≤ rk x := by
    obtain ⟨a1, a2, a3, a4⟩ := hL.1 x hx
    obtain ⟨b1, b2, b3, b4⟩ := hL.1 y hy
    unfold rk
    omega
  have := cntf_mono L hrk
  omega
theorem exists_max : ∀ l : List It, l ≠ [] → ∃ x ∈ l, ∀ y ∈ l, rk y ≤ rk x
  | [], h => absurd rfl h
  | [a], _ => ⟨a, by simp, by simp⟩
  | a :: b :: r, _ => by
    obtain ⟨x, hx, hm⟩ := exists_max (b :: r) (by simp)
    by_cases h : rk x ≤ rk a
    · refine ⟨a, by simp, fun y hy => ?_⟩
      rcases List.mem_cons.1 hy with rfl | hy
      · exact Int.le_refl _
      · have := hm y hy; omega
    · refine ⟨x, List.mem_cons_of_mem _ hx, fun y hy => ?_⟩
      rcases List.mem_cons.1 hy with rfl | hy
      · omega
      · exact hm y hy
theorem tak_most (L : List It) (most : Int) : (takF L most).length = 0 ∨ ((takF L most).length : Int) ≤ most := by
  unfold takF
  split
  · rename_i hc
    obtain ⟨hL, -⟩ := cok_okL hc
    unfold gF
    rw [List.length_map]
    by_cases h0 : L.filter (tk L most) = []
    · left; rw [h0]; rfl
    · right
      obtain ⟨x, hx, hm⟩ := exists_max _ h0
      have hxt := (List.mem_filter.1 hx).2
      have hxL := (List.mem_filter.1 hx).1
      unfold tk at hxt
      rw [decide_eq_true_iff] at hxt
      have hnd : L.Nodup := hL.2.imp (fun {a b} hab e => by subst e; omega)
      have h1 : ((L.filter (tk L most)).filter (fun y => decide (rk y < rk x))).length + 1 = (L.filter (tk L most)).length := by
        have hnd2 : (L.filter (tk L most)).Nodup := hnd.filter _
        obtain ⟨s, t, e⟩ := List.append_of_mem hx
        rw [e] at hnd2 hm ⊢
        have hmem : ∀ y, y ∈ s ∨ y ∈ t → rk y < rk x := fun y hy => by
          have hy' : y ∈ s ++ x :: t := by rcases hy with h | h <;> simp [h]
          have h2 := hm y hy'
          have hyL : y ∈ L := by rw [← e] at hy'; exact (List.mem_filter.1 hy').1
          have hne : rk y ≠ rk x := fun e' => by
            have := ok_inj hL y hyL x hxL (rk_n (hL.1 y hyL) (hL.1 x hxL) e')
            subst this
            have h5 := List.nodup_append.1 hnd2
            rcases hy with h | h
            · exact h5.2.2 y h y (by simp) rfl
            · exact (List.nodup_cons.1 h5.2.1).1 h
          omega
        rw [List.filter_append, List.filter_cons, filter_all _ s (fun y hy => by simpa using hmem y (.inl hy)), filter_all _ t (fun y hy => by simpa using hmem y (.inr hy)), if_neg (by simp)]
        simp
        omega
      have h2 : ((L.filter (tk L most)).filter (fun y => decide (rk y < rk x))).length ≤ (L.filter (fun y => decide (rk y < rk x))).length := by
        rw [List.filter_filter, ← List.countP_eq_length_filter, ← List.countP_eq_length_filter]
        exact List.countP_mono_left (fun z _ hz => by simp at hz ⊢; exact hz.1)
      omega
  · left; rfl
/-- whether an item's fact is among the first m facts -/
def hasF (TF : List Fc) (m : Nat) (x : It) : Bool := (TF.take m).any fun g => decide (g.n = x.n ∧ g.i = x.i ∧ g.s = x.s ∧ g.g = x.g)
theorem hasF_succ {TF : List Fc} {m : Nat} {g : Fc} {x : It} (h : TF[m]? = some g) : hasF TF (m + 1) x = (hasF TF m x || decide (g.n = x.n ∧ g.i = x.i ∧ g.s = x.s ∧ g.g = x.g)) := by
  unfold hasF
  rw [List.take_add_one, h, List.any_append]
  simp
theorem hasF_mem {TF : List Fc} {x : It} : hasF TF TF.length x = true ↔ itF x ∈ TF := by
  unfold hasF
  rw [List.take_length, List.any_eq_true]
  constructor
  · rintro ⟨g, hg, h⟩
    rw [decide_eq_true_iff] at h
    obtain ⟨a, b, c, d⟩ := g
    obtain ⟨rfl, rfl, rfl, rfl⟩ := h
    exact hg
  · exact fun h => ⟨itF x, h, by simp [itF]⟩
end Go.Proofs.Ythfafmafhodlkaa.I
